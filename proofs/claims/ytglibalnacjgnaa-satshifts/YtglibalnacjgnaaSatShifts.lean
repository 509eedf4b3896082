/-
  Whatever is handed in, the law SatShifts returns true: Shift, Clamp and Sum answer what the document says. No condition.
-/
import Derived.Test.YtglibalnacjgnaaRefSat
import Derived.ProofKit
import Derived.ShutString
import Derived.ChangeOld
import Derived.Below
namespace Go.Proofs.Ytglibalnacjgnaa.satShifts
open Go.ChangeShapes Go.WideShapes Go.ChangeAt Go.RowKit
open Go.ChangeMaps (open_string shut_string)
set_option linter.unusedVariables false

theorem own : ownKnob Try.prog.godebug = none := by kernel_rfl
theorem laidOut : laidOutB Try.prog = true := by kernel_rfl

/-- WHAT THE WALK IS TOLD OF A SLICE OF INTEGERS THAT CAME IN: it is nil; or it leads to a row of 'cap' cells, the numbers 'zs' (the first 'len' are its elements, the rest its spare room), each fitting its kind. -/
def IsRow (k : IntKind) (w : World) (a : Option Addr) (len cap : Nat) (zs : List Int) : Prop :=
  (a = none ∧ len = 0 ∧ cap = 0 ∧ zs = []) ∨
  ∃ x, a = some x ∧ len ≤ cap ∧ cap ≤ maxLen ∧ zs.length = cap ∧ (∀ i, i < zs.length → w.cell? (x.add i) = some (.int k (zs.getD i 0))) ∧ ∀ n ∈ zs, (Lit.int k n).wf = true


def sumI (l : List Int) : Int := l.foldl (fun s x => s + x) 0
theorem sumI_snoc (l : List Int) (k : Nat) (h : k < l.length) : sumI (l.take (k + 1)) = sumI (l.take k) + l[k]?.getD 0 := by
  rw [List.take_succ_eq_append_getElem h]
  unfold sumI
  rw [List.foldl_append]
  simp [h]
theorem sumI_bd (l : List Int) (hw : ∀ n ∈ l, -2147483648 ≤ n ∧ n ≤ 2147483647) (k : Nat) : -2147483648 * (k : Int) ≤ sumI (l.take k) ∧ sumI (l.take k) ≤ 2147483648 * (k : Int) := by
  induction k with
  | zero => simp [sumI]
  | succ k ih =>
    by_cases h : k < l.length
    · rw [sumI_snoc l k h]
      have hx := hw (l[k]) (List.getElem_mem h)
      have e : l[k]?.getD 0 = l[k] := by simp [h]
      rw [e]
      omega
    · have e : l.take (k + 1) = l.take k := by rw [List.take_of_length_le (by omega), List.take_of_length_le (by omega)]
      rw [e]
      omega

theorem elem_bd (l : List Int) (hw : ∀ n ∈ l, -2147483648 ≤ n ∧ n ≤ 2147483647) (k : Nat) : -2147483648 ≤ l[k]?.getD 0 ∧ l[k]?.getD 0 ≤ 2147483647 := by
  by_cases h : k < l.length
  · have e : l[k]?.getD 0 = l[k] := by simp [h]
    rw [e]
    exact hw _ (List.getElem_mem h)
  · have e : l[k]?.getD 0 = 0 := by simp [h]
    rw [e]
    decide

set_option maxHeartbeats 400000 in
theorem sum_large (a : Option Addr) (len cap : Nat) (w : World) (h : 64 < len) (h' : len ≤ 9223372036854775807) :
    Calls Try.prog 18 #[.slice a len cap] w fun e w' => e = .returned (.tuple #[.int .i32 0, .int .i64 2]) ∧ w' = w := by
  go_enter Try.func18, Try.ntmps18
  go_wp2
  go_ret2
  exact ⟨rfl, rfl⟩

set_option maxHeartbeats 400000 in
theorem sum_none (a : Option Addr) (cap : Nat) (w : World) :
    Calls Try.prog 18 #[.slice a 0 cap] w fun e w' => e = .returned (.tuple #[.int .i32 0, .int .i64 0]) ∧ w' = w := by
  have k : s32 0 = 0 := by decide
  go_enter Try.func18, Try.ntmps18
  go_wp2
  refine wp_loop_rounds 1 ?_
  rw [rounds_succ]
  go_wp2_with (go_at_call 10; refine (to32_any _ _).mono ?_; rintro e w' ⟨rfl, rfl⟩)
  go_ret2
  exact ⟨rfl, rfl⟩

set_option maxHeartbeats 400000 in
theorem sum_any (b off len cap : Nat) (l : List Int) (w : World) (hl : l.length = len) (h : len ≤ 64) (hc : ∀ j, j < len → w.cell? ⟨b, off + j, none⟩ = some (.int .i32 (l.getD j 0))) (hw : ∀ n ∈ l, -2147483648 ≤ n ∧ n ≤ 2147483647) :
    Calls Try.prog 18 #[.slice (some ⟨b, off, none⟩) len cap] w fun e w' => e = .returned (.tuple #[.int .i32 (s32 (sumI l)), .int .i64 0]) ∧ w' = w := by
  have HS := sumI_bd l hw
  have SN := sumI_snoc l
  have HW := elem_bd l hw
  have HL : Hid (l.length = len) := hl
  clear hl hw
  go_enter Try.func18, Try.ntmps18
  go_wp2
  go_loop [4, 12] (fun s i => ∃ k : Nat, k ≤ len ∧ i = .int .i64 k ∧ s = .int .i64 (sumI (l.take k))) (fun _ i => len - (intOf i).toNat)
  case atStart => exact ⟨0, Nat.zero_le _, rfl, rfl⟩
  case round =>
    obtain ⟨k, hk, rfl, rfl⟩ := hrel
    have hb := HS k
    have hb1 := HS (k + 1)
    by_cases hlt : k < len
    · have hcell := hc k hlt
      have sn := SN k (by rw [HL.out]; exact hlt)
      have hx := HW k
      have SN' : Hid (sumI (l.take (k + 1)) = sumI (l.take k) + l[k]?.getD 0) := sn
      clear sn SN HS HW
      go_wp2
      go_round
      case rel => exact ⟨k + 1, by omega, by go_num, by rw [SN'.out]⟩
      case measure => simp [intOf]; omega
    · clear SN HS HW
      go_wp2_with (go_at_call 10; refine (to32_any _ _).mono ?_; rintro e w' ⟨rfl, rfl⟩)
      go_ret2
      have e : l.take k = l := List.take_of_length_le (by rw [HL.out]; omega)
      exact ⟨by rw [e]; rfl, rfl⟩

set_option maxHeartbeats 1000000 in
theorem walk_large (a0 a1 a2 a3 : Int) (a : Option Addr) (len cap : Nat) (w : World) (h : 64 < len) (h' : len ≤ 9223372036854775807) :
    Calls Try.prog 4 #[.int .i32 a0, .int .i32 a1, .int .i32 a2, .int .i64 a3, .slice a len cap] w fun e w' => e = .returned (.bool true) ∧ Below w.heap.size w w' := by
  go_enter Try.func4, Try.ntmps4
  go_wp2_with (go_at_call 18; refine (sum_large _ _ _ _ h h').mono ?_; rintro e w' ⟨rfl, rfl⟩)
  go_ret
  exact ⟨rfl, Below.refl _ _⟩

set_option maxHeartbeats 1000000 in
theorem walk_none (a0 a1 a2 a3 : Int) (a : Option Addr) (cap : Nat) (w : World) (b1 : -2147483648 ≤ a0) (b2 : a0 ≤ 2147483647) (c1 : -2147483648 ≤ a1) (c2 : a1 ≤ 2147483647) (d1 : -2147483648 ≤ a2) (d2 : a2 ≤ 2147483647) (n1 : -9223372036854775808 ≤ a3) (n2 : a3 ≤ 9223372036854775807) :
    Calls Try.prog 4 #[.int .i32 a0, .int .i32 a1, .int .i32 a2, .int .i64 a3, .slice a 0 cap] w fun e w' => e = .returned (.bool true) ∧ Below w.heap.size w w' := by
  have k : s32 0 = 0 := by decide
  go_enter Try.func4, Try.ntmps4
  go_wp2_with (go_at_call 18; refine (sum_none _ _ _).mono ?_; rintro e w' ⟨rfl, rfl⟩)
  refine wp_loop_rounds 1 ?_
  rw [rounds_succ]
  go_wp2_with (first | (go_at_call 19; refine (shift_any _ _ b1 b2 n1 n2 _).mono ?_; rintro e w' ⟨rfl, rfl⟩) | (go_at_call 20; refine (rshift_any _ _ b1 b2 _).mono ?_; rintro e w' ⟨rfl, rfl⟩) | (go_at_call 21; refine (clamp_any _ _ _ _).mono ?_; rintro e w' ⟨rfl, rfl⟩) | (go_at_call 22; refine (rclamp_any _ _ _ b1 b2 c1 c2 d1 d2 _).mono ?_; rintro e w' ⟨rfl, rfl⟩) | (go_at_call 11; refine (rsat_any _ _).mono ?_; rintro e w' ⟨rfl, rfl⟩))
  go_ret
  exact ⟨rfl, Below.refl _ _⟩

set_option maxHeartbeats 1000000 in
theorem walk_some (a0 a1 a2 a3 : Int) (b off len cap : Nat) (l : List Int) (w : World) (b1 : -2147483648 ≤ a0) (b2 : a0 ≤ 2147483647) (c1 : -2147483648 ≤ a1) (c2 : a1 ≤ 2147483647) (d1 : -2147483648 ≤ a2) (d2 : a2 ≤ 2147483647) (n1 : -9223372036854775808 ≤ a3) (n2 : a3 ≤ 9223372036854775807) (hl : l.length = len) (h : len ≤ 64) (hc : ∀ j, j < len → w.cell? ⟨b, off + j, none⟩ = some (.int .i32 (l.getD j 0))) (hw : ∀ n ∈ l, -2147483648 ≤ n ∧ n ≤ 2147483647) :
    Calls Try.prog 4 #[.int .i32 a0, .int .i32 a1, .int .i32 a2, .int .i64 a3, .slice (some ⟨b, off, none⟩) len cap] w fun e w' => e = .returned (.bool true) ∧ Below w.heap.size w w' := by
  have SU := fun w hc => sum_any b off len cap l w hl h hc hw
  have HS := sumI_bd l hw
  have SN := sumI_snoc l
  have HW := elem_bd l hw
  have HL : Hid (l.length = len) := hl
  clear hl hw
  go_enter Try.func4, Try.ntmps4
  go_wp2_with fail
  refine (SU _ hc).mono ?_
  rintro e w' ⟨rfl, rfl⟩
  clear SU
  go_wp2
  go_loop [13, 32] (fun s i => ∃ k : Nat, k ≤ len ∧ i = .int .i64 k ∧ s = .int .i64 (sumI (l.take k))) (fun _ i => len - (intOf i).toNat)
  case atStart => exact ⟨0, Nat.zero_le _, rfl, rfl⟩
  case round =>
    obtain ⟨k, hk, rfl, rfl⟩ := hrel
    have hb := HS k
    have hb1 := HS (k + 1)
    by_cases hlt : k < len
    · have hcell := hc k hlt
      have sn := SN k (by rw [HL.out]; exact hlt)
      have hx := HW k
      have SN' : Hid (sumI (l.take (k + 1)) = sumI (l.take k) + l[k]?.getD 0) := sn
      clear sn SN HS HW
      go_wp2
      go_round
      case rel => exact ⟨k + 1, by omega, by go_num, by rw [SN'.out]⟩
      case measure => simp [intOf]; omega
    · clear SN HS HW
      have e : l.take k = l := List.take_of_length_le (by rw [HL.out]; omega)
      rw [e] at *
      go_wp2_with (first | (go_at_call 19; refine (shift_any _ _ b1 b2 n1 n2 _).mono ?_; rintro e w' ⟨rfl, rfl⟩) | (go_at_call 20; refine (rshift_any _ _ b1 b2 _).mono ?_; rintro e w' ⟨rfl, rfl⟩) | (go_at_call 21; refine (clamp_any _ _ _ _).mono ?_; rintro e w' ⟨rfl, rfl⟩) | (go_at_call 22; refine (rclamp_any _ _ _ b1 b2 c1 c2 d1 d2 _).mono ?_; rintro e w' ⟨rfl, rfl⟩) | (go_at_call 11; refine (rsat_any _ _).mono ?_; rintro e w' ⟨rfl, rfl⟩))
      go_ret
      exact ⟨rfl, Below.refl _ _⟩

theorem walk (a0 : Int) (a1 : Int) (a2 : Int) (a3 : Int) (a4 : Option Addr) (len4 cap4 : Nat) (z4 : List Int) (w : World) (w0 : (Lit.int .i32 a0).wf = true) (w1 : (Lit.int .i32 a1).wf = true) (w2 : (Lit.int .i32 a2).wf = true) (w3 : (Lit.int .i64 a3).wf = true) (w4 : IsRow .i32 w a4 len4 cap4 z4) :
    Calls Try.prog 4 #[.int .i32 a0, .int .i32 a1, .int .i32 a2, .int .i64 a3, .slice a4 len4 cap4] w fun e w' => e = .returned (.bool true) ∧ Below w.heap.size w w' := by
  have b0 := i32_of w0
  have b1 := i32_of w1
  have b2 := i32_of w2
  have b3 := i64_of w3
  rcases w4 with ⟨rfl, rfl, rfl, rfl⟩ | ⟨x, rfl, hl, hm, hz, hcell, hwz⟩
  · exact walk_none a0 a1 a2 a3 none 0 w b0.1 b0.2 b1.1 b1.2 b2.1 b2.2 b3.1 b3.2
  · by_cases h0 : len4 = 0
    · subst h0
      exact walk_none a0 a1 a2 a3 _ cap4 w b0.1 b0.2 b1.1 b1.2 b2.1 b2.2 b3.1 b3.2
    · by_cases h1 : 64 < len4
      · exact walk_large a0 a1 a2 a3 _ len4 cap4 w h1 (by unfold maxLen at hm; omega)
      · obtain ⟨b, off, rfl, hc⟩ := ints_at hcell (by omega)
        refine walk_some a0 a1 a2 a3 b off len4 cap4 (z4.take len4) w b0.1 b0.2 b1.1 b1.2 b2.1 b2.2 b3.1 b3.2 (by simp; omega) (by omega) ?_ ?_
        · intro j hj
          rw [hc j (by omega)]
          simp [hj]
        · intro n hn
          exact i32_of (hwz n (List.mem_of_mem_take hn))

/-! ### THE ROW's STEP: WRITTEN OUT: LEAVE IT -/
set_option maxRecDepth 100000 in
theorem lifted (os : Os) (started : os.Started) (H : Type) (enc : TypeId × Value → H) :
    ReturnsInHanded {} Try.checked os 4 .any (Rows.satShiftsSpec.pre6 enc Try.prog Try.f4 Rows.satShiftsRow.domain false) (Rows.satShiftsSpec.post enc Try.prog Try.f4 false true false false) := by
  refine returnsInHanded_of_change (C := Try.checked) own started (by kernel_rfl) Try.func4
    (ChangeSpec.witness6 (enc := enc) (C := Try.checked) false ⟨#[], #[.int .i32 0, .int .i32 0, .int .i32 0, .int .i64 0, .slice none 0 0], []⟩ 8 (by kernel_rfl) (by kernel_rfl) (by kernel_rfl) (by kernel_rfl)) ?_
  intro W base args ds gs before hval0 hW hcnd _
  have hval : ∀ (j : Nat) t v, Try.f4.params[j]? = some t → args[j]? = some v → Value.okWide Try.prog W .any base t v := hval0
  have hW' := hW
  obtain ⟨p, q, hA0, hV, rfl, hfz, hnd⟩ := hW
  have hA : DataW.TrodAll enc Try.prog W 0 (fun _ => true) true Try.f4.params.toList args.toList ds p := hA0
  rw [Try.params4] at hA hval
  obtain ⟨v0, vs0, d0, ds0, p0, q0, hargs, rfl, rfl, h0, r0⟩ := trodAll_cons hA
  obtain ⟨v1, vs1, d1, ds1, p1, q1, rfl, rfl, rfl, h1, r1⟩ := trodAll_cons r0
  obtain ⟨v2, vs2, d2, ds2, p2, q2, rfl, rfl, rfl, h2, r2⟩ := trodAll_cons r1
  obtain ⟨v3, vs3, d3, ds3, p3, q3, rfl, rfl, rfl, h3, r3⟩ := trodAll_cons r2
  obtain ⟨v4, vs4, d4, ds4, p4, q4, rfl, rfl, rfl, h4, r4⟩ := trodAll_cons r3
  obtain ⟨rfl, rfl, rfl⟩ := trodAll_nil r4
  obtain rfl : args = #[v0, v1, v2, v3, v4] := by cases args; simp_all
  obtain ⟨rfl, rfl⟩ := trodVars_none hV
  obtain ⟨a0, rfl, rfl, rfl, w0⟩ := open_int Try.underlying21 (hval 0 21 v0 rfl rfl) h0
  obtain ⟨a1, rfl, rfl, rfl, w1⟩ := open_int Try.underlying21 (hval 1 21 v1 rfl rfl) h1
  obtain ⟨a2, rfl, rfl, rfl, w2⟩ := open_int Try.underlying21 (hval 2 21 v2 rfl rfl) h2
  obtain ⟨a3, rfl, rfl, rfl, w3⟩ := open_int Try.underlying3 (hval 3 3 v3 rfl rfl) h3
  obtain ⟨a4, len4, cap4, rfl⟩ := okWide_slice Try.underlying31 (hval 4 31 v4 rfl rfl)
  have k4 := h4
  have lt4 : ∀ x ∈ p4, x.block < W.heap.size := by obtain ⟨m, hm⟩ := k4; exact DataW.trod_lt m _ _ _ hm
  obtain ⟨z4, w4⟩ : ∃ zs, IsRow .i32 W a4 len4 cap4 zs := by
    obtain ⟨fuel, hf⟩ := h4
    rcases open_ints Try.underlying31 Try.underlying21 (by kernel_rfl) hf with ⟨hcs, _⟩ | ⟨x, l, c, zs, hcs, _, hl, hm, hz, _, hcell, hwz⟩
    · simp [Value.cells] at hcs
      obtain ⟨rfl, rfl, rfl⟩ := hcs
      exact ⟨[], .inl ⟨rfl, rfl, rfl, rfl⟩⟩
    · simp [Value.cells] at hcs
      obtain ⟨rfl, rfl, rfl⟩ := hcs
      exact ⟨zs, .inr ⟨_, rfl, hl, hm, by simpa using hz, hcell, hwz⟩⟩
  clear hA0 hval0
  refine (walk a0 a1 a2 a3 a4 len4 cap4 z4 W w0 w1 w2 w3 w4).mono fun e W' ⟨he, bel⟩ => ?_
  subst he
  exact ⟨_, rfl, _, _, _, [], _, [], hW', trodAll_mk1 (shut_bool Try.underlying4 _), (trodAll_cons_mk (shut_int Try.underlying21 w0) (trodAll_cons_mk (shut_int Try.underlying21 w1) (trodAll_cons_mk (shut_int Try.underlying21 w2) (trodAll_cons_mk (shut_int Try.underlying3 w3) (trodAll_cons_mk (Below.trod laidOut (by kernel_rfl) (of_decide_eq_true (by kernel_rfl)) k4 bel lt4) trodAll_mk0))))), rfl, bel.frame _, fun h => by cases h⟩

theorem over : Rows.satShiftsRow.holds Try.pinned (OpenSpec.ofChange Rows.satShiftsSpec) :=
  OpenClaim.holds_of_wide 4 Try.f4 rfl rfl rfl rfl rfl rfl rfl ⟨rfl, rfl, rfl, rfl, rfl⟩ rfl rfl rfl rfl rfl (by kernel_rfl) Try.func4 (by kernel_rfl)
    (of_decide_eq_true (by kernel_rfl)) (by unfold Func.isWrapper; first | (rw [if_pos (by decide +kernel)]; kernel_rfl) | (rw [if_neg (by decide +kernel)]; exact ⟨rfl, rfl⟩))
    (fun os started H enc _ => lifted os started H enc)


end Go.Proofs.Ytglibalnacjgnaa.satShifts
namespace Go.Proofs.Ytglibalnacjgnaa
/-- THE STATEMENT -/
theorem satShifts_holds : Rows.SatShiftsSaid := satShifts.over
#print axioms satShifts_holds
end Go.Proofs.Ytglibalnacjgnaa
