/-
  Whatever is handed in, the law CrcLinear returns true: of four texts of one length, any three of them by exclusive or the fourth one: their sums, too. No condition.
-/
import Derived.Test.YtllhceopllpajaaCrc
import Derived.Test.YtllhceopllpajaaOpenZ
import Derived.ProofKit
import Derived.Laws.IdiomStrings
import Derived.Deep.RegionHeld3
import Derived.Deep.OwnRows
import Derived.Deep.LoopGhost
import Derived.Deep.QuietTactic
namespace Go.Proofs.Ytllhceopllpajaa.crcLinear
open Go.ChangeShapes Go.WideShapes Go.ChangeAt Go.RowKit
set_option linter.unusedVariables false

theorem own : ownKnob Try.prog.godebug = none := by kernel_rfl
theorem laidOut : laidOutB Try.prog = true := by kernel_rfl


theorem sum_none : crcN ⟨#[]⟩ = 65535 := by kernel_rfl
theorem sum_nine : crcN ⟨#[49, 50, 51, 52, 53, 54, 55, 56, 57]⟩ = 10673 := by kernel_rfl
theorem first_sum (w : World) : Calls Try.prog 11 #[.string ⟨#[]⟩] w fun e w' => e = .returned (.int .u16 65535) ∧ w' = w := by
  have := sum_any ⟨#[]⟩ w (by decide)
  rw [sum_none] at this
  exact this
theorem second_sum (w : World) : Calls Try.prog 11 #[.string ⟨#[49, 50, 51, 52, 53, 54, 55, 56, 57]⟩] w fun e w' => e = .returned (.int .u16 10673) ∧ w' = w := by
  have := sum_any ⟨#[49, 50, 51, 52, 53, 54, 55, 56, 57]⟩ w (by decide)
  rw [sum_nine] at this
  exact this

/-- the text of three, byte by byte -/
def three (A B C : ByteArray) (n : Nat) : List UInt8 := (List.range n).map fun i => UInt8.ofNat (bt A i ^^^ bt B i ^^^ bt C i)
theorem three_length (A B C : ByteArray) (n : Nat) : (three A B C n).length = n := by simp [three]
theorem x3_lt (A B C : ByteArray) (i : Nat) : bt A i ^^^ bt B i ^^^ bt C i < 256 :=
  Nat.xor_lt_two_pow (n := 8) (Nat.xor_lt_two_pow (n := 8) (bt_lt _ _) (bt_lt _ _)) (bt_lt _ _)
theorem three_at (A B C : ByteArray) (n : Nat) (i : Nat) (h : i < (three A B C n).length) : ((three A B C n)[i]).toNat = bt A i ^^^ bt B i ^^^ bt C i := by
  have := x3_lt A B C i
  simp only [three, List.getElem_map, List.getElem_range, UInt8.toNat_ofNat']
  exact Nat.mod_eq_of_lt this
theorem three_bt (A B C : ByteArray) (n : Nat) (i : Nat) (h : i < n) : bt ⟨(three A B C n).toArray⟩ i = bt A i ^^^ bt B i ^^^ bt C i := by
  have hs : i < (ByteArray.mk (three A B C n).toArray).size := by
    show i < (three A B C n).toArray.size
    simp [three_length, h]
  unfold bt
  rw [dif_pos hs]
  have := three_at A B C n i (by rw [three_length]; exact h)
  rw [show ((ByteArray.mk (three A B C n).toArray)[i]'hs) = (three A B C n)[i]'(by rw [three_length]; exact h) from rfl, this]
  rfl
theorem three_sum (A B C : ByteArray) (n : Nat) (hA : A.size = n) (hB : B.size = n) (hC : C.size = n) : crcN ⟨(three A B C n).toArray⟩ = crcN A ^^^ crcN B ^^^ crcN C := by
  have hs : (ByteArray.mk (three A B C n).toArray).size = n := by
    show (three A B C n).toArray.size = n
    simp [three_length]
  unfold crcN
  rw [hs, hA, hB, hC]
  exact sumN_three _ _ _ _ n fun k hk => three_bt A B C n k hk
theorem index_bt (s : ByteArray) (j : Nat) (h : j < s.size) (W : World) : (Instr.index 9 (.string s) (.int .i64 (j : Int))).run Try.prog W = .ok (.int .u8 (bt s j : Nat)) W := by
  rw [run_index_string W 9 s .i64 (j : Int) Try.underlying9, dif_pos (by omega)]
  unfold bt
  rw [dif_pos h]
  rfl

set_option maxHeartbeats 4000000 in
set_option maxRecDepth 100000 in
theorem walk (a : ByteArray) (b : ByteArray) (c : ByteArray) (w : World) (h_a : a.size ≤ 140737488351232) (h_b : b.size ≤ 140737488351232) (h_c : c.size ≤ 140737488351232) :
    Calls Try.prog 4 #[.string a, .string b, .string c] w fun e w' => e = .returned (.bool true) ∧ Below w.heap.size w w' := by
  obtain ⟨n, n1, n2, n3, hmin⟩ : ∃ n : Nat, n ≤ a.size ∧ n ≤ b.size ∧ n ≤ c.size ∧ ∀ (ts : Array TypeId) (t : TypeId) (W : World), (Builtin.min_ ts t #[.int .i64 (a.size : Int), .int .i64 (b.size : Int), .int .i64 (c.size : Int)]).run Try.prog W = .ok (.int .i64 (n : Int)) W := by
    refine ⟨min (min a.size b.size) c.size, by omega, by omega, by omega, fun ts t W => ?_⟩
    rw [run_min_int3]
    congr 2
    split <;> split <;> omega
  have hA : (a.extract 0 n).size = n := by rw [ByteArray.size_extract]; omega
  have hB : (b.extract 0 n).size = n := by rw [ByteArray.size_extract]; omega
  have hC : (c.extract 0 n).size = n := by rw [ByteArray.size_extract]; omega
  have q1 : ∀ W : World, (Instr.slice 9 (.string a) none (some (.int .i64 (n : Int))) none).run Try.prog W = .ok (.string (a.extract 0 n)) W := fun W => by
    rw [run_slice_string_to_if W 9 a .i64 (n : Int) Try.underlying9]
    rw [if_pos (by omega)]
    rfl
  have q2 : ∀ W : World, (Instr.slice 9 (.string b) none (some (.int .i64 (n : Int))) none).run Try.prog W = .ok (.string (b.extract 0 n)) W := fun W => by
    rw [run_slice_string_to_if W 9 b .i64 (n : Int) Try.underlying9]
    rw [if_pos (by omega)]
    rfl
  have q3 : ∀ W : World, (Instr.slice 9 (.string c) none (some (.int .i64 (n : Int))) none).run Try.prog W = .ok (.string (c.extract 0 n)) W := fun W => by
    rw [run_slice_string_to_if W 9 c .i64 (n : Int) Try.underlying9]
    rw [if_pos (by omega)]
    rfl
  have hn : n ≤ 140737488351232 := by omega
  clear n1 n2 n3 h_a h_b h_c
  generalize a.extract 0 n = A at hA q1
  generalize b.extract 0 n = B at hB q2
  generalize c.extract 0 n = C at hC q3
  go_enter Try.func4, Try.ntmps4
  go_wp2_with fail
  refine (first_sum _).mono ?_
  rintro r w1 ⟨rfl, rfl⟩
  go_wp2_with fail
  refine (second_sum _).mono ?_
  rintro r w1 ⟨rfl, rfl⟩
  go_wp2_with fail
  clear hmin
  go_quiet (fail)
  clear q1 q2 q3
  have hmk := run_make_row' (P := Try.prog) 28 5 (.int .u8 0) 1 Try.underlying28 (by kernel_rfl) rfl .i64 .i64 n (by omega) (by omega)
  have R0 : Hid (World.rowIs ((w1.drewN nq).alloc (.cells (madeCells #[.int .u8 0] n) 5)) w1.heap.size 5 n (fun _ => .int .u8 0)) := World.rowIs_made (w1.drewN nq) (.int .u8 0) n 5
  have B0 : Hid (Below w1.heap.size w1 ((w1.drewN nq).alloc (.cells (madeCells #[.int .u8 0] n) 5))) := Below.alloc (⟨rfl, rfl, rfl, Nat.le_refl _, fun _ _ => rfl⟩ : Below w1.heap.size w1 (w1.drewN nq)) (Nat.le_refl _) _
  go_wp2_with fail
  clear hmk
  go_loopg [36] (n + 1) (fun g q wr => ∃ j : Nat, q = .int .i64 j ∧ n - j < g ∧ j ≤ n ∧ Hid (Below w1.heap.size w1 wr) ∧ Hid (wr.rowIs w1.heap.size 5 n (fun i => .int .u8 (if i < j then ((bt A i ^^^ bt B i ^^^ bt C i : Nat) : Int) else 0))))
  case atStart => exact ⟨0, rfl, by omega, by omega, B0.out, World.rowIs.congr R0.out fun i _ => by simp⟩
  case round =>
    obtain ⟨j, rfl, hg, hj, HB, HR⟩ := hrel
    clear B0 R0
    by_cases hlt : j < n
    · have z1 : (j : Int) < (n : Int) := by omega
      have c0 := HR.out.cell hlt
      have f0 := HR.out.frozen j
      have i1 := index_bt A j (by omega)
      have i2 := index_bt B j (by omega)
      have i3 := index_bt C j (by omega)
      have x1 := u8_xor_nat (bt A j) (bt B j) (bt_lt _ _) (bt_lt _ _)
      have x2 := u8_xor_nat (bt A j ^^^ bt B j) (bt C j) (Nat.xor_lt_two_pow (n := 8) (bt_lt _ _) (bt_lt _ _)) (bt_lt _ _)
      go_wp2_with fail
      go_region
      go_wp2_with fail
      go_roundg (n - (j + 1) + 1)
      case measure => omega
      case rel =>
        refine ⟨j + 1, by go_num, by omega, by omega, HB.out.drew.setCell (p := ⟨w1.heap.size, j, none⟩) (Nat.le_refl _) _, (HR.out.drew.set j _).congr fun i hi => ?_⟩
        by_cases e : i = j
        · subst e
          rw [if_pos rfl, if_pos (by omega)]
        · rw [if_neg e]
          congr 1
          by_cases e2 : i < j
          · rw [if_pos e2, if_pos (by omega)]
          · rw [if_neg e2, if_neg (by omega)]
    · have z1 : ¬ (j : Int) < (n : Int) := by omega
      obtain rfl : j = n := by omega
      have hcv := run_convert_bytes_back (P := Try.prog) wr 28 9 5 ⟨w1.heap.size, 0, none⟩ j (three A B C j) Try.underlying28 Try.underlying5 Try.underlying9 (fun i hi => by
        have hi' : i < j := by rw [three_length] at hi; exact hi
        rw [three_at _ _ _ _ _ hi]
        have := HR.out.cell hi'
        rw [if_pos hi'] at this
        rw [Addr.add_lit, Nat.zero_add]
        exact this)
      rw [three_length] at hcv
      have hD := three_sum A B C j hA hB hC
      have hDs : (ByteArray.mk (three A B C j).toArray).size = j := by
        show (three A B C j).toArray.size = j
        simp [three_length]
      generalize ByteArray.mk (three A B C j).toArray = D at hcv hD hDs
      have SA := fun W => sum_any A W (by omega)
      have SB := fun W => sum_any B W (by omega)
      have SC := fun W => sum_any C W (by omega)
      have SD := fun W => sum_any D W (by omega)
      have hx1 := u16_xor_nat (crcN A) (crcN B) (crcN_lt A) (crcN_lt B)
      have hx2 := u16_xor_nat (crcN A ^^^ crcN B) (crcN C) (Nat.xor_lt_two_pow (n := 16) (crcN_lt A) (crcN_lt B)) (crcN_lt C)
      rw [hD] at SD
      generalize crcN A = ka at *
      generalize crcN B = kb at *
      generalize crcN C = kc at *
      have HA : Hid (_) := SA
      have HBs : Hid (_) := SB
      have HC : Hid (_) := SC
      have HD : Hid (_) := SD
      clear SA SB SC SD hD
      go_wp2_with fail
      refine (HD.out _).mono ?_
      rintro r w2 ⟨rfl, rfl⟩
      go_wp2_with fail
      refine (HA.out _).mono ?_
      rintro r w2 ⟨rfl, rfl⟩
      go_wp2_with fail
      refine (HBs.out _).mono ?_
      rintro r w2 ⟨rfl, rfl⟩
      go_wp2_with fail
      refine (HC.out _).mono ?_
      rintro r w2 ⟨rfl, rfl⟩
      go_wp2_with fail
      go_ret
      exact ⟨rfl, HB.out⟩

/-! ### THE ROW's STEP -/
set_option maxRecDepth 100000 in
theorem lifted (os : Os) (started : os.Started) (H : Type) (enc : TypeId × Value → H) :
    ReturnsInHanded {} Try.checked os 4 .any (Rows.crcLinearSpec.pre6 enc Try.prog Try.f4 Rows.crcLinearRow.domain false) (Rows.crcLinearSpec.post enc Try.prog Try.f4 false true false false) := by
  refine returnsInHanded_of_change_sized (C := Try.checked) own started (by kernel_rfl) Try.func4
    (ChangeSpec.witness6 (enc := enc) (C := Try.checked) false ⟨#[], #[.string ByteArray.empty, .string ByteArray.empty, .string ByteArray.empty], []⟩ 8 (by kernel_rfl) (by kernel_rfl) (by kernel_rfl) (by kernel_rfl)) ?_
  intro W base args ds gs before hval0 hW hcnd hsz0 _
  have hval : ∀ (j : Nat) t v, Try.f4.params[j]? = some t → args[j]? = some v → Value.okWide Try.prog W .any base t v := hval0
  have hW' := hW
  obtain ⟨p, q, hA0, hV, rfl, hfz, hnd⟩ := hW
  have hA : DataW.TrodAll enc Try.prog W 0 (fun _ => true) true Try.f4.params.toList args.toList ds p := hA0
  rw [Try.params4] at hA hval
  obtain ⟨v0, vs0, d0, ds0, p0, q0, hargs, rfl, rfl, h0, r0⟩ := trodAll_cons hA
  obtain ⟨v1, vs1, d1, ds1, p1, q1, rfl, rfl, rfl, h1, r1⟩ := trodAll_cons r0
  obtain ⟨v2, vs2, d2, ds2, p2, q2, rfl, rfl, rfl, h2, r2⟩ := trodAll_cons r1
  obtain ⟨rfl, rfl, rfl⟩ := trodAll_nil r2
  obtain rfl : args = #[v0, v1, v2] := by cases args; simp_all
  obtain ⟨rfl, rfl⟩ := trodVars_none hV
  have hz0 : Light Try.prog 9 d0 := light_of hsz0 (j := 0) (by first | rfl | (rw [Try.params4]; rfl)) rfl
  have k0 := h0
  have lt0 : ∀ x ∈ p0, x.block < W.heap.size := by obtain ⟨m, hm⟩ := k0; exact DataW.trod_lt m _ _ _ hm
  obtain ⟨a, rfl, rfl, rfl, h_a⟩ := Go.ChangeMaps.open_string Try.underlying9 (hval 0 9 v0 rfl rfl) h0
  replace h_a : a.size ≤ 140737488351232 := light_string hz0
  have hz1 : Light Try.prog 9 d1 := light_of hsz0 (j := 1) (by first | rfl | (rw [Try.params4]; rfl)) rfl
  have k1 := h1
  have lt1 : ∀ x ∈ p1, x.block < W.heap.size := by obtain ⟨m, hm⟩ := k1; exact DataW.trod_lt m _ _ _ hm
  obtain ⟨b, rfl, rfl, rfl, h_b⟩ := Go.ChangeMaps.open_string Try.underlying9 (hval 1 9 v1 rfl rfl) h1
  replace h_b : b.size ≤ 140737488351232 := light_string hz1
  have hz2 : Light Try.prog 9 d2 := light_of hsz0 (j := 2) (by first | rfl | (rw [Try.params4]; rfl)) rfl
  have k2 := h2
  have lt2 : ∀ x ∈ p2, x.block < W.heap.size := by obtain ⟨m, hm⟩ := k2; exact DataW.trod_lt m _ _ _ hm
  obtain ⟨c, rfl, rfl, rfl, h_c⟩ := Go.ChangeMaps.open_string Try.underlying9 (hval 2 9 v2 rfl rfl) h2
  replace h_c : c.size ≤ 140737488351232 := light_string hz2
  clear hA0 hval0
  refine (walk a b c W h_a h_b h_c).mono fun e W' ⟨he, bel⟩ => ?_
  subst he
  exact ⟨_, rfl, _, _, _, [], _, [], hW', trodAll_mk1 (shut_bool Try.underlying4 _), (trodAll_cons_mk (Below.trod laidOut (by kernel_rfl) (of_decide_eq_true (by kernel_rfl)) k0 bel lt0) (trodAll_cons_mk (Below.trod laidOut (by kernel_rfl) (of_decide_eq_true (by kernel_rfl)) k1 bel lt1) (trodAll_cons_mk (Below.trod laidOut (by kernel_rfl) (of_decide_eq_true (by kernel_rfl)) k2 bel lt2) trodAll_mk0))), rfl, bel.frame _, fun h => by cases h⟩

theorem over : Rows.crcLinearRow.holds Try.pinned (OpenSpec.ofChange Rows.crcLinearSpec) :=
  OpenClaim.holds_of_wide 4 Try.f4 rfl rfl rfl rfl rfl rfl rfl ⟨rfl, rfl, rfl, rfl, rfl⟩ rfl rfl rfl rfl rfl (by kernel_rfl) Try.func4 (by kernel_rfl)
    (of_decide_eq_true (by kernel_rfl)) (by unfold Func.isWrapper; first | (rw [if_pos (by decide +kernel)]; kernel_rfl) | (rw [if_neg (by decide +kernel)]; exact ⟨rfl, rfl⟩))
    (fun os started H enc _ => lifted os started H enc)


end Go.Proofs.Ytllhceopllpajaa.crcLinear
namespace Go.Proofs.Ytllhceopllpajaa
/-- THE STATEMENT -/
theorem crcLinear_holds : Rows.CrcLinearSaid := crcLinear.over
#print axioms crcLinear_holds
end Go.Proofs.Ytllhceopllpajaa
