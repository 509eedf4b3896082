/-
  Whatever is handed in, the law CutsDual returns true: the dual fails where the tree, of all parts that do not, does not; the dual of the dual is the tree. No condition.
-/
import Derived.Test.YtacophekhknbpaaEi
import Derived.Test.YtacophekhknbpaaOpenG
import Derived.Test.YtacophekhknbpaaGatEq
import Derived.Laws.BitsAllLaws
namespace Go.Proofs.Ytacophekhknbpaa.cutsDual
open Go.ChangeShapes Go.WideShapes Go.ChangeAt Go.RowKit
set_option linter.unusedVariables false

theorem own : ownKnob Try.prog.godebug = none := by kernel_rfl
theorem laidOut : laidOutB Try.prog = true := by kernel_rfl


theorem first_dual (b : Nat) (A : Option Addr) (c : Nat) (w : World) (h : RowG w (some ⟨b, 0, none⟩) 3 (eiT A c)) : Calls Try.prog 11 #[.slice (some ⟨b, 0, none⟩) 3 3] w fun e w' => ∃ bd, e = .returned (.tuple #[.slice (some ⟨bd, 0, none⟩) 3 3, .int .i64 0]) ∧ w'.cell? ⟨bd, 6, none⟩ = some (.int .i64 2) ∧ Below w.heap.size w w' := by
  refine (dual_ok (some ⟨b, 0, none⟩) 3 3 (eiT A c) w h (eiT_ok A c)).mono ?_
  rintro e w' ⟨bd, u, rfl, hd, hb⟩
  refine ⟨bd, rfl, ?_, hb⟩
  have h1 := (hd.cell 2 (by decide)).hk
  rw [(hd.duo.dual 2 (by decide)).k] at h1
  exact h1

theorem bit_low {p i : Nat} (hi : i < 8) : (p &&& 255).testBit i = p.testBit i := by
  rw [Nat.testBit_and, show (255 : Nat) = 2 ^ 8 - 1 from rfl, Nat.testBit_two_pow_sub_one, decide_eq_true hi, Bool.and_true]
theorem bit_not {p i : Nat} (hp : p < 65536) (hi : i < 8) : ((65535 - p) &&& 255).testBit i = !p.testBit i := by
  rw [bit_low hi, show 65535 - p = 2 ^ 16 - (p + 1) by omega, Nat.testBit_two_pow_sub_succ (show p < 2 ^ 16 from hp), decide_eq_true (show i < 16 by omega), Bool.true_and]

theorem xor_max {p : Nat} (hp : p < 65536) : 65535 ^^^ p = 65535 - p := by
  apply Nat.eq_of_testBit_eq
  intro i
  rw [Nat.testBit_xor, show 65535 - p = 2 ^ 16 - (p + 1) by omega, Nat.testBit_two_pow_sub_succ (show p < 2 ^ 16 from hp), show (65535 : Nat) = 2 ^ 16 - 1 from rfl, Nat.testBit_two_pow_sub_one]
  by_cases q : i < 16
  · rw [decide_eq_true q]
    simp
  · have : p.testBit i = false := Nat.testBit_lt_two_pow (Nat.lt_of_lt_of_le hp (Nat.pow_le_pow_right (show 0 < 2 by decide) (show 16 ≤ i by omega)))
    rw [decide_eq_false q, this]
    rfl

set_option maxHeartbeats 4000000 in
set_option maxRecDepth 100000 in
theorem walk_bad (ta : Option Addr) (tn tc : Nat) (t : Nat → Gt) (p : Nat) (w : World) (h : RowG w ta tn t) (E : Int) (hc : chG t tn = E) (h0 : ¬ E = 0) :
    Calls Try.prog 5 #[.slice ta tn tc, .int .u16 p] w fun e w' => e = .returned (.bool true) ∧ Below w.heap.size w w' := by
  have HR : Hid (RowG w ta tn t) := h
  have HC : Hid (chG t tn = E ∧ ¬ E = 0) := ⟨hc, h0⟩
  have z : (E != 0) = true := by simpa using h0
  clear h hc h0
  go_enter Try.func5, Try.ntmps5
  go_wp2_with fail
  refine (either_any _).mono ?_
  rintro e w1 ⟨b, A, c, rfl, hr, hb⟩
  have B1 : Hid (Below w.heap.size w w1) := hb
  have R1 : Hid (RowG w1 (some ⟨b, 0, none⟩) 3 (eiT A c)) := hr
  clear hr hb
  go_wp2_with fail
  refine (first_dual b A c _ R1.out).mono ?_
  rintro e w2 ⟨bd, rfl, x0, hb⟩
  have B2 : Hid (Below w.heap.size w w2) := B1.out.trans (hb.mono B1.out.size)
  have l0 := lt_of_cell x0
  clear hb B1 R1
  go_wp2_with fail
  refine (dual_bad ta tn tc t _ (HR.out.step B2.out) E HC.out.1 HC.out.2).mono ?_
  rintro e w3 ⟨rfl, hb⟩
  have B3 : Hid (Below w.heap.size w w3) := B2.out.trans (hb.mono B2.out.size)
  clear hb B2 x0 l0
  go_wp2_with fail
  go_ret
  exact ⟨rfl, B3.out⟩

set_option maxHeartbeats 4000000 in
set_option maxRecDepth 100000 in
theorem walk_ok (ta : Option Addr) (tn tc : Nat) (t : Nat → Gt) (p : Nat) (hp : p < 65536) (w : World) (h : RowG w ta tn t) (hc : chG t tn = 0) :
    Calls Try.prog 5 #[.slice ta tn tc, .int .u16 p] w fun e w' => e = .returned (.bool true) ∧ Below w.heap.size w w' := by
  have HR : Hid (RowG w ta tn t) := h
  have HC : Hid (chG t tn = 0) := hc
  have HP : Hid (p < 65536) := hp
  have z1 : bits .and .u16 (p : Int) 255 = ((p &&& 255 : Nat) : Int) := u16_and_nat p 255 hp (by decide)
  have z2 : bits .and .u16 ((65535 - p : Nat) : Int) 255 = (((65535 - p) &&& 255 : Nat) : Int) := u16_and_nat (65535 - p) 255 (by omega) (by decide)
  have z3 : bits .xor .u16 65535 (p : Int) = ((65535 - p : Nat) : Int) := by
    rw [← xor_max hp]
    exact u16_xor_nat 65535 p (by decide) hp
  have z4 : bits .xor .u16 (if IntKind.u16.signed = true then -1 else IntKind.u16.max) (p : Int) = ((65535 - p : Nat) : Int) := z3
  have zp : (p : Int) < 65536 := by omega
  have HQ : Hid (∀ i, i < 8 → ((65535 - p) &&& 255).testBit i = !(p &&& 255).testBit i) := fun i hi => by rw [bit_not hp hi, bit_low hi]
  have HP1 : Hid (p &&& 255 < 65536 ∧ (65535 - p) &&& 255 < 65536) := ⟨Nat.lt_of_le_of_lt Nat.and_le_right (by decide), Nat.lt_of_le_of_lt Nat.and_le_right (by decide)⟩
  clear h hc hp
  generalize p &&& 255 = p1 at *
  generalize (65535 - p) &&& 255 = p2 at *
  generalize 65535 - p = p3 at *
  go_enter Try.func5, Try.ntmps5
  go_wp2_with fail
  refine (either_any _).mono ?_
  rintro e w1 ⟨b, A, c, rfl, hr, hb⟩
  have B1 : Hid (Below w.heap.size w w1) := hb
  have R1 : Hid (RowG w1 (some ⟨b, 0, none⟩) 3 (eiT A c)) := hr
  clear hr hb
  go_wp2_with fail
  refine (first_dual b A c _ R1.out).mono ?_
  rintro e w2 ⟨bd, rfl, x0, hb⟩
  have B2 : Hid (Below w.heap.size w w2) := B1.out.trans (hb.mono B1.out.size)
  have l0 := lt_of_cell x0
  clear hb B1 R1
  go_wp2_with fail
  refine (dual_ok ta tn tc t _ (HR.out.step B2.out) HC.out).mono ?_
  rintro e w3 ⟨bu, u, rfl, hd, hb⟩
  have RU3 : Hid (RowG w3 (some ⟨bu, 0, none⟩) tn u) := hd.rowG HC.out
  have B3 : Hid (Below w.heap.size w w3) := B2.out.trans (hb.mono B2.out.size)
  have DU : Hid (∀ j, j < tn → DualOf (t j) (u j)) := hd.duo.dual
  have CU : Hid (chG u tn = 0) := chG_dual HC.out DU.out
  clear hd hb B2 x0 l0
  go_wp2_with fail
  refine (dual_ok (some ⟨bu, 0, none⟩) tn tn u _ RU3.out CU.out).mono ?_
  rintro e w4 ⟨bv, v, rfl, hd, hb⟩
  have RV4 : Hid (RowG w4 (some ⟨bv, 0, none⟩) tn v) := hd.rowG CU.out
  have RU4 : Hid (RowG w4 (some ⟨bu, 0, none⟩) tn u) := RU3.out.step hb
  have DV : Hid (∀ j, j < tn → DualOf (u j) (v j)) := hd.duo.dual
  have B4 : Hid (Below w.heap.size w w4) := B3.out.trans (hb.mono B3.out.size)
  clear hd hb B3 RU3
  go_wp2_with fail
  refine (fails_ok ta tn tc p1 t _ (HR.out.step B4.out) HC.out HP1.out.1).mono ?_
  rintro e w5 ⟨rfl, hb⟩
  have RV5 : Hid (RowG w5 (some ⟨bv, 0, none⟩) tn v) := RV4.out.step hb
  have RU5 : Hid (RowG w5 (some ⟨bu, 0, none⟩) tn u) := RU4.out.step hb
  have B5 : Hid (Below w.heap.size w w5) := B4.out.trans (hb.mono B4.out.size)
  clear hb B4 RU4 RV4
  go_wp2_with fail
  refine (fails_ok (some ⟨bu, 0, none⟩) tn tn p2 u _ RU5.out CU.out HP1.out.2).mono ?_
  rintro e w6 ⟨rfl, hb⟩
  have RV6 : Hid (RowG w6 (some ⟨bv, 0, none⟩) tn v) := RV5.out.step hb
  have B6 : Hid (Below w.heap.size w w6) := B5.out.trans (hb.mono B5.out.size)
  clear hb B5 RU5 RV5
  rw [faT_dual HC.out DU.out HQ.out]
  obtain ⟨x, hx⟩ : ∃ x, faT t tn p1 = x := ⟨_, rfl⟩
  rw [hx]
  clear hx
  have NL : Hid (tn ≤ 1000) := by
    have := (chG_zero HC.out).2.1
    show tn ≤ 1000
    omega
  have CE : Hid (Calls Try.prog 25 #[.slice (some ⟨bv, 0, none⟩) tn tn, .slice ta tn tc, .func (.func 26) #[] #[]] w6 fun e w' => e = .returned (.bool true) ∧ Below w6.heap.size w6 w') :=
    equalG_any 26 _ _ tn tn tc v t w6 NL.out RV6.out (HR.out.step B6.out) entF_dual1 (fun j W hj hW => by
      obtain ⟨e1, e2, e3, e4⟩ := dual_dual ((chG_zero HC.out).2.2 j hj) (DU.out j hj) (DV.out j hj)
      exact gateEqD_any (v j) (t j) W ⟨e1, e2, e3, fun i _ => by rw [e4]⟩ ((RV6.out.of j hj).step hW) (((HR.out.step B6.out).of j hj).step hW) (by have := (geE_zero ((chG_zero HC.out).2.2 j hj)).2.1; omega))
  cases x
  all_goals
    go_wp2_with fail
    refine CE.out.mono ?_
    rintro e w7 ⟨rfl, hb⟩
    have B7 : Hid (Below w.heap.size w w7) := B6.out.trans (hb.mono B6.out.size)
    clear hb
    go_wp2_with fail
    go_ret
    exact ⟨rfl, B7.out⟩

theorem walk (ta : Option Addr) (tn tc : Nat) (t : Nat → Gt) (parts : Int) (w : World) (h_t : RowGJ w ta tn tc t) (h_parts : (Lit.int .u16 parts).wf = true) :
    Calls Try.prog 5 #[.slice ta tn tc, .int .u16 parts] w fun e w' => e = .returned (.bool true) ∧ Below w.heap.size w w' := by
  obtain ⟨h1, h2⟩ := u16_of h_parts
  obtain ⟨p, rfl⟩ : ∃ p : Nat, parts = (p : Int) := ⟨parts.toNat, by omega⟩
  by_cases h : chG t tn = 0
  · exact walk_ok ta tn tc t p (by omega) w h_t.row h
  · exact walk_bad ta tn tc t p w h_t.row _ rfl h

/-! ### THE ROW's STEP -/
set_option maxRecDepth 100000 in
theorem lifted (os : Os) (started : os.Started) (H : Type) (enc : TypeId × Value → H) :
    ReturnsInHanded {} Try.checked os 5 .any (Rows.cutsDualSpec.pre6 enc Try.prog Try.f5 Rows.cutsDualRow.domain false) (Rows.cutsDualSpec.post enc Try.prog Try.f5 false true false false) := by
  refine returnsInHanded_of_change_sized (C := Try.checked) own started (by kernel_rfl) Try.func5
    (ChangeSpec.witness6 (enc := enc) (C := Try.checked) false ⟨#[], #[.slice none 0 0, .int .u16 0], []⟩ 8 (by kernel_rfl) (by kernel_rfl) (by kernel_rfl) (by kernel_rfl)) ?_
  intro W base args ds gs before hval0 hW hcnd hsz0 _
  have hval : ∀ (j : Nat) t v, Try.f5.params[j]? = some t → args[j]? = some v → Value.okWide Try.prog W .any base t v := hval0
  have hW' := hW
  obtain ⟨p, q, hA0, hV, rfl, hfz, hnd⟩ := hW
  have hA : DataW.TrodAll enc Try.prog W 0 (fun _ => true) true Try.f5.params.toList args.toList ds p := hA0
  rw [Try.params5] at hA hval
  obtain ⟨v_0, vs_0, d_0, ds_0, p_0, q_0, hargs, rfl, rfl, h_0, r_0⟩ := trodAll_cons hA
  obtain ⟨v_1, vs_1, d_1, ds_1, p_1, q_1, rfl, rfl, rfl, h_1, r_1⟩ := trodAll_cons r_0
  obtain ⟨rfl, rfl, rfl⟩ := trodAll_nil r_1
  obtain rfl : args = #[v_0, v_1] := by cases args; simp_all
  obtain ⟨rfl, rfl⟩ := trodVars_none hV
  have hz_0 : Light Try.prog 22 d_0 := light_of hsz0 (j := 0) (by first | rfl | (rw [Try.params5]; rfl)) rfl
  have k_0 := h_0
  have lt_0 : ∀ x ∈ p_0, x.block < W.heap.size := by obtain ⟨m, hm⟩ := k_0; exact DataW.trod_lt m _ _ _ hm
  obtain ⟨ta, tn, tc, rfl⟩ := okWide_slice Try.underlying22 (hval 0 22 v_0 rfl rfl)
  obtain ⟨t, h_t⟩ : ∃ l, RowGJ W ta tn tc l := by
    obtain ⟨fuel, hf⟩ := h_0
    obtain ⟨a, m, c, l, hcs, hr⟩ := rowGJ_of hf hz_0
    simp [Value.cells] at hcs
    obtain ⟨rfl, rfl, rfl⟩ := hcs
    exact ⟨l, hr⟩
  have hz_1 : Light Try.prog 23 d_1 := light_of hsz0 (j := 1) (by first | rfl | (rw [Try.params5]; rfl)) rfl
  have k_1 := h_1
  have lt_1 : ∀ x ∈ p_1, x.block < W.heap.size := by obtain ⟨m, hm⟩ := k_1; exact DataW.trod_lt m _ _ _ hm
  obtain ⟨parts, rfl, rfl, rfl, h_parts⟩ := open_int Try.underlying23 (hval 1 23 v_1 rfl rfl) h_1
  clear hA0 hval0
  refine (walk ta tn tc t parts W h_t h_parts).mono fun e W' ⟨he, bel⟩ => ?_
  subst he
  exact ⟨_, rfl, _, _, _, [], _, [], hW', trodAll_mk1 (shut_bool Try.underlying4 _), (trodAll_cons_mk (Below.trod laidOut (by kernel_rfl) (of_decide_eq_true (by kernel_rfl)) k_0 bel lt_0) (trodAll_cons_mk (Below.trod laidOut (by kernel_rfl) (of_decide_eq_true (by kernel_rfl)) k_1 bel lt_1) trodAll_mk0)), rfl, bel.frame _, fun h => by cases h⟩

theorem over : Rows.cutsDualRow.holds Try.pinned (OpenSpec.ofChange Rows.cutsDualSpec) :=
  OpenClaim.holds_of_wide 5 Try.f5 rfl rfl rfl rfl rfl rfl rfl ⟨rfl, rfl, rfl, rfl, rfl⟩ rfl rfl rfl rfl rfl (by kernel_rfl) Try.func5 (by kernel_rfl)
    (of_decide_eq_true (by kernel_rfl)) (by unfold Func.isWrapper; first | (rw [if_pos (by decide +kernel)]; kernel_rfl) | (rw [if_neg (by decide +kernel)]; exact ⟨rfl, rfl⟩))
    (fun os started H enc _ => lifted os started H enc)


end Go.Proofs.Ytacophekhknbpaa.cutsDual
namespace Go.Proofs.Ytacophekhknbpaa
/-- THE STATEMENT -/
theorem cutsDual_holds : Rows.CutsDualSaid := cutsDual.over
#print axioms cutsDual_holds
end Go.Proofs.Ytacophekhknbpaa
