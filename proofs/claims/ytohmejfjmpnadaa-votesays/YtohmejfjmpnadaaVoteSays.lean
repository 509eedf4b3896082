/-
  Whatever is handed in, the law VoteSays returns true: Mid, Majority, Far and Spread answer what the document says. No condition.
-/
import Derived.Test.YtohmejfjmpnadaaVotSayOk
import Derived.Test.YtohmejfjmpnadaaOpenB
import Derived.ProofKit
namespace Go.Proofs.Ytohmejfjmpnadaa.voteSays
open Go.ChangeShapes Go.WideShapes Go.ChangeAt Go.RowKit
set_option linter.unusedVariables false

theorem own : ownKnob Try.prog.godebug = none := by kernel_rfl
theorem laidOut : laidOutB Try.prog = true := by kernel_rfl


set_option maxHeartbeats 4000000 in
set_option maxRecDepth 100000 in
theorem walk_large (la : Option Addr) (ln lc : Nat) (l : Nat → Int) (oka : Option Addr) (okn okc : Nat) (ok : Nat → Bool) (most : Int) (w : World) (HR : Hid (R32 w la ln l)) (HO : Hid (RBo w oka okn ok)) (hl : 64 < ln) :
    Calls Try.prog 3 #[.slice la ln lc, .slice oka okn okc, .int .i32 most] w fun e w' => e = .returned (.bool true) ∧ Below w.heap.size w w' := by
  have hM : MidS l ln ok okn 0 2 := Or.inl ⟨hl, rfl, rfl⟩
  have HM : Hid (MidS l ln ok okn 0 2) := hM
  obtain ⟨md, hmd⟩ : ∃ md : Int, md = 0 := ⟨_, rfl⟩
  rw [← hmd] at HM
  clear hM hmd
  have z0 : (64 : Int) < (ln : Int) := by omega
  go_enter Try.func3, Try.ntmps3
  go_wp2_with fail
  refine (mid_any la oka ln lc okn okc l ok md 2 w HR.out HO.out HM.out).mono ?_
  rintro r w1 ⟨rfl, hb⟩
  have B1 : Hid (Below w.heap.size w w1) := hb
  clear hb
  go_wp2_with fail
  refine (rmid_any la oka ln lc okn okc l ok md 2 w1 (HR.out.step B1.out) (HO.out.step B1.out) HM.out).mono ?_
  rintro r w2 ⟨rfl, hb⟩
  have B2 : Hid (Below w.heap.size w w2) := B1.out.trans (hb.mono B1.out.size)
  clear hb B1
  go_wp2_with fail
  refine (majority_large la ln lc hl w2).mono ?_
  rintro r w3 ⟨rfl, rfl⟩
  go_wp2_with fail
  refine (rmajority_large la ln lc hl w3).mono ?_
  rintro r w4 ⟨rfl, rfl⟩
  go_wp2_with fail
  refine (far_bad la oka ln lc okn okc l ok md 2 most w4 (HR.out.step B2.out) (HO.out.step B2.out) HM.out (by decide)).mono ?_
  rintro r w5 ⟨rfl, hb⟩
  have B5 : Hid (Below w.heap.size w w5) := B2.out.trans (hb.mono B2.out.size)
  clear hb B2
  go_wp2_with fail
  refine (spread_large la ln lc hl w5).mono ?_
  rintro r w6 ⟨rfl, rfl⟩
  go_wp2_with fail
  go_ret
  exact ⟨rfl, B5.out⟩

set_option maxHeartbeats 4000000 in
set_option maxRecDepth 100000 in
theorem walk_bad (la : Option Addr) (ln lc : Nat) (l : Nat → Int) (oka : Option Addr) (okn okc : Nat) (ok : Nat → Bool) (most : Int) (w : World) (md E : Int) (HI : Hid (In32 l)) (HR : Hid (R32 w la ln l)) (HO : Hid (RBo w oka okn ok)) (hl : ln ≤ 64) (hM : MidS l ln ok okn md E) (h0 : E ≠ 0) :
    Calls Try.prog 3 #[.slice la ln lc, .slice oka okn okc, .int .i32 most] w fun e w' => e = .returned (.bool true) ∧ Below w.heap.size w w' := by
  have HM : Hid (MidS l ln ok okn md E) := hM
  obtain ⟨mm, EM, hmaj⟩ := maj_there l ln
  have HJ : Hid (Maj l ln mm EM) := hmaj
  obtain ⟨S, hS⟩ := spr_there l ln
  obtain ⟨s1, s2⟩ := hS.bounds HI.out
  have HS : Hid (Spr l ln S) := hS
  have z0 : ¬ (64 : Int) < (ln : Int) := by omega
  clear hM hmaj hS
  have q0 : (E == 0) = false := by simpa using h0
  have q1 : (E != 0) = true := by simpa using h0
  go_enter Try.func3, Try.ntmps3
  go_wp2_with fail
  refine (mid_any la oka ln lc okn okc l ok md E w HR.out HO.out HM.out).mono ?_
  rintro r w1 ⟨rfl, hb⟩
  have B1 : Hid (Below w.heap.size w w1) := hb
  clear hb
  go_wp2_with fail
  refine (rmid_any la oka ln lc okn okc l ok md E w1 (HR.out.step B1.out) (HO.out.step B1.out) HM.out).mono ?_
  rintro r w2 ⟨rfl, hb⟩
  have B2 : Hid (Below w.heap.size w w2) := B1.out.trans (hb.mono B1.out.size)
  clear hb B1
  go_wp2_with fail
  refine (majority_any la ln lc l mm EM w2 hl (HR.out.step B2.out) HJ.out).mono ?_
  rintro r w3 ⟨rfl, rfl⟩
  go_wp2_with fail
  refine (rmajority_any la ln lc l mm EM w3 hl (HR.out.step B2.out) HJ.out).mono ?_
  rintro r w4 ⟨rfl, rfl⟩
  go_wp2_with fail
  refine (far_bad la oka ln lc okn okc l ok md E most w4 (HR.out.step B2.out) (HO.out.step B2.out) HM.out h0).mono ?_
  rintro r w5 ⟨rfl, hb⟩
  have B5 : Hid (Below w.heap.size w w5) := B2.out.trans (hb.mono B2.out.size)
  clear hb B2
  go_wp2_with fail
  refine (spread_any la ln lc l S w5 hl HI.out HS.out (HR.out.step B5.out)).mono ?_
  rintro r w6 ⟨rfl, rfl⟩
  go_wp2_with fail
  refine (rspread_any la ln lc l S w6 hl HI.out HS.out (HR.out.step B5.out)).mono ?_
  rintro r w7 ⟨rfl, rfl⟩
  clear h0
  go_wp2_with fail
  go_ret
  exact ⟨by first | rfl | simp, B5.out⟩

set_option maxHeartbeats 4000000 in
set_option maxRecDepth 100000 in
theorem walk_arg (la : Option Addr) (lc : Nat) (l : Nat → Int) (oka : Option Addr) (okn okc : Nat) (ok : Nat → Bool) (most : Int) (w : World) (md : Int) (HI : Hid (In32 l)) (HR : Hid (R32 w la okn l)) (HO : Hid (RBo w oka okn ok)) (hl : okn ≤ 64) (hM : MidS l okn ok okn md 0) (h0 : most < 0) :
    Calls Try.prog 3 #[.slice la okn lc, .slice oka okn okc, .int .i32 most] w fun e w' => e = .returned (.bool true) ∧ Below w.heap.size w w' := by
  have HM : Hid (MidS l okn ok okn md 0) := hM
  obtain ⟨mm, EM, hmaj⟩ := maj_there l okn
  have HJ : Hid (Maj l okn mm EM) := hmaj
  obtain ⟨S, hS⟩ := spr_there l okn
  obtain ⟨s1, s2⟩ := hS.bounds HI.out
  have HS : Hid (Spr l okn S) := hS
  have z0 : ¬ (64 : Int) < (okn : Int) := by omega
  clear hM hmaj hS
  go_enter Try.func3, Try.ntmps3
  go_wp2_with fail
  refine (mid_any la oka okn lc okn okc l ok md 0 w HR.out HO.out HM.out).mono ?_
  rintro r w1 ⟨rfl, hb⟩
  have B1 : Hid (Below w.heap.size w w1) := hb
  clear hb
  go_wp2_with fail
  refine (rmid_any la oka okn lc okn okc l ok md 0 w1 (HR.out.step B1.out) (HO.out.step B1.out) HM.out).mono ?_
  rintro r w2 ⟨rfl, hb⟩
  have B2 : Hid (Below w.heap.size w w2) := B1.out.trans (hb.mono B1.out.size)
  clear hb B1
  go_wp2_with fail
  refine (majority_any la okn lc l mm EM w2 hl (HR.out.step B2.out) HJ.out).mono ?_
  rintro r w3 ⟨rfl, rfl⟩
  go_wp2_with fail
  refine (rmajority_any la okn lc l mm EM w3 hl (HR.out.step B2.out) HJ.out).mono ?_
  rintro r w4 ⟨rfl, rfl⟩
  go_wp2_with fail
  refine (far_arg la oka okn lc okn okc l ok md most w4 (HR.out.step B2.out) (HO.out.step B2.out) HM.out h0).mono ?_
  rintro r w5 ⟨rfl, hb⟩
  have B5 : Hid (Below w.heap.size w w5) := B2.out.trans (hb.mono B2.out.size)
  clear hb B2
  go_wp2_with fail
  refine (spread_any la okn lc l S w5 hl HI.out HS.out (HR.out.step B5.out)).mono ?_
  rintro r w6 ⟨rfl, rfl⟩
  go_wp2_with fail
  refine (rspread_any la okn lc l S w6 hl HI.out HS.out (HR.out.step B5.out)).mono ?_
  rintro r w7 ⟨rfl, rfl⟩
  go_wp2_with fail
  go_ret
  exact ⟨rfl, B5.out⟩

theorem walk (la : Option Addr) (ln lc : Nat) (l : Nat → Int) (oka : Option Addr) (okn okc : Nat) (ok : Nat → Bool) (most : Int) (w : World) (h_l : RowZ .i32 4 w la ln lc l) (h_ok : RowB w oka okn okc ok) (h_most : (Lit.int .i32 most).wf = true) :
    Calls Try.prog 3 #[.slice la ln lc, .slice oka okn okc, .int .i32 most] w fun e w' => e = .returned (.bool true) ∧ Below w.heap.size w w' := by
  have HI : Hid (In32 l) := fun j => i32_of (h_l.1.2.2.1 j)
  have HR : Hid (R32 w la ln l) := h_l.1.2.2.2
  have HO : Hid (RBo w oka okn ok) := h_ok.2.2.2.2
  rcases Nat.lt_or_ge 64 ln with h | h
  · exact walk_large la ln lc l oka okn okc ok most w HR HO h
  · obtain ⟨md, E, hM⟩ := midS_there l ln ok okn
    by_cases h0 : E = 0
    · obtain ⟨_, c2, _⟩ := hM.good h0
      subst h0 c2
      rcases Int.lt_or_le most 0 with q | q
      · exact walk_arg la lc l oka okn okc ok most w md HI HR HO h hM q
      · exact says_ok la lc l oka okn okc ok most w md HI HR HO h hM q (i32_of h_most).2
    · exact walk_bad la ln lc l oka okn okc ok most w md E HI HR HO h hM h0

/-! ### THE ROW's STEP -/
set_option maxRecDepth 100000 in
theorem lifted (os : Os) (started : os.Started) (H : Type) (enc : TypeId × Value → H) :
    ReturnsInHanded {} Try.checked os 3 .any (Rows.voteSaysSpec.pre6 enc Try.prog Try.f3 Rows.voteSaysRow.domain false) (Rows.voteSaysSpec.post enc Try.prog Try.f3 false true false false) := by
  refine returnsInHanded_of_change_sized (C := Try.checked) own started (by kernel_rfl) Try.func3
    (ChangeSpec.witness6 (enc := enc) (C := Try.checked) false ⟨#[], #[.slice none 0 0, .slice none 0 0, .int .i32 0], []⟩ 8 (by kernel_rfl) (by kernel_rfl) (by kernel_rfl) (by kernel_rfl)) ?_
  intro W base args ds gs before hval0 hW hcnd hsz0 _
  have hval : ∀ (j : Nat) t v, Try.f3.params[j]? = some t → args[j]? = some v → Value.okWide Try.prog W .any base t v := hval0
  have hW' := hW
  obtain ⟨p, q, hA0, hV, rfl, hfz, hnd⟩ := hW
  have hA : DataW.TrodAll enc Try.prog W 0 (fun _ => true) true Try.f3.params.toList args.toList ds p := hA0
  rw [Try.params3] at hA hval
  obtain ⟨v0, vs0, d0, ds0, p0, q0, hargs, rfl, rfl, h0, r0⟩ := trodAll_cons hA
  obtain ⟨v1, vs1, d1, ds1, p1, q1, rfl, rfl, rfl, h1, r1⟩ := trodAll_cons r0
  obtain ⟨v2, vs2, d2, ds2, p2, q2, rfl, rfl, rfl, h2, r2⟩ := trodAll_cons r1
  obtain ⟨rfl, rfl, rfl⟩ := trodAll_nil r2
  obtain rfl : args = #[v0, v1, v2] := by cases args; simp_all
  obtain ⟨rfl, rfl⟩ := trodVars_none hV
  have hz0 : Light Try.prog 22 d0 := light_of hsz0 (j := 0) (by first | rfl | (rw [Try.params3]; rfl)) rfl
  have k0 := h0
  have lt0 : ∀ x ∈ p0, x.block < W.heap.size := by obtain ⟨m, hm⟩ := k0; exact DataW.trod_lt m _ _ _ hm
  obtain ⟨la, ln, lc, rfl⟩ := okWide_slice Try.underlying22 (hval 0 22 v0 rfl rfl)
  obtain ⟨l, h_l⟩ : ∃ l, RowZ .i32 4 W la ln lc l := by
    obtain ⟨fuel, hf⟩ := h0
    obtain ⟨a, m, c, l, hcs, hr⟩ := rowZ_of Try.underlying22 Try.underlying21 (by kernel_rfl) (by kernel_rfl) hf hz0
    simp [Value.cells] at hcs
    obtain ⟨rfl, rfl, rfl⟩ := hcs
    exact ⟨l, hr⟩
  have hz1 : Light Try.prog 23 d1 := light_of hsz0 (j := 1) (by first | rfl | (rw [Try.params3]; rfl)) rfl
  have k1 := h1
  have lt1 : ∀ x ∈ p1, x.block < W.heap.size := by obtain ⟨m, hm⟩ := k1; exact DataW.trod_lt m _ _ _ hm
  obtain ⟨oka, okn, okc, rfl⟩ := okWide_slice Try.underlying23 (hval 1 23 v1 rfl rfl)
  obtain ⟨ok, h_ok⟩ : ∃ l, RowB W oka okn okc l := by
    obtain ⟨fuel, hf⟩ := h1
    obtain ⟨a, m, c, l, hcs, hr⟩ := rowB_of Try.underlying23 Try.underlying4 (by kernel_rfl) (by kernel_rfl) hf hz1
    simp [Value.cells] at hcs
    obtain ⟨rfl, rfl, rfl⟩ := hcs
    exact ⟨l, hr⟩
  have hz2 : Light Try.prog 21 d2 := light_of hsz0 (j := 2) (by first | rfl | (rw [Try.params3]; rfl)) rfl
  have k2 := h2
  have lt2 : ∀ x ∈ p2, x.block < W.heap.size := by obtain ⟨m, hm⟩ := k2; exact DataW.trod_lt m _ _ _ hm
  obtain ⟨most, rfl, rfl, rfl, h_most⟩ := open_int Try.underlying21 (hval 2 21 v2 rfl rfl) h2
  clear hA0 hval0
  refine (walk la ln lc l oka okn okc ok most W h_l h_ok h_most).mono fun e W' ⟨he, bel⟩ => ?_
  subst he
  exact ⟨_, rfl, _, _, _, [], _, [], hW', trodAll_mk1 (shut_bool Try.underlying4 _), (trodAll_cons_mk (Below.trod laidOut (by kernel_rfl) (of_decide_eq_true (by kernel_rfl)) k0 bel lt0) (trodAll_cons_mk (Below.trod laidOut (by kernel_rfl) (of_decide_eq_true (by kernel_rfl)) k1 bel lt1) (trodAll_cons_mk (Below.trod laidOut (by kernel_rfl) (of_decide_eq_true (by kernel_rfl)) k2 bel lt2) trodAll_mk0))), rfl, bel.frame _, fun h => by cases h⟩

theorem over : Rows.voteSaysRow.holds Try.pinned (OpenSpec.ofChange Rows.voteSaysSpec) :=
  OpenClaim.holds_of_wide 3 Try.f3 rfl rfl rfl rfl rfl rfl rfl ⟨rfl, rfl, rfl, rfl, rfl⟩ rfl rfl rfl rfl rfl (by kernel_rfl) Try.func3 (by kernel_rfl)
    (of_decide_eq_true (by kernel_rfl)) (by unfold Func.isWrapper; first | (rw [if_pos (by decide +kernel)]; kernel_rfl) | (rw [if_neg (by decide +kernel)]; exact ⟨rfl, rfl⟩))
    (fun os started H enc _ => lifted os started H enc)


end Go.Proofs.Ytohmejfjmpnadaa.voteSays
namespace Go.Proofs.Ytohmejfjmpnadaa
/-- THE STATEMENT -/
theorem voteSays_holds : Rows.VoteSaysSaid := voteSays.over
#print axioms voteSays_holds
end Go.Proofs.Ytohmejfjmpnadaa
