/-
  Whatever is handed in, the law TickSays returns true: Midway and Adjust answer what the document says. No condition.
-/
import Derived.Test.YtdnjipikggehmaaTikMid
import Derived.Test.YtdnjipikggehmaaTikRef
import Derived.Test.YtdnjipikggehmaaOpenZ
import Derived.ProofKit
namespace Go.Proofs.Ytdnjipikggehmaa.tickSays
open Go.ChangeShapes Go.WideShapes Go.ChangeAt Go.RowKit
set_option linter.unusedVariables false

theorem own : ownKnob Try.prog.godebug = none := by kernel_rfl
theorem laidOut : laidOutB Try.prog = true := by kernel_rfl


set_option maxHeartbeats 4000000 in
set_option maxRecDepth 100000 in
theorem walk (own : Int) (la : Option Addr) (ln lc : Nat) (l : Nat → Int) (n : Int) (w : World) (h_own : (Lit.int .i64 own).wf = true) (h_l : RowZ .i64 8 w la ln lc l) (h_n : (Lit.int .i64 n).wf = true) :
    Calls Try.prog 3 #[.int .i64 own, .slice la ln lc, .int .i64 n] w fun e w' => e = .returned (.bool true) ∧ Below w.heap.size w w' := by
  obtain ⟨n1, n2⟩ := bounds_i64 h_n
  have HR : Hid (R64 w la ln l) := h_l.1.2.2.2
  obtain ⟨d, E, hA⟩ := ad_there own l ln n
  obtain ⟨m, G, hM⟩ := mw_there l ln n
  have HA : Hid (Ad own l ln n d E) := hA
  have HM : Hid (Mw l ln n m G) := hM
  have HN : Hid (n ≤ 9223372036854775807) := n2
  clear hA hM h_l h_own h_n n1 n2
  go_enter Try.func3, Try.ntmps3
  go_wp2_with fail
  refine (midway_any la ln lc l n m G HN.out w HR.out HM.out).mono ?_
  rintro r w1 ⟨rfl, hb⟩
  have B1 : Hid (Below w.heap.size w w1) := hb
  clear hb
  go_wp2_with fail
  refine (rmidway_any la ln lc l n m G HN.out w1 (HR.out.step B1.out) HM.out).mono ?_
  rintro r w2 ⟨rfl, hb⟩
  have B2 : Hid (Below w.heap.size w w2) := B1.out.trans (hb.mono B1.out.size)
  clear hb B1
  go_wp2_with fail
  refine (adjust_any own la ln lc l n d E HN.out w2 (HR.out.step B2.out) HA.out).mono ?_
  rintro r w3 ⟨rfl, hb⟩
  have B3 : Hid (Below w.heap.size w w3) := B2.out.trans (hb.mono B2.out.size)
  clear hb B2 HR
  have s1 : (m != m) = false := by simp
  have s2 : (G != G) = false := by simp
  rcases HA.out with ⟨h1, rfl, rfl⟩ | ⟨h1, m', hM', h2⟩
  · clear HA HM
    rcases tkB_no.1 h1 with q | q
    · clear h1
      go_wp2_with fail
      go_ret
      exact ⟨rfl, B3.out⟩
    · clear h1
      have q2 : ¬ own < -1099511627776 := by omega
      go_wp2_with fail
      go_ret
      exact ⟨rfl, B3.out⟩
  · obtain ⟨rfl, rfl⟩ := hM'.one HM.out
    obtain ⟨m1, m2⟩ := hM'.bounds
    obtain ⟨o1, o2⟩ := tkB_iff.1 h1
    have o3 : ¬ own < -1099511627776 := by omega
    have o4 : ¬ 1099511627776 < own := by omega
    clear h1 hM' HM HA
    rcases h2 with ⟨rfl, rfl⟩ | ⟨h2, rfl⟩
    · go_wp2_with fail
      go_ret
      exact ⟨rfl, B3.out⟩
    · have q : (E != 0) = true := by simpa using h2
      have q2 : (E == E) = true := by simp
      clear h2
      go_wp2_with fail
      go_ret
      exact ⟨rfl, B3.out⟩

/-! ### THE ROW's STEP -/
set_option maxRecDepth 100000 in
theorem lifted (os : Os) (started : os.Started) (H : Type) (enc : TypeId × Value → H) :
    ReturnsInHanded {} Try.checked os 3 .any (Rows.tickSaysSpec.pre6 enc Try.prog Try.f3 Rows.tickSaysRow.domain false) (Rows.tickSaysSpec.post enc Try.prog Try.f3 false true false false) := by
  refine returnsInHanded_of_change_sized (C := Try.checked) own started (by kernel_rfl) Try.func3
    (ChangeSpec.witness6 (enc := enc) (C := Try.checked) false ⟨#[], #[.int .i64 0, .slice none 0 0, .int .i64 0], []⟩ 8 (by kernel_rfl) (by kernel_rfl) (by kernel_rfl) (by kernel_rfl)) ?_
  intro W base args ds gs before hval0 hW hcnd hsz0 _
  have hval : ∀ (j : Nat) t v, Try.f3.params[j]? = some t → args[j]? = some v → Value.okWide Try.prog W .any base t v := hval0
  have hW' := hW
  obtain ⟨p, q, hA0, hV, rfl, hfz, hnd⟩ := hW
  have hA : DataW.TrodAll enc Try.prog W 0 (fun _ => true) true Try.f3.params.toList args.toList ds p := hA0
  rw [Try.params3] at hA hval
  obtain ⟨v_0, vs_0, d_0, ds_0, p_0, q_0, hargs, rfl, rfl, h_0, r_0⟩ := trodAll_cons hA
  obtain ⟨v_1, vs_1, d_1, ds_1, p_1, q_1, rfl, rfl, rfl, h_1, r_1⟩ := trodAll_cons r_0
  obtain ⟨v_2, vs_2, d_2, ds_2, p_2, q_2, rfl, rfl, rfl, h_2, r_2⟩ := trodAll_cons r_1
  obtain ⟨rfl, rfl, rfl⟩ := trodAll_nil r_2
  obtain rfl : args = #[v_0, v_1, v_2] := by cases args; simp_all
  obtain ⟨rfl, rfl⟩ := trodVars_none hV
  have hz_0 : Light Try.prog 3 d_0 := light_of hsz0 (j := 0) (by first | rfl | (rw [Try.params3]; rfl)) rfl
  have k_0 := h_0
  have lt_0 : ∀ x ∈ p_0, x.block < W.heap.size := by obtain ⟨m, hm⟩ := k_0; exact DataW.trod_lt m _ _ _ hm
  obtain ⟨own, rfl, rfl, rfl, h_own⟩ := open_int Try.underlying3 (hval 0 3 v_0 rfl rfl) h_0
  have hz_1 : Light Try.prog 22 d_1 := light_of hsz0 (j := 1) (by first | rfl | (rw [Try.params3]; rfl)) rfl
  have k_1 := h_1
  have lt_1 : ∀ x ∈ p_1, x.block < W.heap.size := by obtain ⟨m, hm⟩ := k_1; exact DataW.trod_lt m _ _ _ hm
  obtain ⟨la, ln, lc, rfl⟩ := okWide_slice Try.underlying22 (hval 1 22 v_1 rfl rfl)
  obtain ⟨l, h_l⟩ : ∃ l, RowZ .i64 8 W la ln lc l := by
    obtain ⟨fuel, hf⟩ := h_1
    obtain ⟨a, m, c, l, hcs, hr⟩ := rowZ_of Try.underlying22 Try.underlying3 (by kernel_rfl) (by kernel_rfl) hf hz_1
    simp [Value.cells] at hcs
    obtain ⟨rfl, rfl, rfl⟩ := hcs
    exact ⟨l, hr⟩
  have hz_2 : Light Try.prog 3 d_2 := light_of hsz0 (j := 2) (by first | rfl | (rw [Try.params3]; rfl)) rfl
  have k_2 := h_2
  have lt_2 : ∀ x ∈ p_2, x.block < W.heap.size := by obtain ⟨m, hm⟩ := k_2; exact DataW.trod_lt m _ _ _ hm
  obtain ⟨n, rfl, rfl, rfl, h_n⟩ := open_int Try.underlying3 (hval 2 3 v_2 rfl rfl) h_2
  clear hA0 hval0
  refine (walk own la ln lc l n W h_own h_l h_n).mono fun e W' ⟨he, bel⟩ => ?_
  subst he
  exact ⟨_, rfl, _, _, _, [], _, [], hW', trodAll_mk1 (shut_bool Try.underlying4 _), (trodAll_cons_mk (Below.trod laidOut (by kernel_rfl) (of_decide_eq_true (by kernel_rfl)) k_0 bel lt_0) (trodAll_cons_mk (Below.trod laidOut (by kernel_rfl) (of_decide_eq_true (by kernel_rfl)) k_1 bel lt_1) (trodAll_cons_mk (Below.trod laidOut (by kernel_rfl) (of_decide_eq_true (by kernel_rfl)) k_2 bel lt_2) trodAll_mk0))), rfl, bel.frame _, fun h => by cases h⟩

theorem over : Rows.tickSaysRow.holds Try.pinned (OpenSpec.ofChange Rows.tickSaysSpec) :=
  OpenClaim.holds_of_wide 3 Try.f3 rfl rfl rfl rfl rfl rfl rfl ⟨rfl, rfl, rfl, rfl, rfl⟩ rfl rfl rfl rfl rfl (by kernel_rfl) Try.func3 (by kernel_rfl)
    (of_decide_eq_true (by kernel_rfl)) (by unfold Func.isWrapper; first | (rw [if_pos (by decide +kernel)]; kernel_rfl) | (rw [if_neg (by decide +kernel)]; exact ⟨rfl, rfl⟩))
    (fun os started H enc _ => lifted os started H enc)


end Go.Proofs.Ytdnjipikggehmaa.tickSays
namespace Go.Proofs.Ytdnjipikggehmaa
/-- THE STATEMENT -/
theorem tickSays_holds : Rows.TickSaysSaid := tickSays.over
#print axioms tickSays_holds
end Go.Proofs.Ytdnjipikggehmaa
