/-
  Whatever two numbers of 32 bits are handed in, the law FixNear returns true: a product is nearest to the true one, or an end; One is neutral, and the order makes no difference. No condition.
-/
import Derived.Test.YtjngnelpkjjecaaFix
import Derived.ProofKit
namespace Go.Proofs.Ytjngnelpkjjecaa.fixNear
open Go.ChangeShapes Go.WideShapes Go.ChangeAt Go.RowKit
set_option linter.unusedVariables false

theorem near_cases (p x : Int) (h : x = s32 (scaleI p)) : (-32768 ≤ x * 65536 - p ∧ x * 65536 - p ≤ 32768) ∨ (x = 2147483647 ∧ x * 65536 - p < -32768) ∨ (x = -2147483648 ∧ 32768 < x * 65536 - p) := by
  unfold s32 bnd scaleI at h
  split at h
  · omega
  · split at h
    · omega
    · omega

set_option maxHeartbeats 1000000 in
theorem walk (a0 : Int) (a1 : Int) (w0 : (Lit.int .i32 a0).wf = true) (w1 : (Lit.int .i32 a1).wf = true) (w : World) :
    Calls Try.prog 4 #[.int .i32 a0, .int .i32 a1] w fun e w' => e = .returned (.bool true) ∧ Grown w w' := by
  obtain ⟨b1, b2⟩ := i32_of w0
  obtain ⟨c1, c2⟩ := i32_of w1
  have k1 : mulI 196608 32768 = 98304 := by decide
  have k2 : mulI a0 65536 = a0 := by unfold mulI scaleI; rw [show (a0 * 65536 + 32768) / 65536 = a0 by omega]; exact bnd_mid b1 b2
  have k3 : mulI a0 0 = 0 := by unfold mulI; rw [Int.mul_zero]; decide
  have k4 : mulI a1 a0 = mulI a0 a1 := by unfold mulI; rw [Int.mul_comm]
  have h := mul_bd (A := 2147483648) (B := 2147483648) b1 (by omega) c1 (by omega)
  have hx := near_cases (a0 * a1) (mulI a0 a1) rfl
  have r := bnd_in (a := scaleI (a0 * a1)) (b := -2147483648) (c := 2147483647) (by decide)
  have r1 : -2147483648 ≤ mulI a0 a1 := r.1
  have r2 : mulI a0 a1 ≤ 2147483647 := r.2
  obtain ⟨p, hp⟩ : ∃ p : Int, a0 * a1 = p := ⟨_, rfl⟩
  obtain ⟨x, ex⟩ : ∃ x : Int, mulI a0 a1 = x := ⟨_, rfl⟩
  rw [hp] at h hx
  rw [ex] at hx r1 r2 k4
  clear w0 w1 r
  rcases hx with ⟨h1, h2⟩ | ⟨rfl, h1⟩ | ⟨rfl, h1⟩
  · rcases Int.lt_or_le (x * 65536 - p) 0 with g | g
    · go_enter Try.func4, Try.ntmps4
      go_wp2_with (go_at_call 12; refine (mul_any _ _ (by omega) (by omega) (by omega) (by omega) _).mono ?_; rintro e w' ⟨rfl, rfl⟩)
      all_goals (go_ret; exact ⟨rfl, Grown.refl _⟩)
    · go_enter Try.func4, Try.ntmps4
      go_wp2_with (go_at_call 12; refine (mul_any _ _ (by omega) (by omega) (by omega) (by omega) _).mono ?_; rintro e w' ⟨rfl, rfl⟩)
      all_goals (go_ret; exact ⟨rfl, Grown.refl _⟩)
  · go_enter Try.func4, Try.ntmps4
    go_wp2_with (go_at_call 12; refine (mul_any _ _ (by omega) (by omega) (by omega) (by omega) _).mono ?_; rintro e w' ⟨rfl, rfl⟩)
    all_goals (go_ret; exact ⟨rfl, Grown.refl _⟩)
  · have h2 : p < -140737488355328 := by omega
    have h3 : ¬ (-140737488355328 - p ≤ 32768) := by omega
    go_enter Try.func4, Try.ntmps4
    go_wp2_with (go_at_call 12; refine (mul_any _ _ (by omega) (by omega) (by omega) (by omega) _).mono ?_; rintro e w' ⟨rfl, rfl⟩)
    all_goals (go_ret; exact ⟨rfl, Grown.refl _⟩)

theorem own : ownKnob Try.prog.godebug = none := by kernel_rfl

/-! ### THE ROW's STEP: WRITTEN OUT: LEAVE IT -/
set_option maxRecDepth 100000 in
theorem lifted (os : Os) (started : os.Started) (H : Type) (enc : TypeId × Value → H) :
    ReturnsInHanded {} Try.checked os 4 .any (Rows.fixNearSpec.pre6 enc Try.prog Try.f4 Rows.fixNearRow.domain false) (Rows.fixNearSpec.post enc Try.prog Try.f4 false true false false) := by
  refine returnsInHanded_of_change (C := Try.checked) own started (by kernel_rfl) Try.func4
    (ChangeSpec.witness6 (enc := enc) (C := Try.checked) false ⟨#[], #[.int .i32 0, .int .i32 0], []⟩ 8 (by kernel_rfl) (by kernel_rfl) (by kernel_rfl) (by kernel_rfl)) ?_
  intro W base args ds gs before hval0 hW hcnd _
  have hval : ∀ (j : Nat) t v, Try.f4.params[j]? = some t → args[j]? = some v → Value.okWide Try.prog W .any base t v := hval0
  have hW' := hW
  obtain ⟨p, q, hA0, hV, rfl, hfz, hnd⟩ := hW
  have hA : DataW.TrodAll enc Try.prog W 0 (fun _ => true) true Try.f4.params.toList args.toList ds p := hA0
  rw [Try.params4] at hA hval
  obtain ⟨v0, vs0, d0, ds0, p0, q0, hargs, rfl, rfl, h0, r0⟩ := trodAll_cons hA
  obtain ⟨v1, vs1, d1, ds1, p1, q1, rfl, rfl, rfl, h1, r1⟩ := trodAll_cons r0
  obtain ⟨rfl, rfl, rfl⟩ := trodAll_nil r1
  obtain rfl : args = #[v0, v1] := by cases args; simp_all
  obtain ⟨rfl, rfl⟩ := trodVars_none hV
  obtain ⟨a0, rfl, rfl, rfl, w0⟩ := open_int Try.underlying21 (hval 0 21 v0 rfl rfl) h0
  obtain ⟨a1, rfl, rfl, rfl, w1⟩ := open_int Try.underlying21 (hval 1 21 v1 rfl rfl) h1
  clear hA0 hval0
  simp only [List.append_nil] at hW'
  refine (walk a0 a1 w0 w1 W).mono fun e W' ⟨he, hg⟩ => ?_
  subst he
  exact ⟨_, rfl, post_of_same (pa := []) (pv := []) hW' (fun _ _ _ => (trodAll_cons_mk (shut_bool Try.underlying4 _) trodAll_mk0)) (fun sp _ => (trodAll_cons_mk (shut_int Try.underlying21 w0) (trodAll_cons_mk (shut_int Try.underlying21 w1) trodAll_mk0))) (fun _ _ => rfl) rfl
    (hg.frame _) hg.2.1 (ok_one (by kernel_rfl) rfl (okWide_bool_mk Try.underlying4 _))⟩

theorem over : Rows.fixNearRow.holds Try.pinned (OpenSpec.ofChange Rows.fixNearSpec) :=
  OpenClaim.holds_of_wide 4 Try.f4 rfl rfl rfl rfl rfl rfl rfl ⟨rfl, rfl, rfl, rfl, rfl⟩ rfl rfl rfl rfl rfl (by kernel_rfl) Try.func4 (by kernel_rfl)
    (of_decide_eq_true (by kernel_rfl)) (by unfold Func.isWrapper; first | (rw [if_pos (by decide +kernel)]; kernel_rfl) | (rw [if_neg (by decide +kernel)]; exact ⟨rfl, rfl⟩))
    (fun os started H enc _ => lifted os started H enc)


end Go.Proofs.Ytjngnelpkjjecaa.fixNear
namespace Go.Proofs.Ytjngnelpkjjecaa
/-- THE STATEMENT -/
theorem fixNear_holds : Rows.FixNearSaid := fixNear.over
#print axioms fixNear_holds
end Go.Proofs.Ytjngnelpkjjecaa
