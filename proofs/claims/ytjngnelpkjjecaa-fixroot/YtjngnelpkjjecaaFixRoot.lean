/-
  Whatever number of 32 bits is handed in, the law FixRoot returns true: a root's square is not above the number, the next one's is; below 0 there is none. No condition.
-/
import Derived.Test.YtjngnelpkjjecaaFixRt
import Derived.ProofKit
namespace Go.Proofs.Ytjngnelpkjjecaa.fixRoot
open Go.ChangeShapes Go.WideShapes Go.ChangeAt Go.RowKit
set_option linter.unusedVariables false

theorem four_any (w : World) : Calls Try.prog 9 #[.int .i32 262144] w fun e w' => e = .returned (.tuple #[.int .i32 131072, .int .i64 0]) ∧ w' = w :=
  sqrt_any 262144 131072 (by decide) (by decide) (by decide) (by decide) (by decide) w

set_option maxHeartbeats 1000000 in
theorem walk (a0 : Int) (w0 : (Lit.int .i32 a0).wf = true) (w : World) :
    Calls Try.prog 6 #[.int .i32 a0] w fun e w' => e = .returned (.bool true) ∧ Grown w w' := by
  obtain ⟨b1, b2⟩ := i32_of w0
  clear w0
  rcases Int.lt_or_le a0 0 with h | h
  · go_enter Try.func6, Try.ntmps6
    go_wp2_with fail
    refine (four_any _).mono ?_
    rintro e w' ⟨rfl, rfl⟩
    go_wp2_with (go_at_call 9; refine (sqrt_neg _ h _).mono ?_; rintro e w' ⟨rfl, rfl⟩)
    all_goals (go_ret; exact ⟨rfl, Grown.refl _⟩)
  · obtain ⟨x, x0, h1, h2⟩ := root_int (a0 * 65536) (by omega)
    have x1 : x < 16777216 := lt_of_sq (by decide) (by omega)
    have q := sq_le (a := x + 1) (b := 16777216) (by omega) (by omega)
    have q0 := sq_le (a := 0) (b := x) (by decide) x0
    have q1 := sq_le (a := 0) (b := x + 1) (by decide) (by omega)
    have q2 : (x + 1) * (x + 1) ≤ 281474976710656 := by omega
    have q3 : 0 ≤ x * x := by omega
    have q4 : 0 ≤ (x + 1) * (x + 1) := by omega
    clear q q0 q1
    go_enter Try.func6, Try.ntmps6
    go_wp2_with fail
    refine (four_any _).mono ?_
    rintro e w' ⟨rfl, rfl⟩
    go_wp2_with (go_at_call 9; refine (sqrt_any _ x h b2 x0 h1 h2 _).mono ?_; rintro e w' ⟨rfl, rfl⟩)
    all_goals (go_ret; exact ⟨rfl, Grown.refl _⟩)

theorem own : ownKnob Try.prog.godebug = none := by kernel_rfl

/-! ### THE ROW's STEP: WRITTEN OUT: LEAVE IT -/
set_option maxRecDepth 100000 in
theorem lifted (os : Os) (started : os.Started) (H : Type) (enc : TypeId × Value → H) :
    ReturnsInHanded {} Try.checked os 6 .any (Rows.fixRootSpec.pre6 enc Try.prog Try.f6 Rows.fixRootRow.domain false) (Rows.fixRootSpec.post enc Try.prog Try.f6 false true false false) := by
  refine returnsInHanded_of_change (C := Try.checked) own started (by kernel_rfl) Try.func6
    (ChangeSpec.witness6 (enc := enc) (C := Try.checked) false ⟨#[], #[.int .i32 0], []⟩ 8 (by kernel_rfl) (by kernel_rfl) (by kernel_rfl) (by kernel_rfl)) ?_
  intro W base args ds gs before hval0 hW hcnd _
  have hval : ∀ (j : Nat) t v, Try.f6.params[j]? = some t → args[j]? = some v → Value.okWide Try.prog W .any base t v := hval0
  have hW' := hW
  obtain ⟨p, q, hA0, hV, rfl, hfz, hnd⟩ := hW
  have hA : DataW.TrodAll enc Try.prog W 0 (fun _ => true) true Try.f6.params.toList args.toList ds p := hA0
  rw [Try.params6] at hA hval
  obtain ⟨v0, vs0, d0, ds0, p0, q0, hargs, rfl, rfl, h0, r0⟩ := trodAll_cons hA
  obtain ⟨rfl, rfl, rfl⟩ := trodAll_nil r0
  obtain rfl : args = #[v0] := by cases args; simp_all
  obtain ⟨rfl, rfl⟩ := trodVars_none hV
  obtain ⟨a0, rfl, rfl, rfl, w0⟩ := open_int Try.underlying21 (hval 0 21 v0 rfl rfl) h0
  clear hA0 hval0
  simp only [List.append_nil] at hW'
  refine (walk a0 w0 W).mono fun e W' ⟨he, hg⟩ => ?_
  subst he
  exact ⟨_, rfl, post_of_same (pa := []) (pv := []) hW' (fun _ _ _ => (trodAll_cons_mk (shut_bool Try.underlying4 _) trodAll_mk0)) (fun sp _ => (trodAll_cons_mk (shut_int Try.underlying21 w0) trodAll_mk0)) (fun _ _ => rfl) rfl
    (hg.frame _) hg.2.1 (ok_one (by kernel_rfl) rfl (okWide_bool_mk Try.underlying4 _))⟩

theorem over : Rows.fixRootRow.holds Try.pinned (OpenSpec.ofChange Rows.fixRootSpec) :=
  OpenClaim.holds_of_wide 6 Try.f6 rfl rfl rfl rfl rfl rfl rfl ⟨rfl, rfl, rfl, rfl, rfl⟩ rfl rfl rfl rfl rfl (by kernel_rfl) Try.func6 (by kernel_rfl)
    (of_decide_eq_true (by kernel_rfl)) (by unfold Func.isWrapper; first | (rw [if_pos (by decide +kernel)]; kernel_rfl) | (rw [if_neg (by decide +kernel)]; exact ⟨rfl, rfl⟩))
    (fun os started H enc _ => lifted os started H enc)


end Go.Proofs.Ytjngnelpkjjecaa.fixRoot
namespace Go.Proofs.Ytjngnelpkjjecaa
/-- THE STATEMENT -/
theorem fixRoot_holds : Rows.FixRootSaid := fixRoot.over
#print axioms fixRoot_holds
end Go.Proofs.Ytjngnelpkjjecaa
