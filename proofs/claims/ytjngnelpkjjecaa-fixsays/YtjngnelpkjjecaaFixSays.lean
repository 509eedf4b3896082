/-
  Whatever numbers are handed in, the law FixSays returns true: Mul, Div, Round, Of, Sqrt and Between answer what the document says. No condition.
-/
import Derived.Test.YtjngnelpkjjecaaRefFix
import Derived.Test.YtjngnelpkjjecaaFixRt
import Derived.ProofKit
namespace Go.Proofs.Ytjngnelpkjjecaa.fixSays
open Go.ChangeShapes Go.WideShapes Go.ChangeAt Go.RowKit
set_option linter.unusedVariables false

set_option maxHeartbeats 1000000 in
theorem walk (a0 : Int) (a1 : Int) (a2 : Int) (a3 : Int) (w0 : (Lit.int .i32 a0).wf = true) (w1 : (Lit.int .i32 a1).wf = true) (w2 : (Lit.int .i32 a2).wf = true) (w3 : (Lit.int .i64 a3).wf = true) (w : World) :
    Calls Try.prog 3 #[.int .i32 a0, .int .i32 a1, .int .i32 a2, .int .i64 a3] w fun e w' => e = .returned (.bool true) ∧ Grown w w' := by
  obtain ⟨b1, b2⟩ := i32_of w0
  obtain ⟨c1, c2⟩ := i32_of w1
  obtain ⟨d1, d2⟩ := i32_of w2
  obtain ⟨e1, e2⟩ := i64_of w3
  clear w0 w1 w2 w3
  have z : (a3 < -40000 ∧ s32 (a3 * 65536) = -2147483648) ∨ (40000 < a3 ∧ -40000 < a3 ∧ s32 (a3 * 65536) = 2147483647) ∨ (-40000 < a3 ∧ a3 < 40000) ∨ a3 = -40000 ∨ a3 = 40000 := by
    rcases Int.lt_or_le (-40000) a3 with g | g
    · rcases Int.lt_or_le a3 40000 with g' | g'
      · exact Or.inr (Or.inr (Or.inl ⟨g, g'⟩))
      · rcases Int.lt_or_le 40000 a3 with g'' | g''
        · exact Or.inr (Or.inl ⟨g'', g, bnd_high (by omega) (by omega)⟩)
        · exact Or.inr (Or.inr (Or.inr (Or.inr (by omega))))
    · rcases Int.lt_or_le a3 (-40000) with g' | g'
      · exact Or.inl ⟨g', bnd_low (by omega)⟩
      · exact Or.inr (Or.inr (Or.inr (Or.inl (by omega))))
  have k1 : s32 (-2621440000) = -2147483648 := by decide
  have k2 : s32 2621440000 = 2147483647 := by decide
  rcases Int.lt_or_le a0 0 with h | h
  · rcases z with ⟨z1, z2⟩ | ⟨z1, z2, z3⟩ | ⟨z1, z2⟩ | rfl | rfl
    all_goals
      go_enter Try.func3, Try.ntmps3
      go_wp2_with (first
        | (go_at_call 9; refine (sqrt_neg _ h _).mono ?_; rintro e w' ⟨rfl, rfl⟩)
        | (go_at_call 11; refine (rsat_any _ _).mono ?_; rintro e w' ⟨rfl, rfl⟩)
        | (go_at_call 12; refine (mul_any _ _ b1 b2 c1 c2 _).mono ?_; rintro e w' ⟨rfl, rfl⟩)
        | (go_at_call 13; refine (rmul_any _ _ b1 b2 c1 c2 _).mono ?_; rintro e w' ⟨rfl, rfl⟩)
        | (go_at_call 14; refine (div_any _ _ b1 b2 c1 c2 _).mono ?_; rintro e w' ⟨rfl, rfl⟩)
        | (go_at_call 15; refine (rdiv_any _ _ b1 b2 c1 c2 _).mono ?_; rintro e w' ⟨rfl, rfl⟩)
        | (go_at_call 16; refine (round_any _ b1 b2 _).mono ?_; rintro e w' ⟨rfl, rfl⟩)
        | (go_at_call 17; refine (rround_any _ b1 b2 _).mono ?_; rintro e w' ⟨rfl, rfl⟩)
        | (go_at_call 18; refine (of_any _ _).mono ?_; rintro e w' ⟨rfl, rfl⟩)
        | (go_at_call 19; refine (between_any _ _ _ b1 b2 c1 c2 _).mono ?_; rintro e w' ⟨rfl, rfl⟩)
        | (go_at_call 20; refine (rbetween_any _ _ _ b1 b2 c1 c2 d1 d2 _).mono ?_; rintro e w' ⟨rfl, rfl⟩))
      all_goals (go_ret; exact ⟨rfl, Grown.refl _⟩)
  · obtain ⟨x, x0, h1, h2⟩ := root_int (a0 * 65536) (by omega)
    have x1 : x < 16777216 := lt_of_sq (by decide) (by omega)
    rcases z with ⟨z1, z2⟩ | ⟨z1, z2, z3⟩ | ⟨z1, z2⟩ | rfl | rfl
    all_goals
      go_enter Try.func3, Try.ntmps3
      go_wp2_with (first
        | (go_at_call 9; refine (sqrt_any _ x h b2 x0 h1 h2 _).mono ?_; rintro e w' ⟨rfl, rfl⟩)
        | (go_at_call 10; refine (rsqrt_any _ x h b2 x0 h1 h2 _).mono ?_; rintro e w' ⟨rfl, rfl⟩)
        | (go_at_call 11; refine (rsat_any _ _).mono ?_; rintro e w' ⟨rfl, rfl⟩)
        | (go_at_call 12; refine (mul_any _ _ b1 b2 c1 c2 _).mono ?_; rintro e w' ⟨rfl, rfl⟩)
        | (go_at_call 13; refine (rmul_any _ _ b1 b2 c1 c2 _).mono ?_; rintro e w' ⟨rfl, rfl⟩)
        | (go_at_call 14; refine (div_any _ _ b1 b2 c1 c2 _).mono ?_; rintro e w' ⟨rfl, rfl⟩)
        | (go_at_call 15; refine (rdiv_any _ _ b1 b2 c1 c2 _).mono ?_; rintro e w' ⟨rfl, rfl⟩)
        | (go_at_call 16; refine (round_any _ b1 b2 _).mono ?_; rintro e w' ⟨rfl, rfl⟩)
        | (go_at_call 17; refine (rround_any _ b1 b2 _).mono ?_; rintro e w' ⟨rfl, rfl⟩)
        | (go_at_call 18; refine (of_any _ _).mono ?_; rintro e w' ⟨rfl, rfl⟩)
        | (go_at_call 19; refine (between_any _ _ _ b1 b2 c1 c2 _).mono ?_; rintro e w' ⟨rfl, rfl⟩)
        | (go_at_call 20; refine (rbetween_any _ _ _ b1 b2 c1 c2 d1 d2 _).mono ?_; rintro e w' ⟨rfl, rfl⟩))
      all_goals (go_ret; exact ⟨rfl, Grown.refl _⟩)

theorem own : ownKnob Try.prog.godebug = none := by kernel_rfl

/-! ### THE ROW's STEP: WRITTEN OUT: LEAVE IT -/
set_option maxRecDepth 100000 in
theorem lifted (os : Os) (started : os.Started) (H : Type) (enc : TypeId × Value → H) :
    ReturnsInHanded {} Try.checked os 3 .any (Rows.fixSaysSpec.pre6 enc Try.prog Try.f3 Rows.fixSaysRow.domain false) (Rows.fixSaysSpec.post enc Try.prog Try.f3 false true false false) := by
  refine returnsInHanded_of_change (C := Try.checked) own started (by kernel_rfl) Try.func3
    (ChangeSpec.witness6 (enc := enc) (C := Try.checked) false ⟨#[], #[.int .i32 0, .int .i32 0, .int .i32 0, .int .i64 0], []⟩ 8 (by kernel_rfl) (by kernel_rfl) (by kernel_rfl) (by kernel_rfl)) ?_
  intro W base args ds gs before hval0 hW hcnd _
  have hval : ∀ (j : Nat) t v, Try.f3.params[j]? = some t → args[j]? = some v → Value.okWide Try.prog W .any base t v := hval0
  have hW' := hW
  obtain ⟨p, q, hA0, hV, rfl, hfz, hnd⟩ := hW
  have hA : DataW.TrodAll enc Try.prog W 0 (fun _ => true) true Try.f3.params.toList args.toList ds p := hA0
  rw [Try.params3] at hA hval
  obtain ⟨v0, vs0, d0, ds0, p0, q0, hargs, rfl, rfl, h0, r0⟩ := trodAll_cons hA
  obtain ⟨v1, vs1, d1, ds1, p1, q1, rfl, rfl, rfl, h1, r1⟩ := trodAll_cons r0
  obtain ⟨v2, vs2, d2, ds2, p2, q2, rfl, rfl, rfl, h2, r2⟩ := trodAll_cons r1
  obtain ⟨v3, vs3, d3, ds3, p3, q3, rfl, rfl, rfl, h3, r3⟩ := trodAll_cons r2
  obtain ⟨rfl, rfl, rfl⟩ := trodAll_nil r3
  obtain rfl : args = #[v0, v1, v2, v3] := by cases args; simp_all
  obtain ⟨rfl, rfl⟩ := trodVars_none hV
  obtain ⟨a0, rfl, rfl, rfl, w0⟩ := open_int Try.underlying21 (hval 0 21 v0 rfl rfl) h0
  obtain ⟨a1, rfl, rfl, rfl, w1⟩ := open_int Try.underlying21 (hval 1 21 v1 rfl rfl) h1
  obtain ⟨a2, rfl, rfl, rfl, w2⟩ := open_int Try.underlying21 (hval 2 21 v2 rfl rfl) h2
  obtain ⟨a3, rfl, rfl, rfl, w3⟩ := open_int Try.underlying3 (hval 3 3 v3 rfl rfl) h3
  clear hA0 hval0
  simp only [List.append_nil] at hW'
  refine (walk a0 a1 a2 a3 w0 w1 w2 w3 W).mono fun e W' ⟨he, hg⟩ => ?_
  subst he
  exact ⟨_, rfl, post_of_same (pa := []) (pv := []) hW' (fun _ _ _ => (trodAll_cons_mk (shut_bool Try.underlying4 _) trodAll_mk0)) (fun sp _ => (trodAll_cons_mk (shut_int Try.underlying21 w0) (trodAll_cons_mk (shut_int Try.underlying21 w1) (trodAll_cons_mk (shut_int Try.underlying21 w2) (trodAll_cons_mk (shut_int Try.underlying3 w3) trodAll_mk0))))) (fun _ _ => rfl) rfl
    (hg.frame _) hg.2.1 (ok_one (by kernel_rfl) rfl (okWide_bool_mk Try.underlying4 _))⟩

theorem over : Rows.fixSaysRow.holds Try.pinned (OpenSpec.ofChange Rows.fixSaysSpec) :=
  OpenClaim.holds_of_wide 3 Try.f3 rfl rfl rfl rfl rfl rfl rfl ⟨rfl, rfl, rfl, rfl, rfl⟩ rfl rfl rfl rfl rfl (by kernel_rfl) Try.func3 (by kernel_rfl)
    (of_decide_eq_true (by kernel_rfl)) (by unfold Func.isWrapper; first | (rw [if_pos (by decide +kernel)]; kernel_rfl) | (rw [if_neg (by decide +kernel)]; exact ⟨rfl, rfl⟩))
    (fun os started H enc _ => lifted os started H enc)


end Go.Proofs.Ytjngnelpkjjecaa.fixSays
namespace Go.Proofs.Ytjngnelpkjjecaa
/-- THE STATEMENT -/
theorem fixSays_holds : Rows.FixSaysSaid := fixSays.over
#print axioms fixSays_holds
end Go.Proofs.Ytjngnelpkjjecaa
