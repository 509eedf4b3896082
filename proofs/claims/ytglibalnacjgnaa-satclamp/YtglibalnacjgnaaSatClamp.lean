/-
  Whatever four numbers of 32 bits are handed in, the law SatClamp returns true: what is clamped lies within, is as it was if that is within, and no number within is nearer. No condition.
-/
import Derived.Test.YtglibalnacjgnaaSat
import Derived.ProofKit
namespace Go.Proofs.Ytglibalnacjgnaa.satClamp
open Go.ChangeShapes Go.WideShapes Go.ChangeAt Go.RowKit
set_option linter.unusedVariables false

set_option maxHeartbeats 400000 in
theorem apart_any (a b : Int) (a1 : -2147483648 ≤ a) (a2 : a ≤ 2147483647) (b1 : -2147483648 ≤ b) (b2 : b ≤ 2147483647) (w : World) :
    Calls Try.prog 24 #[.int .i32 a, .int .i32 b] w fun e w' => e = .returned (.int .i64 (absI (a - b))) ∧ w' = w := by
  rcases Int.lt_or_le (a - b) 0 with h | h
  · go_enter Try.func24, Try.ntmps24
    go_wp2
    go_ret
    exact ⟨ret_int (by unfold absI; rw [if_pos h]), rfl⟩
  · go_enter Try.func24, Try.ntmps24
    go_wp2
    go_ret
    exact ⟨ret_int (by unfold absI; rw [if_neg (by omega)]), rfl⟩

theorem clamp_cases (a b c : Int) (h : b ≤ c) : a < b ∧ clampI a b c = b ∨ c < a ∧ b ≤ a ∧ clampI a b c = c ∨ b ≤ a ∧ a ≤ c ∧ clampI a b c = a := by
  unfold clampI
  rw [if_neg (by omega)]
  rcases Int.lt_or_le a b with h1 | h1
  · exact Or.inl ⟨h1, bnd_low h1⟩
  · rcases Int.lt_or_le c a with h2 | h2
    · exact Or.inr (Or.inl ⟨h2, h1, bnd_high h1 h2⟩)
    · exact Or.inr (Or.inr ⟨h1, h2, bnd_mid h1 h2⟩)
theorem clamp_swap (a b c : Int) : clampI a b c = clampI a c b := by
  unfold clampI bnd
  repeat' split
  all_goals omega

theorem abs_le {x y : Int} (h : x ≤ y ∨ x ≤ -y) (h' : -x ≤ y ∨ -x ≤ -y) : absI x ≤ absI y := by
  unfold absI
  split <;> split <;> omega

set_option maxHeartbeats 1000000 in
theorem walk_le (a b c d : Int) (h : b ≤ c) (a1 : -2147483648 ≤ a) (a2 : a ≤ 2147483647) (b1 : -2147483648 ≤ b) (b2 : b ≤ 2147483647) (c1 : -2147483648 ≤ c) (c2 : c ≤ 2147483647) (d1 : -2147483648 ≤ d) (d2 : d ≤ 2147483647) (w : World) :
    Calls Try.prog 8 #[.int .i32 a, .int .i32 b, .int .i32 c, .int .i32 d] w fun e w' => e = .returned (.bool true) ∧ Grown w w' := by
  have k1 : clampI 9 5 1 = 5 := by decide
  have k2 : clampI 3 1 5 = 3 := by decide
  have e2 := clamp_swap a c b
  rcases clamp_cases a b c h with ⟨h1, e1⟩ | ⟨h1, h2, e1⟩ | ⟨h1, h2, e1⟩
  · have e3 : clampI b b c = b := by unfold clampI; rw [if_neg (by omega)]; exact bnd_mid (by omega) (by omega)
    rcases Int.lt_or_le d b with g1 | g1
    · go_enter Try.func8, Try.ntmps8
      go_wp2_with (first | (go_at_call 21; refine (clamp_any _ _ _ _).mono ?_; rintro e w' ⟨rfl, rfl⟩) | (go_at_call 24; refine (apart_any _ _ (by omega) (by omega) (by omega) (by omega) _).mono ?_; rintro e w' ⟨rfl, rfl⟩))
      all_goals (go_ret; exact ⟨rfl, Grown.refl _⟩)
    · rcases Int.lt_or_le c d with g2 | g2
      · go_enter Try.func8, Try.ntmps8
        go_wp2_with (first | (go_at_call 21; refine (clamp_any _ _ _ _).mono ?_; rintro e w' ⟨rfl, rfl⟩) | (go_at_call 24; refine (apart_any _ _ (by omega) (by omega) (by omega) (by omega) _).mono ?_; rintro e w' ⟨rfl, rfl⟩))
        all_goals (go_ret; exact ⟨rfl, Grown.refl _⟩)
      · have e4 : absI (b - a) ≤ absI (d - a) := abs_le (by omega) (by omega)
        go_enter Try.func8, Try.ntmps8
        go_wp2_with (first | (go_at_call 21; refine (clamp_any _ _ _ _).mono ?_; rintro e w' ⟨rfl, rfl⟩) | (go_at_call 24; refine (apart_any _ _ (by omega) (by omega) (by omega) (by omega) _).mono ?_; rintro e w' ⟨rfl, rfl⟩))
        all_goals (go_ret; exact ⟨rfl, Grown.refl _⟩)
  · have e3 : clampI c b c = c := by unfold clampI; rw [if_neg (by omega)]; exact bnd_mid (by omega) (by omega)
    rcases Int.lt_or_le d b with g1 | g1
    · go_enter Try.func8, Try.ntmps8
      go_wp2_with (first | (go_at_call 21; refine (clamp_any _ _ _ _).mono ?_; rintro e w' ⟨rfl, rfl⟩) | (go_at_call 24; refine (apart_any _ _ (by omega) (by omega) (by omega) (by omega) _).mono ?_; rintro e w' ⟨rfl, rfl⟩))
      all_goals (go_ret; exact ⟨rfl, Grown.refl _⟩)
    · rcases Int.lt_or_le c d with g2 | g2
      · go_enter Try.func8, Try.ntmps8
        go_wp2_with (first | (go_at_call 21; refine (clamp_any _ _ _ _).mono ?_; rintro e w' ⟨rfl, rfl⟩) | (go_at_call 24; refine (apart_any _ _ (by omega) (by omega) (by omega) (by omega) _).mono ?_; rintro e w' ⟨rfl, rfl⟩))
        all_goals (go_ret; exact ⟨rfl, Grown.refl _⟩)
      · have e4 : absI (c - a) ≤ absI (d - a) := abs_le (by omega) (by omega)
        go_enter Try.func8, Try.ntmps8
        go_wp2_with (first | (go_at_call 21; refine (clamp_any _ _ _ _).mono ?_; rintro e w' ⟨rfl, rfl⟩) | (go_at_call 24; refine (apart_any _ _ (by omega) (by omega) (by omega) (by omega) _).mono ?_; rintro e w' ⟨rfl, rfl⟩))
        all_goals (go_ret; exact ⟨rfl, Grown.refl _⟩)
  · rcases Int.lt_or_le d b with g1 | g1
    · go_enter Try.func8, Try.ntmps8
      go_wp2_with (first | (go_at_call 21; refine (clamp_any _ _ _ _).mono ?_; rintro e w' ⟨rfl, rfl⟩) | (go_at_call 24; refine (apart_any _ _ (by omega) (by omega) (by omega) (by omega) _).mono ?_; rintro e w' ⟨rfl, rfl⟩))
      all_goals (go_ret; exact ⟨rfl, Grown.refl _⟩)
    · rcases Int.lt_or_le c d with g2 | g2
      · go_enter Try.func8, Try.ntmps8
        go_wp2_with (first | (go_at_call 21; refine (clamp_any _ _ _ _).mono ?_; rintro e w' ⟨rfl, rfl⟩) | (go_at_call 24; refine (apart_any _ _ (by omega) (by omega) (by omega) (by omega) _).mono ?_; rintro e w' ⟨rfl, rfl⟩))
        all_goals (go_ret; exact ⟨rfl, Grown.refl _⟩)
      · have e4 : absI (a - a) ≤ absI (d - a) := abs_le (by omega) (by omega)
        rw [Int.sub_self] at e4
        go_enter Try.func8, Try.ntmps8
        go_wp2_with (first | (go_at_call 21; refine (clamp_any _ _ _ _).mono ?_; rintro e w' ⟨rfl, rfl⟩) | (go_at_call 24; refine (apart_any _ _ (by omega) (by omega) (by omega) (by omega) _).mono ?_; rintro e w' ⟨rfl, rfl⟩))
        all_goals (go_ret; exact ⟨rfl, Grown.refl _⟩)

set_option maxHeartbeats 1000000 in
theorem walk_gt (a b c d : Int) (h : c < b) (a1 : -2147483648 ≤ a) (a2 : a ≤ 2147483647) (b1 : -2147483648 ≤ b) (b2 : b ≤ 2147483647) (c1 : -2147483648 ≤ c) (c2 : c ≤ 2147483647) (d1 : -2147483648 ≤ d) (d2 : d ≤ 2147483647) (w : World) :
    Calls Try.prog 8 #[.int .i32 a, .int .i32 b, .int .i32 c, .int .i32 d] w fun e w' => e = .returned (.bool true) ∧ Grown w w' := by
  have k1 : clampI 9 5 1 = 5 := by decide
  have k2 : clampI 3 1 5 = 3 := by decide
  have e2 := clamp_swap a b c
  rcases clamp_cases a c b (by omega) with ⟨h1, e1⟩ | ⟨h1, h2, e1⟩ | ⟨h1, h2, e1⟩
  · have e3 : clampI c b c = c := by rw [clamp_swap]; unfold clampI; rw [if_neg (by omega)]; exact bnd_mid (by omega) (by omega)
    rcases Int.lt_or_le d c with g1 | g1
    · go_enter Try.func8, Try.ntmps8
      go_wp2_with (first | (go_at_call 21; refine (clamp_any _ _ _ _).mono ?_; rintro e w' ⟨rfl, rfl⟩) | (go_at_call 24; refine (apart_any _ _ (by omega) (by omega) (by omega) (by omega) _).mono ?_; rintro e w' ⟨rfl, rfl⟩))
      all_goals (go_ret; exact ⟨rfl, Grown.refl _⟩)
    · rcases Int.lt_or_le b d with g2 | g2
      · go_enter Try.func8, Try.ntmps8
        go_wp2_with (first | (go_at_call 21; refine (clamp_any _ _ _ _).mono ?_; rintro e w' ⟨rfl, rfl⟩) | (go_at_call 24; refine (apart_any _ _ (by omega) (by omega) (by omega) (by omega) _).mono ?_; rintro e w' ⟨rfl, rfl⟩))
        all_goals (go_ret; exact ⟨rfl, Grown.refl _⟩)
      · have e4 : absI (c - a) ≤ absI (d - a) := abs_le (by omega) (by omega)
        go_enter Try.func8, Try.ntmps8
        go_wp2_with (first | (go_at_call 21; refine (clamp_any _ _ _ _).mono ?_; rintro e w' ⟨rfl, rfl⟩) | (go_at_call 24; refine (apart_any _ _ (by omega) (by omega) (by omega) (by omega) _).mono ?_; rintro e w' ⟨rfl, rfl⟩))
        all_goals (go_ret; exact ⟨rfl, Grown.refl _⟩)
  · have e3 : clampI b b c = b := by rw [clamp_swap]; unfold clampI; rw [if_neg (by omega)]; exact bnd_mid (by omega) (by omega)
    rcases Int.lt_or_le d c with g1 | g1
    · go_enter Try.func8, Try.ntmps8
      go_wp2_with (first | (go_at_call 21; refine (clamp_any _ _ _ _).mono ?_; rintro e w' ⟨rfl, rfl⟩) | (go_at_call 24; refine (apart_any _ _ (by omega) (by omega) (by omega) (by omega) _).mono ?_; rintro e w' ⟨rfl, rfl⟩))
      all_goals (go_ret; exact ⟨rfl, Grown.refl _⟩)
    · rcases Int.lt_or_le b d with g2 | g2
      · go_enter Try.func8, Try.ntmps8
        go_wp2_with (first | (go_at_call 21; refine (clamp_any _ _ _ _).mono ?_; rintro e w' ⟨rfl, rfl⟩) | (go_at_call 24; refine (apart_any _ _ (by omega) (by omega) (by omega) (by omega) _).mono ?_; rintro e w' ⟨rfl, rfl⟩))
        all_goals (go_ret; exact ⟨rfl, Grown.refl _⟩)
      · have e4 : absI (b - a) ≤ absI (d - a) := abs_le (by omega) (by omega)
        go_enter Try.func8, Try.ntmps8
        go_wp2_with (first | (go_at_call 21; refine (clamp_any _ _ _ _).mono ?_; rintro e w' ⟨rfl, rfl⟩) | (go_at_call 24; refine (apart_any _ _ (by omega) (by omega) (by omega) (by omega) _).mono ?_; rintro e w' ⟨rfl, rfl⟩))
        all_goals (go_ret; exact ⟨rfl, Grown.refl _⟩)
  · rcases Int.lt_or_le d c with g1 | g1
    · go_enter Try.func8, Try.ntmps8
      go_wp2_with (first | (go_at_call 21; refine (clamp_any _ _ _ _).mono ?_; rintro e w' ⟨rfl, rfl⟩) | (go_at_call 24; refine (apart_any _ _ (by omega) (by omega) (by omega) (by omega) _).mono ?_; rintro e w' ⟨rfl, rfl⟩))
      all_goals (go_ret; exact ⟨rfl, Grown.refl _⟩)
    · rcases Int.lt_or_le b d with g2 | g2
      · go_enter Try.func8, Try.ntmps8
        go_wp2_with (first | (go_at_call 21; refine (clamp_any _ _ _ _).mono ?_; rintro e w' ⟨rfl, rfl⟩) | (go_at_call 24; refine (apart_any _ _ (by omega) (by omega) (by omega) (by omega) _).mono ?_; rintro e w' ⟨rfl, rfl⟩))
        all_goals (go_ret; exact ⟨rfl, Grown.refl _⟩)
      · have e4 : absI (a - a) ≤ absI (d - a) := abs_le (by omega) (by omega)
        rw [Int.sub_self] at e4
        go_enter Try.func8, Try.ntmps8
        go_wp2_with (first | (go_at_call 21; refine (clamp_any _ _ _ _).mono ?_; rintro e w' ⟨rfl, rfl⟩) | (go_at_call 24; refine (apart_any _ _ (by omega) (by omega) (by omega) (by omega) _).mono ?_; rintro e w' ⟨rfl, rfl⟩))
        all_goals (go_ret; exact ⟨rfl, Grown.refl _⟩)

theorem walk (a0 : Int) (a1 : Int) (a2 : Int) (a3 : Int) (w0 : (Lit.int .i32 a0).wf = true) (w1 : (Lit.int .i32 a1).wf = true) (w2 : (Lit.int .i32 a2).wf = true) (w3 : (Lit.int .i32 a3).wf = true) (w : World) :
    Calls Try.prog 8 #[.int .i32 a0, .int .i32 a1, .int .i32 a2, .int .i32 a3] w fun e w' => e = .returned (.bool true) ∧ Grown w w' := by
  have b0 := i32_of w0
  have b1 := i32_of w1
  have b2 := i32_of w2
  have b3 := i32_of w3
  rcases Int.lt_or_le a2 a1 with h | h
  · exact walk_gt a0 a1 a2 a3 h b0.1 b0.2 b1.1 b1.2 b2.1 b2.2 b3.1 b3.2 w
  · exact walk_le a0 a1 a2 a3 h b0.1 b0.2 b1.1 b1.2 b2.1 b2.2 b3.1 b3.2 w

theorem own : ownKnob Try.prog.godebug = none := by kernel_rfl

/-! ### THE ROW's STEP: WRITTEN OUT: LEAVE IT -/
set_option maxRecDepth 100000 in
theorem lifted (os : Os) (started : os.Started) (H : Type) (enc : TypeId × Value → H) :
    ReturnsInHanded {} Try.checked os 8 .any (Rows.satClampSpec.pre6 enc Try.prog Try.f8 Rows.satClampRow.domain false) (Rows.satClampSpec.post enc Try.prog Try.f8 false true false false) := by
  refine returnsInHanded_of_change (C := Try.checked) own started (by kernel_rfl) Try.func8
    (ChangeSpec.witness6 (enc := enc) (C := Try.checked) false ⟨#[], #[.int .i32 0, .int .i32 0, .int .i32 0, .int .i32 0], []⟩ 8 (by kernel_rfl) (by kernel_rfl) (by kernel_rfl) (by kernel_rfl)) ?_
  intro W base args ds gs before hval0 hW hcnd _
  have hval : ∀ (j : Nat) t v, Try.f8.params[j]? = some t → args[j]? = some v → Value.okWide Try.prog W .any base t v := hval0
  have hW' := hW
  obtain ⟨p, q, hA0, hV, rfl, hfz, hnd⟩ := hW
  have hA : DataW.TrodAll enc Try.prog W 0 (fun _ => true) true Try.f8.params.toList args.toList ds p := hA0
  rw [Try.params8] at hA hval
  obtain ⟨v0, vs0, d0, ds0, p0, q0, hargs, rfl, rfl, h0, r0⟩ := trodAll_cons hA
  obtain ⟨v1, vs1, d1, ds1, p1, q1, rfl, rfl, rfl, h1, r1⟩ := trodAll_cons r0
  obtain ⟨v2, vs2, d2, ds2, p2, q2, rfl, rfl, rfl, h2, r2⟩ := trodAll_cons r1
  obtain ⟨v3, vs3, d3, ds3, p3, q3, rfl, rfl, rfl, h3, r3⟩ := trodAll_cons r2
  obtain ⟨rfl, rfl, rfl⟩ := trodAll_nil r3
  obtain rfl : args = #[v0, v1, v2, v3] := by cases args; simp_all
  obtain ⟨rfl, rfl⟩ := trodVars_none hV
  obtain ⟨a0, rfl, rfl, rfl, w0⟩ := open_int Try.underlying21 (hval 0 21 v0 rfl rfl) h0
  obtain ⟨a1, rfl, rfl, rfl, w1⟩ := open_int Try.underlying21 (hval 1 21 v1 rfl rfl) h1
  obtain ⟨a2, rfl, rfl, rfl, w2⟩ := open_int Try.underlying21 (hval 2 21 v2 rfl rfl) h2
  obtain ⟨a3, rfl, rfl, rfl, w3⟩ := open_int Try.underlying21 (hval 3 21 v3 rfl rfl) h3
  clear hA0 hval0
  simp only [List.append_nil] at hW'
  refine (walk a0 a1 a2 a3 w0 w1 w2 w3 W).mono fun e W' ⟨he, hg⟩ => ?_
  subst he
  exact ⟨_, rfl, post_of_same (pa := []) (pv := []) hW' (fun _ _ _ => (trodAll_cons_mk (shut_bool Try.underlying4 _) trodAll_mk0)) (fun sp _ => (trodAll_cons_mk (shut_int Try.underlying21 w0) (trodAll_cons_mk (shut_int Try.underlying21 w1) (trodAll_cons_mk (shut_int Try.underlying21 w2) (trodAll_cons_mk (shut_int Try.underlying21 w3) trodAll_mk0))))) (fun _ _ => rfl) rfl
    (hg.frame _) hg.2.1 (ok_one (by kernel_rfl) rfl (okWide_bool_mk Try.underlying4 _))⟩

theorem over : Rows.satClampRow.holds Try.pinned (OpenSpec.ofChange Rows.satClampSpec) :=
  OpenClaim.holds_of_wide 8 Try.f8 rfl rfl rfl rfl rfl rfl rfl ⟨rfl, rfl, rfl, rfl, rfl⟩ rfl rfl rfl rfl rfl (by kernel_rfl) Try.func8 (by kernel_rfl)
    (of_decide_eq_true (by kernel_rfl)) (by unfold Func.isWrapper; first | (rw [if_pos (by decide +kernel)]; kernel_rfl) | (rw [if_neg (by decide +kernel)]; exact ⟨rfl, rfl⟩))
    (fun os started H enc _ => lifted os started H enc)


end Go.Proofs.Ytglibalnacjgnaa.satClamp
namespace Go.Proofs.Ytglibalnacjgnaa
/-- THE STATEMENT -/
theorem satClamp_holds : Rows.SatClampSaid := satClamp.over
#print axioms satClamp_holds
end Go.Proofs.Ytglibalnacjgnaa
