/-
  Whatever four numbers are handed in, the law FiltRate returns true: no step is greater than it may be, what is near enough is reached; what is dead is no farther from 0, and no farther from another one. No condition.
-/
import Derived.Test.YtdfpbdocbdapbaaFilt
import Derived.Test.YtdfpbdocbdapbaaKeep
import Derived.Test.YtdfpbdocbdapbaaOpen
import Derived.ProofKit
namespace Go.Proofs.Ytdfpbdocbdapbaa.filtRate
open Go.ChangeShapes Go.WideShapes Go.ChangeAt Go.RowKit
set_option linter.unusedVariables false

theorem own : ownKnob Try.prog.godebug = none := by kernel_rfl
theorem laidOut : laidOutB Try.prog = true := by kernel_rfl


theorem absI_cases (a : Int) : 0 ≤ a ∧ absI a = a ∨ a < 0 ∧ absI a = -a := by
  rcases Int.lt_or_le a 0 with h | h
  · exact Or.inr ⟨h, by unfold absI; rw [if_pos h]⟩
  · exact Or.inl ⟨h, by unfold absI; rw [if_neg (by omega)]⟩
theorem bnd_in {x a b : Int} (h : a ≤ b) : x < a ∧ bnd x a b = a ∨ b < x ∧ bnd x a b = b ∨ a ≤ x ∧ x ≤ b ∧ bnd x a b = x := by
  rcases Int.lt_or_le x a with h1 | h1
  · exact Or.inl ⟨h1, bnd_low h1⟩
  · rcases Int.lt_or_le b x with h2 | h2
    · exact Or.inr (Or.inl ⟨h2, bnd_high h1 h2⟩)
    · exact Or.inr (Or.inr ⟨h1, h2, bnd_mid h1 h2⟩)
/-- what a rate makes of it, told by its sides -/
theorem rate_facts {y x m : Int} (y1 : -2147483648 ≤ y) (y2 : y ≤ 2147483647) (x1 : -2147483648 ≤ x) (x2 : x ≤ 2147483647) (m1 : -2147483648 ≤ m) (m2 : m ≤ 2147483647) :
    absI (rateI y x m - y) ≤ wide m ∧ (absI (y - x) ≤ wide m → rateI y x m = x) ∧ absI (rateI y x m - x) ≤ absI (y - x) ∧ -2147483648 ≤ rateI y x m ∧ rateI y x m ≤ 2147483647 := by
  have a := wide_in m1 m2
  have b := s32_in (y - wide m)
  have c := s32_in (y + wide m)
  have d := bnd_in (x := x) (a := s32 (y - wide m)) (b := s32 (y + wide m)) (by omega)
  have e1 := absI_cases (rateI y x m - y)
  have e2 := absI_cases (y - x)
  have e3 := absI_cases (rateI y x m - x)
  unfold rateI at *
  generalize bnd x (s32 (y - wide m)) (s32 (y + wide m)) = W at *
  generalize s32 (y - wide m) = L at *
  generalize s32 (y + wide m) = H at *
  generalize wide m = M at *
  omega
theorem dead_cases (x m : Int) : wide m < x ∧ deadI x m = x - wide m ∨ x ≤ wide m ∧ x < -wide m ∧ deadI x m = x + wide m ∨ -wide m ≤ x ∧ x ≤ wide m ∧ deadI x m = 0 := by
  unfold deadI
  split
  · omega
  · split <;> omega
theorem dead_facts {x z m : Int} (x1 : -2147483648 ≤ x) (x2 : x ≤ 2147483647) (m1 : -2147483648 ≤ m) (m2 : m ≤ 2147483647) :
    absI (deadI x m) ≤ absI x ∧ absI (deadI x m - deadI z m) ≤ absI (x - z) ∧ (x ≤ z → deadI x m ≤ deadI z m) ∧ -2147483648 ≤ deadI x m ∧ deadI x m ≤ 2147483647 := by
  have a := wide_in m1 m2
  have b := dead_cases x m
  have c := dead_cases z m
  have e1 := absI_cases (deadI x m)
  have e2 := absI_cases x
  have e3 := absI_cases (deadI x m - deadI z m)
  have e4 := absI_cases (x - z)
  generalize deadI x m = A at *
  generalize deadI z m = B at *
  generalize wide m = M at *
  omega

set_option maxHeartbeats 4000000 in
theorem walk (y : Int) (x : Int) (z : Int) (m : Int) (w : World) (h_y : (Lit.int .i32 y).wf = true) (h_x : (Lit.int .i32 x).wf = true) (h_z : (Lit.int .i32 z).wf = true) (h_m : (Lit.int .i32 m).wf = true) :
    Calls Try.prog 6 #[.int .i32 y, .int .i32 x, .int .i32 z, .int .i32 m] w fun e w' => e = .returned (.bool true) ∧ Below w.heap.size w w' := by
  obtain ⟨y1, y2⟩ := i32_of h_y
  obtain ⟨x1, x2⟩ := i32_of h_x
  obtain ⟨z1, z2⟩ := i32_of h_z
  obtain ⟨m1, m2⟩ := i32_of h_m
  have r0 : ∀ w, Calls Try.prog 16 #[.int .i32 0, .int .i32 9, .int .i32 4] w fun e w' => e = .returned (.int .i32 4) ∧ w' = w := fun w => by
    have := rate_any 0 9 4 (by omega) (by omega) (by omega) (by omega) w
    rw [show rateI 0 9 4 = 4 from by decide] at this
    exact this
  have d0 : ∀ w, Calls Try.prog 18 #[.int .i32 9, .int .i32 4] w fun e w' => e = .returned (.int .i32 5) ∧ w' = w := fun w => by
    have := dead_any 9 4 (by omega) (by omega) (by omega) (by omega) w
    rw [show deadI 9 4 = 5 from by decide] at this
    exact this
  have cr := fun w => rate_any y x m y1 y2 m1 m2 w
  have cx := fun w => dead_any x m x1 x2 m1 m2 w
  have cz := fun w => dead_any z m z1 z2 m1 m2 w
  obtain ⟨f1, f2, f3, f4, f5⟩ := rate_facts y1 y2 x1 x2 m1 m2
  obtain ⟨g1, g2, g3, g4, g5⟩ := dead_facts (z := z) x1 x2 m1 m2
  obtain ⟨_, _, _, g6, g7⟩ := dead_facts (z := x) z1 z2 m1 m2
  have wd := wide_in m1 m2
  have am := absI_cases m
  generalize rateI y x m = V at *
  generalize deadI x m = A at *
  generalize deadI z m = B at *
  generalize wide m = M at *
  clear h_y h_x h_z h_m
  have k1 := fun w => apart_any m 0 m1 m2 (by omega) (by omega) w
  have k2 := fun w => apart_any V y (by omega) (by omega) (by omega) (by omega) w
  have k3 := fun w => apart_any y x (by omega) (by omega) (by omega) (by omega) w
  have k4 := fun w => apart_any V x (by omega) (by omega) (by omega) (by omega) w
  have k5 := fun w => apart_any A 0 (by omega) (by omega) (by omega) (by omega) w
  have k6 := fun w => apart_any x 0 (by omega) (by omega) (by omega) (by omega) w
  have k7 := fun w => apart_any A B (by omega) (by omega) (by omega) (by omega) w
  have k8 := fun w => apart_any x z (by omega) (by omega) (by omega) (by omega) w
  rw [Int.sub_zero] at k1 k5 k6
  have n3 := absI_cases (y - x)
  generalize absI m = K at *
  generalize absI (V - y) = Q2 at *
  generalize absI (y - x) = Q3 at *
  generalize absI (V - x) = Q4 at *
  generalize absI A = Q5 at *
  generalize absI x = Q6 at *
  generalize absI (A - B) = Q7 at *
  generalize absI (x - z) = Q8 at *
  have kk : K < 2147483647 ∧ M = K ∨ K = 2147483647 ∧ M = 2147483647 ∨ 2147483647 < K ∧ M = 2147483647 := by omega
  clear wd am n3
  have main : ∀ (D : Bool) (E : Bool), D = decide (Q3 ≤ M) → E = decide (x ≤ z) → Calls Try.prog 6 #[.int .i32 y, .int .i32 x, .int .i32 z, .int .i32 m] w fun e w' => e = .returned (.bool true) ∧ Below w.heap.size w w' := by
    intro D E hD hE
    rcases kk with ⟨kq, rfl⟩ | ⟨rfl, rfl⟩ | ⟨kq, rfl⟩
    all_goals
      cases D
      all_goals
        cases E
        all_goals
          (first | have j1 := of_decide_eq_true hD.symm | have j1 := of_decide_eq_false hD.symm)
          (first | have j2 := of_decide_eq_true hE.symm | have j2 := of_decide_eq_false hE.symm)
          (try have j3 := f2 j1)
          (try have j4 := g3 j2)
          (try subst j3)
          clear hD hE f2 g3
          go_enter Try.func6, Try.ntmps6
          go_wp2_with fail
          refine (r0 _).mono ?_
          rintro e w' ⟨rfl, rfl⟩
          go_wp2_with fail
          refine (d0 _).mono ?_
          rintro e w' ⟨rfl, rfl⟩
          go_wp2_with fail
          refine (cr _).mono ?_
          rintro e w' ⟨rfl, rfl⟩
          go_wp2_with fail
          refine (k1 _).mono ?_
          rintro e w' ⟨rfl, rfl⟩
          go_wp2_with fail
          refine (k2 _).mono ?_
          rintro e w' ⟨rfl, rfl⟩
          go_wp2_with fail
          refine (k3 _).mono ?_
          rintro e w' ⟨rfl, rfl⟩
          go_wp2_with fail
          refine (k4 _).mono ?_
          rintro e w' ⟨rfl, rfl⟩
          go_wp2_with fail
          refine (k3 _).mono ?_
          rintro e w' ⟨rfl, rfl⟩
          go_wp2_with fail
          refine (cx _).mono ?_
          rintro e w' ⟨rfl, rfl⟩
          go_wp2_with fail
          refine (cz _).mono ?_
          rintro e w' ⟨rfl, rfl⟩
          go_wp2_with fail
          refine (k5 _).mono ?_
          rintro e w' ⟨rfl, rfl⟩
          go_wp2_with fail
          refine (k6 _).mono ?_
          rintro e w' ⟨rfl, rfl⟩
          go_wp2_with fail
          refine (k7 _).mono ?_
          rintro e w' ⟨rfl, rfl⟩
          go_wp2_with fail
          refine (k8 _).mono ?_
          rintro e w' ⟨rfl, rfl⟩
          go_wp2_with fail
          go_ret
          exact ⟨by simp [*], Below.refl _ _⟩
  exact main _ _ rfl rfl

/-! ### THE ROW's STEP -/
set_option maxRecDepth 100000 in
theorem lifted (os : Os) (started : os.Started) (H : Type) (enc : TypeId × Value → H) :
    ReturnsInHanded {} Try.checked os 6 .any (Rows.filtRateSpec.pre6 enc Try.prog Try.f6 Rows.filtRateRow.domain false) (Rows.filtRateSpec.post enc Try.prog Try.f6 false true false false) := by
  refine returnsInHanded_of_change (C := Try.checked) own started (by kernel_rfl) Try.func6
    (ChangeSpec.witness6 (enc := enc) (C := Try.checked) false ⟨#[], #[.int .i32 0, .int .i32 0, .int .i32 0, .int .i32 0], []⟩ 8 (by kernel_rfl) (by kernel_rfl) (by kernel_rfl) (by kernel_rfl)) ?_
  intro W base args ds gs before hval0 hW hcnd _
  have hval : ∀ (j : Nat) t v, Try.f6.params[j]? = some t → args[j]? = some v → Value.okWide Try.prog W .any base t v := hval0
  have hW' := hW
  obtain ⟨p, q, hA0, hV, rfl, hfz, hnd⟩ := hW
  have hA : DataW.TrodAll enc Try.prog W 0 (fun _ => true) true Try.f6.params.toList args.toList ds p := hA0
  rw [Try.params6] at hA hval
  obtain ⟨v0, vs0, d0, ds0, p0, q0, hargs, rfl, rfl, h0, r0⟩ := trodAll_cons hA
  obtain ⟨v1, vs1, d1, ds1, p1, q1, rfl, rfl, rfl, h1, r1⟩ := trodAll_cons r0
  obtain ⟨v2, vs2, d2, ds2, p2, q2, rfl, rfl, rfl, h2, r2⟩ := trodAll_cons r1
  obtain ⟨v3, vs3, d3, ds3, p3, q3, rfl, rfl, rfl, h3, r3⟩ := trodAll_cons r2
  obtain ⟨rfl, rfl, rfl⟩ := trodAll_nil r3
  obtain rfl : args = #[v0, v1, v2, v3] := by cases args; simp_all
  obtain ⟨rfl, rfl⟩ := trodVars_none hV
  have k0 := h0
  have lt0 : ∀ x ∈ p0, x.block < W.heap.size := by obtain ⟨m, hm⟩ := k0; exact DataW.trod_lt m _ _ _ hm
  obtain ⟨y, rfl, rfl, rfl, h_y⟩ := open_int Try.underlying21 (hval 0 21 v0 rfl rfl) h0
  have k1 := h1
  have lt1 : ∀ x ∈ p1, x.block < W.heap.size := by obtain ⟨m, hm⟩ := k1; exact DataW.trod_lt m _ _ _ hm
  obtain ⟨x, rfl, rfl, rfl, h_x⟩ := open_int Try.underlying21 (hval 1 21 v1 rfl rfl) h1
  have k2 := h2
  have lt2 : ∀ x ∈ p2, x.block < W.heap.size := by obtain ⟨m, hm⟩ := k2; exact DataW.trod_lt m _ _ _ hm
  obtain ⟨z, rfl, rfl, rfl, h_z⟩ := open_int Try.underlying21 (hval 2 21 v2 rfl rfl) h2
  have k3 := h3
  have lt3 : ∀ x ∈ p3, x.block < W.heap.size := by obtain ⟨m, hm⟩ := k3; exact DataW.trod_lt m _ _ _ hm
  obtain ⟨m, rfl, rfl, rfl, h_m⟩ := open_int Try.underlying21 (hval 3 21 v3 rfl rfl) h3
  clear hA0 hval0
  refine (walk y x z m W h_y h_x h_z h_m).mono fun e W' ⟨he, bel⟩ => ?_
  subst he
  exact ⟨_, rfl, _, _, _, [], _, [], hW', trodAll_mk1 (shut_bool Try.underlying4 _), (trodAll_cons_mk (Below.trod laidOut (by kernel_rfl) (of_decide_eq_true (by kernel_rfl)) k0 bel lt0) (trodAll_cons_mk (Below.trod laidOut (by kernel_rfl) (of_decide_eq_true (by kernel_rfl)) k1 bel lt1) (trodAll_cons_mk (Below.trod laidOut (by kernel_rfl) (of_decide_eq_true (by kernel_rfl)) k2 bel lt2) (trodAll_cons_mk (Below.trod laidOut (by kernel_rfl) (of_decide_eq_true (by kernel_rfl)) k3 bel lt3) trodAll_mk0)))), rfl, bel.frame _, fun h => by cases h⟩

theorem over : Rows.filtRateRow.holds Try.pinned (OpenSpec.ofChange Rows.filtRateSpec) :=
  OpenClaim.holds_of_wide 6 Try.f6 rfl rfl rfl rfl rfl rfl rfl ⟨rfl, rfl, rfl, rfl, rfl⟩ rfl rfl rfl rfl rfl (by kernel_rfl) Try.func6 (by kernel_rfl)
    (of_decide_eq_true (by kernel_rfl)) (by unfold Func.isWrapper; first | (rw [if_pos (by decide +kernel)]; kernel_rfl) | (rw [if_neg (by decide +kernel)]; exact ⟨rfl, rfl⟩))
    (fun os started H enc _ => lifted os started H enc)


end Go.Proofs.Ytdfpbdocbdapbaa.filtRate
namespace Go.Proofs.Ytdfpbdocbdapbaa
/-- THE STATEMENT -/
theorem filtRate_holds : Rows.FiltRateSaid := filtRate.over
#print axioms filtRate_holds
end Go.Proofs.Ytdfpbdocbdapbaa
