/-
  Whatever four numbers of 32 bits are handed in, the law FixBetween returns true: what is between two numbers is no farther than they are; at the ends it is they; farther on it is no nearer to the first. No condition.
-/
import Derived.Test.YtjngnelpkjjecaaFix
import Derived.ProofKit
namespace Go.Proofs.Ytjngnelpkjjecaa
open Go.RowKit

set_option maxHeartbeats 400000 in
theorem apart_any (a b : Int) (a1 : -2147483648 ≤ a) (a2 : a ≤ 2147483647) (b1 : -2147483648 ≤ b) (b2 : b ≤ 2147483647) (w : World) :
    Calls Try.prog 21 #[.int .i32 a, .int .i32 b] w fun e w' => e = .returned (.int .i64 (absI (a - b))) ∧ w' = w := by
  rcases Int.lt_or_le (a - b) 0 with h | h
  · go_enter Try.func21, Try.ntmps21
    go_wp2
    go_ret
    exact ⟨ret_int (by unfold absI; rw [if_pos h]), rfl⟩
  · go_enter Try.func21, Try.ntmps21
    go_wp2
    go_ret
    exact ⟨ret_int (by unfold absI; rw [if_neg (by omega)]), rfl⟩

end Go.Proofs.Ytjngnelpkjjecaa
namespace Go.Proofs.Ytjngnelpkjjecaa.fixBetween
open Go.ChangeShapes Go.WideShapes Go.ChangeAt Go.RowKit
set_option linter.unusedVariables false

theorem bnd_mono {a b : Int} (h : a ≤ b) : bnd a 0 65536 ≤ bnd b 0 65536 := by
  unfold bnd
  repeat' split
  all_goals omega
theorem between_far {a b t u : Int} (h : t ≤ u) : absI (a - betweenI a b t) ≤ absI (a - betweenI a b u) := by
  have m := bnd_mono h
  have q := bnd_in (a := t) (b := 0) (c := 65536) (by decide)
  unfold betweenI scaleI
  rcases Int.lt_or_le a b with g | g
  · have p1 : 0 ≤ (b - a) * bnd t 0 65536 := Int.mul_nonneg (by omega) (by omega)
    have p2 : (b - a) * bnd t 0 65536 ≤ (b - a) * bnd u 0 65536 := Int.mul_le_mul_of_nonneg_left m (by omega)
    unfold absI
    split <;> split <;> omega
  · have p1 : 0 ≤ (a - b) * bnd t 0 65536 := Int.mul_nonneg (by omega) (by omega)
    have p2 : (a - b) * bnd t 0 65536 ≤ (a - b) * bnd u 0 65536 := Int.mul_le_mul_of_nonneg_left m (by omega)
    have e : ∀ z : Int, (b - a) * z = -((a - b) * z) := by intro z; rw [← Int.neg_mul]; congr 1; omega
    rw [e, e]
    unfold absI
    split <;> split <;> omega
theorem between_none {a b t : Int} (h : t ≤ 0) : betweenI a b t = a := by
  have e : bnd t 0 65536 = 0 := by unfold bnd; split <;> (try split) <;> omega
  unfold betweenI scaleI
  rw [e, Int.mul_zero]
  omega
theorem between_all {a b : Int} : betweenI a b 65536 = b := by
  have e : bnd 65536 0 65536 = 65536 := by decide
  unfold betweenI scaleI
  rw [e]
  omega

set_option maxHeartbeats 1000000 in
theorem walk_le (a b t u : Int) (h : t ≤ u) (t' u' : Int) (ht : (t' = t ∧ u' = u) ∨ (t' = u ∧ u' = t)) (a1 : -2147483648 ≤ a) (a2 : a ≤ 2147483647) (b1 : -2147483648 ≤ b) (b2 : b ≤ 2147483647) (w : World) :
    Calls Try.prog 7 #[.int .i32 a, .int .i32 b, .int .i32 t', .int .i32 u'] w fun e w' => e = .returned (.bool true) ∧ Grown w w' := by
  have k1 : betweenI 0 8 16384 = 2 := by decide
  have k2 : betweenI a b 0 = a := between_none (by decide)
  have k3 : betweenI a b (-5) = a := between_none (by decide)
  have k4 : betweenI a b 65536 = b := between_all
  have f := between_far (a := a) (b := b) h
  have i1 := between_in (a := a) (b := b) (t := t)
  have i2 := between_in (a := a) (b := b) (t := u)
  obtain ⟨x, hx⟩ : ∃ x : Int, betweenI a b t = x := ⟨_, rfl⟩
  obtain ⟨y, hy⟩ : ∃ y : Int, betweenI a b u = y := ⟨_, rfl⟩
  rw [hx] at f i1
  rw [hy] at f i2
  rcases Int.lt_or_le a b with g | g
  · have x1 : a ≤ x := by omega
    have x2 : x ≤ b := by omega
    have y1 : a ≤ y := by omega
    have y2 : y ≤ b := by omega
    clear i1 i2
    rcases Int.lt_or_le t u with h' | h'
    · rcases ht with ⟨rfl, rfl⟩ | ⟨rfl, rfl⟩
      all_goals
        go_enter Try.func7, Try.ntmps7
        go_wp2_with (first | (go_at_call 19; refine (between_any _ _ _ (by omega) (by omega) (by omega) (by omega) _).mono ?_; rintro e w' ⟨rfl, rfl⟩) | (go_at_call 21; refine (apart_any _ _ (by omega) (by omega) (by omega) (by omega) _).mono ?_; rintro e w' ⟨rfl, rfl⟩))
        all_goals (go_ret; exact ⟨rfl, Grown.refl _⟩)
    · have e : t = u := by omega
      subst e
      have e : t' = t ∧ u' = t := by omega
      obtain ⟨rfl, rfl⟩ := e
      clear ht h h'
      go_enter Try.func7, Try.ntmps7
      go_wp2_with (first | (go_at_call 19; refine (between_any _ _ _ (by omega) (by omega) (by omega) (by omega) _).mono ?_; rintro e w' ⟨rfl, rfl⟩) | (go_at_call 21; refine (apart_any _ _ (by omega) (by omega) (by omega) (by omega) _).mono ?_; rintro e w' ⟨rfl, rfl⟩))
      all_goals (go_ret; exact ⟨rfl, Grown.refl _⟩)
  · have x1 : b ≤ x := by omega
    have x2 : x ≤ a := by omega
    have y1 : b ≤ y := by omega
    have y2 : y ≤ a := by omega
    clear i1 i2
    rcases Int.lt_or_le b a with g' | g'
    · rcases Int.lt_or_le t u with h' | h'
      · rcases ht with ⟨rfl, rfl⟩ | ⟨rfl, rfl⟩
        all_goals
          go_enter Try.func7, Try.ntmps7
          go_wp2_with (first | (go_at_call 19; refine (between_any _ _ _ (by omega) (by omega) (by omega) (by omega) _).mono ?_; rintro e w' ⟨rfl, rfl⟩) | (go_at_call 21; refine (apart_any _ _ (by omega) (by omega) (by omega) (by omega) _).mono ?_; rintro e w' ⟨rfl, rfl⟩))
          all_goals (go_ret; exact ⟨rfl, Grown.refl _⟩)
      · have e : t = u := by omega
        subst e
        have e : t' = t ∧ u' = t := by omega
        obtain ⟨rfl, rfl⟩ := e
        clear ht h h'
        go_enter Try.func7, Try.ntmps7
        go_wp2_with (first | (go_at_call 19; refine (between_any _ _ _ (by omega) (by omega) (by omega) (by omega) _).mono ?_; rintro e w' ⟨rfl, rfl⟩) | (go_at_call 21; refine (apart_any _ _ (by omega) (by omega) (by omega) (by omega) _).mono ?_; rintro e w' ⟨rfl, rfl⟩))
        all_goals (go_ret; exact ⟨rfl, Grown.refl _⟩)
    · have e : a = b := by omega
      subst e
      clear g g'
      rcases Int.lt_or_le t u with h' | h'
      · rcases ht with ⟨rfl, rfl⟩ | ⟨rfl, rfl⟩
        all_goals
          go_enter Try.func7, Try.ntmps7
          go_wp2_with (first | (go_at_call 19; refine (between_any _ _ _ (by omega) (by omega) (by omega) (by omega) _).mono ?_; rintro e w' ⟨rfl, rfl⟩) | (go_at_call 21; refine (apart_any _ _ (by omega) (by omega) (by omega) (by omega) _).mono ?_; rintro e w' ⟨rfl, rfl⟩))
          all_goals (go_ret; exact ⟨rfl, Grown.refl _⟩)
      · have e : t = u := by omega
        subst e
        have e : t' = t ∧ u' = t := by omega
        obtain ⟨rfl, rfl⟩ := e
        clear ht h h'
        go_enter Try.func7, Try.ntmps7
        go_wp2_with (first | (go_at_call 19; refine (between_any _ _ _ (by omega) (by omega) (by omega) (by omega) _).mono ?_; rintro e w' ⟨rfl, rfl⟩) | (go_at_call 21; refine (apart_any _ _ (by omega) (by omega) (by omega) (by omega) _).mono ?_; rintro e w' ⟨rfl, rfl⟩))
        all_goals (go_ret; exact ⟨rfl, Grown.refl _⟩)

theorem walk (a0 : Int) (a1 : Int) (a2 : Int) (a3 : Int) (w0 : (Lit.int .i32 a0).wf = true) (w1 : (Lit.int .i32 a1).wf = true) (w2 : (Lit.int .i32 a2).wf = true) (w3 : (Lit.int .i32 a3).wf = true) (w : World) :
    Calls Try.prog 7 #[.int .i32 a0, .int .i32 a1, .int .i32 a2, .int .i32 a3] w fun e w' => e = .returned (.bool true) ∧ Grown w w' := by
  have b0 := i32_of w0
  have b1 := i32_of w1
  rcases Int.lt_or_le a2 a3 with h | h
  · exact walk_le a0 a1 a2 a3 (Int.le_of_lt h) a2 a3 (Or.inl ⟨rfl, rfl⟩) b0.1 b0.2 b1.1 b1.2 w
  · exact walk_le a0 a1 a3 a2 h a2 a3 (Or.inr ⟨rfl, rfl⟩) b0.1 b0.2 b1.1 b1.2 w

theorem own : ownKnob Try.prog.godebug = none := by kernel_rfl

/-! ### THE ROW's STEP: WRITTEN OUT: LEAVE IT -/
set_option maxRecDepth 100000 in
theorem lifted (os : Os) (started : os.Started) (H : Type) (enc : TypeId × Value → H) :
    ReturnsInHanded {} Try.checked os 7 .any (Rows.fixBetweenSpec.pre6 enc Try.prog Try.f7 Rows.fixBetweenRow.domain false) (Rows.fixBetweenSpec.post enc Try.prog Try.f7 false true false false) := by
  refine returnsInHanded_of_change (C := Try.checked) own started (by kernel_rfl) Try.func7
    (ChangeSpec.witness6 (enc := enc) (C := Try.checked) false ⟨#[], #[.int .i32 0, .int .i32 0, .int .i32 0, .int .i32 0], []⟩ 8 (by kernel_rfl) (by kernel_rfl) (by kernel_rfl) (by kernel_rfl)) ?_
  intro W base args ds gs before hval0 hW hcnd _
  have hval : ∀ (j : Nat) t v, Try.f7.params[j]? = some t → args[j]? = some v → Value.okWide Try.prog W .any base t v := hval0
  have hW' := hW
  obtain ⟨p, q, hA0, hV, rfl, hfz, hnd⟩ := hW
  have hA : DataW.TrodAll enc Try.prog W 0 (fun _ => true) true Try.f7.params.toList args.toList ds p := hA0
  rw [Try.params7] at hA hval
  obtain ⟨v0, vs0, d0, ds0, p0, q0, hargs, rfl, rfl, h0, r0⟩ := trodAll_cons hA
  obtain ⟨v1, vs1, d1, ds1, p1, q1, rfl, rfl, rfl, h1, r1⟩ := trodAll_cons r0
  obtain ⟨v2, vs2, d2, ds2, p2, q2, rfl, rfl, rfl, h2, r2⟩ := trodAll_cons r1
  obtain ⟨v3, vs3, d3, ds3, p3, q3, rfl, rfl, rfl, h3, r3⟩ := trodAll_cons r2
  obtain ⟨rfl, rfl, rfl⟩ := trodAll_nil r3
  obtain rfl : args = #[v0, v1, v2, v3] := by cases args; simp_all
  obtain ⟨rfl, rfl⟩ := trodVars_none hV
  obtain ⟨a0, rfl, rfl, rfl, w0⟩ := open_int Try.underlying21 (hval 0 21 v0 rfl rfl) h0
  obtain ⟨a1, rfl, rfl, rfl, w1⟩ := open_int Try.underlying21 (hval 1 21 v1 rfl rfl) h1
  obtain ⟨a2, rfl, rfl, rfl, w2⟩ := open_int Try.underlying21 (hval 2 21 v2 rfl rfl) h2
  obtain ⟨a3, rfl, rfl, rfl, w3⟩ := open_int Try.underlying21 (hval 3 21 v3 rfl rfl) h3
  clear hA0 hval0
  simp only [List.append_nil] at hW'
  refine (walk a0 a1 a2 a3 w0 w1 w2 w3 W).mono fun e W' ⟨he, hg⟩ => ?_
  subst he
  exact ⟨_, rfl, post_of_same (pa := []) (pv := []) hW' (fun _ _ _ => (trodAll_cons_mk (shut_bool Try.underlying4 _) trodAll_mk0)) (fun sp _ => (trodAll_cons_mk (shut_int Try.underlying21 w0) (trodAll_cons_mk (shut_int Try.underlying21 w1) (trodAll_cons_mk (shut_int Try.underlying21 w2) (trodAll_cons_mk (shut_int Try.underlying21 w3) trodAll_mk0))))) (fun _ _ => rfl) rfl
    (hg.frame _) hg.2.1 (ok_one (by kernel_rfl) rfl (okWide_bool_mk Try.underlying4 _))⟩

theorem over : Rows.fixBetweenRow.holds Try.pinned (OpenSpec.ofChange Rows.fixBetweenSpec) :=
  OpenClaim.holds_of_wide 7 Try.f7 rfl rfl rfl rfl rfl rfl rfl ⟨rfl, rfl, rfl, rfl, rfl⟩ rfl rfl rfl rfl rfl (by kernel_rfl) Try.func7 (by kernel_rfl)
    (of_decide_eq_true (by kernel_rfl)) (by unfold Func.isWrapper; first | (rw [if_pos (by decide +kernel)]; kernel_rfl) | (rw [if_neg (by decide +kernel)]; exact ⟨rfl, rfl⟩))
    (fun os started H enc _ => lifted os started H enc)


end Go.Proofs.Ytjngnelpkjjecaa.fixBetween
namespace Go.Proofs.Ytjngnelpkjjecaa
/-- THE STATEMENT -/
theorem fixBetween_holds : Rows.FixBetweenSaid := fixBetween.over
#print axioms fixBetween_holds
end Go.Proofs.Ytjngnelpkjjecaa
