/-
  Whatever two numbers of 32 bits are handed in, the law FixBack returns true: a quotient times its divisor is no farther from 0 than what was divided, and nearer to it than the divisor is great. No condition.
-/
import Derived.Test.YtjngnelpkjjecaaFix
import Derived.ProofKit
namespace Go.Proofs.Ytjngnelpkjjecaa.fixBack
open Go.ChangeShapes Go.WideShapes Go.ChangeAt Go.RowKit
set_option linter.unusedVariables false

theorem in_of_s32 {n : Int} (h1 : s32 n ≠ 2147483647) (h2 : s32 n ≠ -2147483648) : s32 n = n := by
  unfold s32 bnd at *
  split at h1
  · simp_all
  · split at h1
    · simp_all
    · rw [if_neg (by assumption), if_neg (by assumption)]
theorem tdiv_neg_lt {n b : Int} (h : n < 0) (hb : b ≠ 0) : -(absI b) < n - n.tdiv b * b ∧ n - n.tdiv b * b ≤ 0 := by
  have e := Int.mul_tdiv_add_tmod n b
  have l := Int.emod_lt (-n) hb
  rw [tmod_neg2 h] at e
  have m := Int.emod_nonneg (-n) hb
  rw [Int.mul_comm] at e
  unfold absI
  split <;> omega
theorem tdiv_pos_lt {n b : Int} (h : 0 ≤ n) (hb : b ≠ 0) : 0 ≤ n - n.tdiv b * b ∧ n - n.tdiv b * b < absI b := by
  have e := Int.mul_tdiv_add_tmod n b
  have l := Int.emod_lt n hb
  rw [Int.tmod_eq_emod_of_nonneg h] at e
  have m := Int.emod_nonneg n hb
  rw [Int.mul_comm] at e
  unfold absI
  split <;> omega

set_option maxHeartbeats 1000000 in
theorem walk_in (a b q x : Int) (a1 : -2147483648 ≤ a) (a2 : a ≤ 2147483647) (b1 : -2147483648 ≤ b) (b2 : b ≤ 2147483647) (q1 : -2147483648 ≤ q) (q2 : q ≤ 2147483647) (hb : b ≠ 0) (hq : divI a b = q) (n1 : q ≠ 2147483647) (n2 : q ≠ -2147483648)
    (hx : q * b = x) (x1 : -4611686018427387904 ≤ x) (x2 : x ≤ 4611686018427387904)
    (s : (a < 0 ∧ -(absI b) < a * 65536 - x ∧ a * 65536 - x ≤ 0) ∨ (0 ≤ a ∧ 0 ≤ a * 65536 - x ∧ a * 65536 - x < absI b)) (z : a = 0 → x = 0) (w : World) :
    Calls Try.prog 5 #[.int .i32 a, .int .i32 b] w fun e w' => e = .returned (.bool true) ∧ Grown w w' := by
  have k1 : divI 196608 131072 = 98304 := by decide
  have k2 : divI 1 0 = 2147483647 := by decide
  have k3 : divI a 65536 = a := by unfold divI; rw [if_neg (by decide), Int.mul_tdiv_cancel _ (by decide)]; exact bnd_mid a1 a2
  have t0 : (b == 0) = false := beq_eq_false_iff_ne.2 hb
  have t1 : (q == 2147483647) = false := beq_eq_false_iff_ne.2 n1
  have t2 : (q == -2147483648) = false := beq_eq_false_iff_ne.2 n2
  unfold absI at s
  clear hb n1 n2
  obtain ⟨o, ho⟩ : ∃ o : Int, a * 65536 - x = o := ⟨_, rfl⟩
  rw [ho] at s
  rcases Int.lt_or_le b 0 with g | g
  · rw [if_pos g] at s
    rcases Int.lt_or_le o 0 with f | f
    · have f1 : (o == 0) = false := beq_eq_false_iff_ne.2 (by omega)
      clear z
      go_enter Try.func5, Try.ntmps5
      go_wp2_with (go_at_call 14; refine (div_any _ _ (by omega) (by omega) (by omega) (by omega) _).mono ?_; rintro e w' ⟨rfl, rfl⟩)
      all_goals (go_ret; exact ⟨rfl, Grown.refl _⟩)
    · rcases Int.lt_or_le 0 o with f' | f'
      · have f1 : (o == 0) = false := beq_eq_false_iff_ne.2 (by omega)
        have f2 : 0 < a := by omega
        clear z
        go_enter Try.func5, Try.ntmps5
        go_wp2_with (go_at_call 14; refine (div_any _ _ (by omega) (by omega) (by omega) (by omega) _).mono ?_; rintro e w' ⟨rfl, rfl⟩)
        all_goals (go_ret; exact ⟨rfl, Grown.refl _⟩)
      · have f1 : o = 0 := by omega
        subst f1
        clear s z
        go_enter Try.func5, Try.ntmps5
        go_wp2_with (go_at_call 14; refine (div_any _ _ (by omega) (by omega) (by omega) (by omega) _).mono ?_; rintro e w' ⟨rfl, rfl⟩)
        all_goals (go_ret; exact ⟨rfl, Grown.refl _⟩)
  · rw [if_neg (by omega)] at s
    have g' : 0 < b := by rcases s with s | s <;> omega
    rcases Int.lt_or_le o 0 with f | f
    · have f1 : (o == 0) = false := beq_eq_false_iff_ne.2 (by omega)
      clear z
      go_enter Try.func5, Try.ntmps5
      go_wp2_with (go_at_call 14; refine (div_any _ _ (by omega) (by omega) (by omega) (by omega) _).mono ?_; rintro e w' ⟨rfl, rfl⟩)
      all_goals (go_ret; exact ⟨rfl, Grown.refl _⟩)
    · rcases Int.lt_or_le 0 o with f' | f'
      · have f1 : (o == 0) = false := beq_eq_false_iff_ne.2 (by omega)
        have f2 : 0 < a := by omega
        clear z
        go_enter Try.func5, Try.ntmps5
        go_wp2_with (go_at_call 14; refine (div_any _ _ (by omega) (by omega) (by omega) (by omega) _).mono ?_; rintro e w' ⟨rfl, rfl⟩)
        all_goals (go_ret; exact ⟨rfl, Grown.refl _⟩)
      · have f1 : o = 0 := by omega
        subst f1
        clear s z
        go_enter Try.func5, Try.ntmps5
        go_wp2_with (go_at_call 14; refine (div_any _ _ (by omega) (by omega) (by omega) (by omega) _).mono ?_; rintro e w' ⟨rfl, rfl⟩)
        all_goals (go_ret; exact ⟨rfl, Grown.refl _⟩)

set_option maxHeartbeats 1000000 in
theorem walk_out (a b q : Int) (a1 : -2147483648 ≤ a) (a2 : a ≤ 2147483647) (b1 : -2147483648 ≤ b) (b2 : b ≤ 2147483647) (hq : divI a b = q) (h : b = 0 ∨ q = 2147483647 ∨ q = -2147483648) (w : World) :
    Calls Try.prog 5 #[.int .i32 a, .int .i32 b] w fun e w' => e = .returned (.bool true) ∧ Grown w w' := by
  have k1 : divI 196608 131072 = 98304 := by decide
  have k2 : divI 1 0 = 2147483647 := by decide
  by_cases hb : b = 0
  · subst hb
    clear h
    go_enter Try.func5, Try.ntmps5
    go_wp2_with (go_at_call 14; refine (div_any _ _ (by omega) (by omega) (by omega) (by omega) _).mono ?_; rintro e w' ⟨rfl, rfl⟩)
    all_goals (go_ret; exact ⟨rfl, Grown.refl _⟩)
  · have t0 : (b == 0) = false := beq_eq_false_iff_ne.2 hb
    rcases h with h | h | h
    · exact absurd h hb
    · subst h
      clear hb
      go_enter Try.func5, Try.ntmps5
      go_wp2_with (go_at_call 14; refine (div_any _ _ (by omega) (by omega) (by omega) (by omega) _).mono ?_; rintro e w' ⟨rfl, rfl⟩)
      all_goals (go_ret; exact ⟨rfl, Grown.refl _⟩)
    · subst h
      clear hb
      go_enter Try.func5, Try.ntmps5
      go_wp2_with (go_at_call 14; refine (div_any _ _ (by omega) (by omega) (by omega) (by omega) _).mono ?_; rintro e w' ⟨rfl, rfl⟩)
      all_goals (go_ret; exact ⟨rfl, Grown.refl _⟩)

theorem walk (a0 : Int) (a1 : Int) (w0 : (Lit.int .i32 a0).wf = true) (w1 : (Lit.int .i32 a1).wf = true) (w : World) :
    Calls Try.prog 5 #[.int .i32 a0, .int .i32 a1] w fun e w' => e = .returned (.bool true) ∧ Grown w w' := by
  obtain ⟨b1, b2⟩ := i32_of w0
  obtain ⟨c1, c2⟩ := i32_of w1
  by_cases h : a1 = 0 ∨ divI a0 a1 = 2147483647 ∨ divI a0 a1 = -2147483648
  · exact walk_out a0 a1 _ b1 b2 c1 c2 rfl h w
  · obtain ⟨h0, h1, h2⟩ : a1 ≠ 0 ∧ divI a0 a1 ≠ 2147483647 ∧ divI a0 a1 ≠ -2147483648 := ⟨fun e => h (Or.inl e), fun e => h (Or.inr (Or.inl e)), fun e => h (Or.inr (Or.inr e))⟩
    have e : divI a0 a1 = (a0 * 65536).tdiv a1 := by
      unfold divI at *
      rw [if_neg h0] at *
      exact in_of_s32 h1 h2
    have r : -2147483648 ≤ divI a0 a1 ∧ divI a0 a1 ≤ 2147483647 := by
      unfold divI
      rw [if_neg h0]
      exact bnd_in (by decide)
    have m := mul_bd (a := divI a0 a1) (b := a1) (A := 2147483648) (B := 2147483648) r.1 (by omega) c1 (by omega)
    refine walk_in a0 a1 (divI a0 a1) (divI a0 a1 * a1) b1 b2 c1 c2 r.1 r.2 h0 rfl h1 h2 rfl (by omega) (by omega) ?_ (by intro z; rw [e, z, Int.zero_mul, Int.zero_tdiv, Int.zero_mul]) w
    rw [e]
    rcases Int.lt_or_le a0 0 with g | g
    · exact Or.inl ⟨g, tdiv_neg_lt (by omega) h0⟩
    · exact Or.inr ⟨g, tdiv_pos_lt (by omega) h0⟩

theorem own : ownKnob Try.prog.godebug = none := by kernel_rfl

/-! ### THE ROW's STEP: WRITTEN OUT: LEAVE IT -/
set_option maxRecDepth 100000 in
theorem lifted (os : Os) (started : os.Started) (H : Type) (enc : TypeId × Value → H) :
    ReturnsInHanded {} Try.checked os 5 .any (Rows.fixBackSpec.pre6 enc Try.prog Try.f5 Rows.fixBackRow.domain false) (Rows.fixBackSpec.post enc Try.prog Try.f5 false true false false) := by
  refine returnsInHanded_of_change (C := Try.checked) own started (by kernel_rfl) Try.func5
    (ChangeSpec.witness6 (enc := enc) (C := Try.checked) false ⟨#[], #[.int .i32 0, .int .i32 0], []⟩ 8 (by kernel_rfl) (by kernel_rfl) (by kernel_rfl) (by kernel_rfl)) ?_
  intro W base args ds gs before hval0 hW hcnd _
  have hval : ∀ (j : Nat) t v, Try.f5.params[j]? = some t → args[j]? = some v → Value.okWide Try.prog W .any base t v := hval0
  have hW' := hW
  obtain ⟨p, q, hA0, hV, rfl, hfz, hnd⟩ := hW
  have hA : DataW.TrodAll enc Try.prog W 0 (fun _ => true) true Try.f5.params.toList args.toList ds p := hA0
  rw [Try.params5] at hA hval
  obtain ⟨v0, vs0, d0, ds0, p0, q0, hargs, rfl, rfl, h0, r0⟩ := trodAll_cons hA
  obtain ⟨v1, vs1, d1, ds1, p1, q1, rfl, rfl, rfl, h1, r1⟩ := trodAll_cons r0
  obtain ⟨rfl, rfl, rfl⟩ := trodAll_nil r1
  obtain rfl : args = #[v0, v1] := by cases args; simp_all
  obtain ⟨rfl, rfl⟩ := trodVars_none hV
  obtain ⟨a0, rfl, rfl, rfl, w0⟩ := open_int Try.underlying21 (hval 0 21 v0 rfl rfl) h0
  obtain ⟨a1, rfl, rfl, rfl, w1⟩ := open_int Try.underlying21 (hval 1 21 v1 rfl rfl) h1
  clear hA0 hval0
  simp only [List.append_nil] at hW'
  refine (walk a0 a1 w0 w1 W).mono fun e W' ⟨he, hg⟩ => ?_
  subst he
  exact ⟨_, rfl, post_of_same (pa := []) (pv := []) hW' (fun _ _ _ => (trodAll_cons_mk (shut_bool Try.underlying4 _) trodAll_mk0)) (fun sp _ => (trodAll_cons_mk (shut_int Try.underlying21 w0) (trodAll_cons_mk (shut_int Try.underlying21 w1) trodAll_mk0))) (fun _ _ => rfl) rfl
    (hg.frame _) hg.2.1 (ok_one (by kernel_rfl) rfl (okWide_bool_mk Try.underlying4 _))⟩

theorem over : Rows.fixBackRow.holds Try.pinned (OpenSpec.ofChange Rows.fixBackSpec) :=
  OpenClaim.holds_of_wide 5 Try.f5 rfl rfl rfl rfl rfl rfl rfl ⟨rfl, rfl, rfl, rfl, rfl⟩ rfl rfl rfl rfl rfl (by kernel_rfl) Try.func5 (by kernel_rfl)
    (of_decide_eq_true (by kernel_rfl)) (by unfold Func.isWrapper; first | (rw [if_pos (by decide +kernel)]; kernel_rfl) | (rw [if_neg (by decide +kernel)]; exact ⟨rfl, rfl⟩))
    (fun os started H enc _ => lifted os started H enc)


end Go.Proofs.Ytjngnelpkjjecaa.fixBack
namespace Go.Proofs.Ytjngnelpkjjecaa
/-- THE STATEMENT -/
theorem fixBack_holds : Rows.FixBackSaid := fixBack.over
#print axioms fixBack_holds
end Go.Proofs.Ytjngnelpkjjecaa
