/-
  Whatever numbers are handed in, the law SatTwice returns true: upward and down again is nothing if no bit falls off; shifts one after another are one. No condition.
-/
import Derived.Test.YtglibalnacjgnaaRefSat
import Derived.ProofKit
namespace Go.Proofs.Ytglibalnacjgnaa.satTwice
open Go.ChangeShapes Go.WideShapes Go.ChangeAt Go.RowKit
set_option linter.unusedVariables false

theorem up_eq {a p : Int} (h : 0 ≤ p) (h' : p ≤ 31) : shiftI a p = s32 (a * 2 ^ p.toNat) := by
  unfold shiftI
  rw [if_neg (by omega), bnd_mid h h']
theorem div_one (a : Int) : a / 2 ^ (0 : Int).toNat = a := by simp
theorem down_eq {a p : Int} (a1 : -2147483648 ≤ a) (a2 : a ≤ 2147483647) (h : 0 ≤ p) (h' : p ≤ 31) : shiftI a (-p) = a / 2 ^ p.toNat := by
  unfold shiftI
  rcases Int.lt_or_le 0 p with g | g
  · rw [if_pos (by omega), bnd_mid (by omega) (by omega), Int.neg_neg]
  · have e : p = 0 := by omega
    subst e
    rw [if_neg (by decide)]
    simp only [Int.neg_zero]
    rw [bnd_mid (by decide) (by decide), div_one]
    simp only [Int.toNat_zero, Int.pow_zero, Int.mul_one]
    exact bnd_mid a1 a2
theorem s32_in (x : Int) : -2147483648 ≤ s32 x ∧ s32 x ≤ 2147483647 := bnd_in (by decide)
theorem pow_ge1 (k : Nat) : (1 : Int) ≤ 2 ^ k := by have := pow_pos2 k; omega
theorem s32_mul (x : Int) (k : Nat) : s32 (s32 x * 2 ^ k) = s32 (x * 2 ^ k) := by
  have p := pow_ge1 k
  rcases Int.lt_or_le x (-2147483648) with h1 | h1
  · have e : s32 x = -2147483648 := bnd_low h1
    have l := Int.mul_le_mul_of_nonneg_right (show x ≤ -2147483649 by omega) (show (0 : Int) ≤ 2 ^ k by omega)
    rw [e]
    have e1 : s32 (x * 2 ^ k) = -2147483648 := bnd_low (by omega)
    rw [e1]
    rcases Int.lt_or_le (-2147483648 * 2 ^ k) (-2147483648) with g | g
    · exact bnd_low g
    · have : (-2147483648 : Int) * 2 ^ k = -2147483648 := by omega
      rw [this]
      decide
  · rcases Int.lt_or_le 2147483647 x with h2 | h2
    · have e : s32 x = 2147483647 := bnd_high h1 h2
      have l := Int.mul_le_mul_of_nonneg_right (show 2147483648 ≤ x by omega) (show (0 : Int) ≤ 2 ^ k by omega)
      rw [e]
      have e1 : s32 (x * 2 ^ k) = 2147483647 := bnd_high (by omega) (by omega)
      rw [e1]
      rcases Int.lt_or_le 2147483647 (2147483647 * 2 ^ k) with g | g
      · exact bnd_high (by omega) g
      · have : (2147483647 : Int) * 2 ^ k = 2147483647 := by omega
        rw [this]
        decide
    · have e : s32 x = x := bnd_mid h1 h2
      rw [e]

theorem up_up {a p q : Int} (p1 : 0 ≤ p) (p2 : p ≤ 15) (q1 : 0 ≤ q) (q2 : q ≤ 15) : shiftI (shiftI a p) q = shiftI a (p + q) := by
  rw [up_eq p1 (by omega), up_eq q1 (by omega), up_eq (by omega) (by omega), s32_mul, Int.mul_assoc, ← Int.pow_add, Int.toNat_add p1 q1]
theorem down_down {a p q : Int} (a1 : -2147483648 ≤ a) (a2 : a ≤ 2147483647) (p1 : 0 ≤ p) (p2 : p ≤ 15) (q1 : 0 ≤ q) (q2 : q ≤ 15) : shiftI (shiftI a (-p)) (-q) = shiftI a (-p - q) := by
  have b := div_pow_bd p.toNat a1 a2
  have e : -p - q = -(p + q) := by omega
  rw [e, down_eq a1 a2 p1 (by omega), down_eq b.1 b.2 q1 (by omega), down_eq a1 a2 (by omega) (by omega), Int.ediv_ediv_of_nonneg (Int.le_of_lt (pow_pos2 _)), ← Int.pow_add, Int.toNat_add p1 q1]
theorem up_down {a p : Int} (p1 : 0 ≤ p) (p2 : p ≤ 15) (h1 : shiftI a p ≠ 2147483647) (h2 : shiftI a p ≠ -2147483648) : shiftI (shiftI a p) (-p) = a := by
  have b := s32_in (a * 2 ^ p.toNat)
  rw [up_eq p1 (by omega)] at *
  rw [down_eq b.1 b.2 p1 (by omega)]
  have e : s32 (a * 2 ^ p.toNat) = a * 2 ^ p.toNat := by
    rcases Int.lt_or_le (a * 2 ^ p.toNat) (-2147483648) with g | g
    · exact absurd (bnd_low g) h2
    · rcases Int.lt_or_le 2147483647 (a * 2 ^ p.toNat) with g' | g'
      · exact absurd (bnd_high g g') h1
      · exact bnd_mid g g'
  rw [e, Int.mul_ediv_cancel _ (by have := pow_pos2 p.toNat; omega)]
theorem shift_in {a n : Int} (a1 : -2147483648 ≤ a) (a2 : a ≤ 2147483647) : -2147483648 ≤ shiftI a n ∧ shiftI a n ≤ 2147483647 := by
  unfold shiftI
  split
  · exact div_pow_bd _ a1 a2
  · exact s32_in _

set_option maxHeartbeats 1000000 in
theorem walk (a0 : Int) (a1 : Int) (a2 : Int) (w0 : (Lit.int .i32 a0).wf = true) (w1 : (Lit.int .i64 a1).wf = true) (w2 : (Lit.int .i64 a2).wf = true) (w : World) :
    Calls Try.prog 7 #[.int .i32 a0, .int .i64 a1, .int .i64 a2] w fun e w' => e = .returned (.bool true) ∧ Grown w w' := by
  obtain ⟨b1, b2⟩ := i32_of w0
  obtain ⟨p, hp, p1, p2⟩ : ∃ p : Int, a1 % 16 = p ∧ 0 ≤ p ∧ p ≤ 15 := ⟨_, rfl, by omega, by omega⟩
  obtain ⟨q, hq, q1, q2⟩ : ∃ q : Int, a2 % 16 = q ∧ 0 ≤ q ∧ q ≤ 15 := ⟨_, rfl, by omega, by omega⟩
  have k1 : shiftI 1 40 = 2147483647 := by decide
  have k2 : shiftI (-1) (-40) = -1 := by decide
  have k3 : shiftI 5 0 = 5 := by decide
  have e1 := up_up (a := a0) p1 p2 q1 q2
  have e2 := down_down b1 b2 p1 p2 q1 q2
  have e3 := up_down (a := a0) p1 p2
  obtain ⟨r1, r2⟩ := shift_in (n := p) b1 b2
  obtain ⟨r3, r4⟩ := shift_in (n := -p) b1 b2
  clear w0 w1 w2
  obtain ⟨u, hu⟩ : ∃ u : Int, shiftI a0 p = u := ⟨_, rfl⟩
  obtain ⟨d, hd⟩ : ∃ d : Int, shiftI a0 (-p) = d := ⟨_, rfl⟩
  rw [hu] at e1 e3 r1 r2
  rw [hd] at e2 r3 r4
  by_cases h1 : u = 2147483647
  · clear e3
    subst h1
    go_enter Try.func7, Try.ntmps7
    go_wp2_with (first | (go_at_call 23; refine (rrest_any _ _ (by decide) (by decide) _).mono ?_; rintro e w' ⟨rfl, rfl⟩) | (go_at_call 19; refine (shift_any _ _ (by omega) (by omega) (by omega) (by omega) _).mono ?_; rintro e w' ⟨rfl, rfl⟩))
    all_goals (go_ret; exact ⟨rfl, Grown.refl _⟩)
  · by_cases h2 : u = -2147483648
    · clear e3
      subst h2
      go_enter Try.func7, Try.ntmps7
      go_wp2_with (first | (go_at_call 23; refine (rrest_any _ _ (by decide) (by decide) _).mono ?_; rintro e w' ⟨rfl, rfl⟩) | (go_at_call 19; refine (shift_any _ _ (by omega) (by omega) (by omega) (by omega) _).mono ?_; rintro e w' ⟨rfl, rfl⟩))
      all_goals (go_ret; exact ⟨rfl, Grown.refl _⟩)
    · have e4 := e3 h1 h2
      have t1 : (u == 2147483647) = false := by simpa using h1
      have t2 : (u == -2147483648) = false := by simpa using h2
      clear e3 h1 h2
      go_enter Try.func7, Try.ntmps7
      go_wp2_with (first | (go_at_call 23; refine (rrest_any _ _ (by decide) (by decide) _).mono ?_; rintro e w' ⟨rfl, rfl⟩) | (go_at_call 19; refine (shift_any _ _ (by omega) (by omega) (by omega) (by omega) _).mono ?_; rintro e w' ⟨rfl, rfl⟩))
      all_goals (go_ret; exact ⟨rfl, Grown.refl _⟩)

theorem own : ownKnob Try.prog.godebug = none := by kernel_rfl

/-! ### THE ROW's STEP: WRITTEN OUT: LEAVE IT -/
set_option maxRecDepth 100000 in
theorem lifted (os : Os) (started : os.Started) (H : Type) (enc : TypeId × Value → H) :
    ReturnsInHanded {} Try.checked os 7 .any (Rows.satTwiceSpec.pre6 enc Try.prog Try.f7 Rows.satTwiceRow.domain false) (Rows.satTwiceSpec.post enc Try.prog Try.f7 false true false false) := by
  refine returnsInHanded_of_change (C := Try.checked) own started (by kernel_rfl) Try.func7
    (ChangeSpec.witness6 (enc := enc) (C := Try.checked) false ⟨#[], #[.int .i32 0, .int .i64 0, .int .i64 0], []⟩ 8 (by kernel_rfl) (by kernel_rfl) (by kernel_rfl) (by kernel_rfl)) ?_
  intro W base args ds gs before hval0 hW hcnd _
  have hval : ∀ (j : Nat) t v, Try.f7.params[j]? = some t → args[j]? = some v → Value.okWide Try.prog W .any base t v := hval0
  have hW' := hW
  obtain ⟨p, q, hA0, hV, rfl, hfz, hnd⟩ := hW
  have hA : DataW.TrodAll enc Try.prog W 0 (fun _ => true) true Try.f7.params.toList args.toList ds p := hA0
  rw [Try.params7] at hA hval
  obtain ⟨v0, vs0, d0, ds0, p0, q0, hargs, rfl, rfl, h0, r0⟩ := trodAll_cons hA
  obtain ⟨v1, vs1, d1, ds1, p1, q1, rfl, rfl, rfl, h1, r1⟩ := trodAll_cons r0
  obtain ⟨v2, vs2, d2, ds2, p2, q2, rfl, rfl, rfl, h2, r2⟩ := trodAll_cons r1
  obtain ⟨rfl, rfl, rfl⟩ := trodAll_nil r2
  obtain rfl : args = #[v0, v1, v2] := by cases args; simp_all
  obtain ⟨rfl, rfl⟩ := trodVars_none hV
  obtain ⟨a0, rfl, rfl, rfl, w0⟩ := open_int Try.underlying21 (hval 0 21 v0 rfl rfl) h0
  obtain ⟨a1, rfl, rfl, rfl, w1⟩ := open_int Try.underlying3 (hval 1 3 v1 rfl rfl) h1
  obtain ⟨a2, rfl, rfl, rfl, w2⟩ := open_int Try.underlying3 (hval 2 3 v2 rfl rfl) h2
  clear hA0 hval0
  simp only [List.append_nil] at hW'
  refine (walk a0 a1 a2 w0 w1 w2 W).mono fun e W' ⟨he, hg⟩ => ?_
  subst he
  exact ⟨_, rfl, post_of_same (pa := []) (pv := []) hW' (fun _ _ _ => (trodAll_cons_mk (shut_bool Try.underlying4 _) trodAll_mk0)) (fun sp _ => (trodAll_cons_mk (shut_int Try.underlying21 w0) (trodAll_cons_mk (shut_int Try.underlying3 w1) (trodAll_cons_mk (shut_int Try.underlying3 w2) trodAll_mk0)))) (fun _ _ => rfl) rfl
    (hg.frame _) hg.2.1 (ok_one (by kernel_rfl) rfl (okWide_bool_mk Try.underlying4 _))⟩

theorem over : Rows.satTwiceRow.holds Try.pinned (OpenSpec.ofChange Rows.satTwiceSpec) :=
  OpenClaim.holds_of_wide 7 Try.f7 rfl rfl rfl rfl rfl rfl rfl ⟨rfl, rfl, rfl, rfl, rfl⟩ rfl rfl rfl rfl rfl (by kernel_rfl) Try.func7 (by kernel_rfl)
    (of_decide_eq_true (by kernel_rfl)) (by unfold Func.isWrapper; first | (rw [if_pos (by decide +kernel)]; kernel_rfl) | (rw [if_neg (by decide +kernel)]; exact ⟨rfl, rfl⟩))
    (fun os started H enc _ => lifted os started H enc)


end Go.Proofs.Ytglibalnacjgnaa.satTwice
namespace Go.Proofs.Ytglibalnacjgnaa
/-- THE STATEMENT -/
theorem satTwice_holds : Rows.SatTwiceSaid := satTwice.over
#print axioms satTwice_holds
end Go.Proofs.Ytglibalnacjgnaa
