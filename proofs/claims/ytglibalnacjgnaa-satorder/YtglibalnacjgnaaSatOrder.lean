/-
  Whatever numbers are handed in, the law SatOrder returns true: what is greater stays so, or becomes the same, through To32, To16, Word, Add, Shift and Clamp. No condition.
-/
import Derived.Test.YtglibalnacjgnaaRefSat
import Derived.ProofKit
namespace Go.Proofs.Ytglibalnacjgnaa.satOrder
open Go.ChangeShapes Go.WideShapes Go.ChangeAt Go.RowKit
set_option linter.unusedVariables false

theorem bnd_mono {x y : Int} (low high : Int) (h : x ≤ y) (h' : low ≤ high) : bnd x low high ≤ bnd y low high := by
  unfold bnd
  repeat' split
  all_goals omega
theorem s32_mono {x y : Int} (h : x ≤ y) : s32 x ≤ s32 y := bnd_mono _ _ h (by decide)
theorem clamp_mono {x y : Int} (b c : Int) (h : x ≤ y) : clampI x b c ≤ clampI y b c := by
  unfold clampI
  split
  · exact bnd_mono _ _ h (by omega)
  · exact bnd_mono _ _ h (by omega)
theorem shift_mono {x y : Int} (k : Int) (h : x ≤ y) : shiftI x k ≤ shiftI y k := by
  unfold shiftI
  split
  · exact Int.ediv_le_ediv (pow_pos2 _) h
  · exact s32_mono (Int.mul_le_mul_of_nonneg_right h (Int.le_of_lt (pow_pos2 _)))

set_option maxHeartbeats 1000000 in
theorem walk_lt (n m a b c k : Int) (h : a < b) (a1 : -2147483648 ≤ a) (a2 : a ≤ 2147483647) (b1 : -2147483648 ≤ b) (b2 : b ≤ 2147483647) (c1 : -2147483648 ≤ c) (c2 : c ≤ 2147483647) (n1 : -9223372036854775808 ≤ k) (n2 : k ≤ 9223372036854775807) (w : World) :
    Calls Try.prog 6 #[.int .i64 n, .int .i64 m, .int .i32 a, .int .i32 b, .int .i32 c, .int .i64 k] w fun e w' => e = .returned (.bool true) ∧ Grown w w' := by
  have k1 : s32 5 = 5 := by decide
  have k2 : shiftI 3 1 = 6 := by decide
  have k3 : shiftI (-3) (-1) = -2 := by decide
  have f1 : bnd a (-32768) 32767 ≤ bnd b (-32768) 32767 := bnd_mono _ _ (by omega) (by decide)
  have f2 : bnd a 0 65535 ≤ bnd b 0 65535 := bnd_mono _ _ (by omega) (by decide)
  have f3 : s32 (a + c) ≤ s32 (b + c) := s32_mono (by omega)
  have f4 : shiftI a k ≤ shiftI b k := shift_mono k (by omega)
  have f5 : clampI a c a ≤ clampI b c a := clamp_mono c a (by omega)
  rcases Int.lt_or_le n m with g | g
  · have f6 : s32 n ≤ s32 m := s32_mono (by omega)
    go_enter Try.func6, Try.ntmps6
    go_wp2_with (first | (go_at_call 10; refine (to32_any _ _).mono ?_; rintro e w' ⟨rfl, rfl⟩) | (go_at_call 12; refine (to16_any _ _).mono ?_; rintro e w' ⟨rfl, rfl⟩) | (go_at_call 13; refine (word_any _ _).mono ?_; rintro e w' ⟨rfl, rfl⟩) | (go_at_call 14; refine (add_any _ _ (by omega) (by omega) (by omega) (by omega) _).mono ?_; rintro e w' ⟨rfl, rfl⟩) | (go_at_call 19; refine (shift_any _ _ (by omega) (by omega) (by omega) (by omega) _).mono ?_; rintro e w' ⟨rfl, rfl⟩) | (go_at_call 21; refine (clamp_any _ _ _ _).mono ?_; rintro e w' ⟨rfl, rfl⟩))
    all_goals (go_ret; exact ⟨rfl, Grown.refl _⟩)
  · rcases Int.lt_or_le m n with g' | g'
    · have f6 : s32 m ≤ s32 n := s32_mono (by omega)
      go_enter Try.func6, Try.ntmps6
      go_wp2_with (first | (go_at_call 10; refine (to32_any _ _).mono ?_; rintro e w' ⟨rfl, rfl⟩) | (go_at_call 12; refine (to16_any _ _).mono ?_; rintro e w' ⟨rfl, rfl⟩) | (go_at_call 13; refine (word_any _ _).mono ?_; rintro e w' ⟨rfl, rfl⟩) | (go_at_call 14; refine (add_any _ _ (by omega) (by omega) (by omega) (by omega) _).mono ?_; rintro e w' ⟨rfl, rfl⟩) | (go_at_call 19; refine (shift_any _ _ (by omega) (by omega) (by omega) (by omega) _).mono ?_; rintro e w' ⟨rfl, rfl⟩) | (go_at_call 21; refine (clamp_any _ _ _ _).mono ?_; rintro e w' ⟨rfl, rfl⟩))
      all_goals (go_ret; exact ⟨rfl, Grown.refl _⟩)
    · have e : n = m := by omega
      subst e
      go_enter Try.func6, Try.ntmps6
      go_wp2_with (first | (go_at_call 10; refine (to32_any _ _).mono ?_; rintro e w' ⟨rfl, rfl⟩) | (go_at_call 12; refine (to16_any _ _).mono ?_; rintro e w' ⟨rfl, rfl⟩) | (go_at_call 13; refine (word_any _ _).mono ?_; rintro e w' ⟨rfl, rfl⟩) | (go_at_call 14; refine (add_any _ _ (by omega) (by omega) (by omega) (by omega) _).mono ?_; rintro e w' ⟨rfl, rfl⟩) | (go_at_call 19; refine (shift_any _ _ (by omega) (by omega) (by omega) (by omega) _).mono ?_; rintro e w' ⟨rfl, rfl⟩) | (go_at_call 21; refine (clamp_any _ _ _ _).mono ?_; rintro e w' ⟨rfl, rfl⟩))
      all_goals (go_ret; exact ⟨rfl, Grown.refl _⟩)

set_option maxHeartbeats 1000000 in
theorem walk_gt (n m a b c k : Int) (h : b < a) (a1 : -2147483648 ≤ a) (a2 : a ≤ 2147483647) (b1 : -2147483648 ≤ b) (b2 : b ≤ 2147483647) (c1 : -2147483648 ≤ c) (c2 : c ≤ 2147483647) (n1 : -9223372036854775808 ≤ k) (n2 : k ≤ 9223372036854775807) (w : World) :
    Calls Try.prog 6 #[.int .i64 n, .int .i64 m, .int .i32 a, .int .i32 b, .int .i32 c, .int .i64 k] w fun e w' => e = .returned (.bool true) ∧ Grown w w' := by
  have k1 : s32 5 = 5 := by decide
  have k2 : shiftI 3 1 = 6 := by decide
  have k3 : shiftI (-3) (-1) = -2 := by decide
  have f1 : bnd b (-32768) 32767 ≤ bnd a (-32768) 32767 := bnd_mono _ _ (by omega) (by decide)
  have f2 : bnd b 0 65535 ≤ bnd a 0 65535 := bnd_mono _ _ (by omega) (by decide)
  have f3 : s32 (b + c) ≤ s32 (a + c) := s32_mono (by omega)
  have f4 : shiftI b k ≤ shiftI a k := shift_mono k (by omega)
  have f5 : clampI b c a ≤ clampI a c a := clamp_mono c a (by omega)
  rcases Int.lt_or_le n m with g | g
  · have f6 : s32 n ≤ s32 m := s32_mono (by omega)
    go_enter Try.func6, Try.ntmps6
    go_wp2_with (first | (go_at_call 10; refine (to32_any _ _).mono ?_; rintro e w' ⟨rfl, rfl⟩) | (go_at_call 12; refine (to16_any _ _).mono ?_; rintro e w' ⟨rfl, rfl⟩) | (go_at_call 13; refine (word_any _ _).mono ?_; rintro e w' ⟨rfl, rfl⟩) | (go_at_call 14; refine (add_any _ _ (by omega) (by omega) (by omega) (by omega) _).mono ?_; rintro e w' ⟨rfl, rfl⟩) | (go_at_call 19; refine (shift_any _ _ (by omega) (by omega) (by omega) (by omega) _).mono ?_; rintro e w' ⟨rfl, rfl⟩) | (go_at_call 21; refine (clamp_any _ _ _ _).mono ?_; rintro e w' ⟨rfl, rfl⟩))
    all_goals (go_ret; exact ⟨rfl, Grown.refl _⟩)
  · rcases Int.lt_or_le m n with g' | g'
    · have f6 : s32 m ≤ s32 n := s32_mono (by omega)
      go_enter Try.func6, Try.ntmps6
      go_wp2_with (first | (go_at_call 10; refine (to32_any _ _).mono ?_; rintro e w' ⟨rfl, rfl⟩) | (go_at_call 12; refine (to16_any _ _).mono ?_; rintro e w' ⟨rfl, rfl⟩) | (go_at_call 13; refine (word_any _ _).mono ?_; rintro e w' ⟨rfl, rfl⟩) | (go_at_call 14; refine (add_any _ _ (by omega) (by omega) (by omega) (by omega) _).mono ?_; rintro e w' ⟨rfl, rfl⟩) | (go_at_call 19; refine (shift_any _ _ (by omega) (by omega) (by omega) (by omega) _).mono ?_; rintro e w' ⟨rfl, rfl⟩) | (go_at_call 21; refine (clamp_any _ _ _ _).mono ?_; rintro e w' ⟨rfl, rfl⟩))
      all_goals (go_ret; exact ⟨rfl, Grown.refl _⟩)
    · have e : n = m := by omega
      subst e
      go_enter Try.func6, Try.ntmps6
      go_wp2_with (first | (go_at_call 10; refine (to32_any _ _).mono ?_; rintro e w' ⟨rfl, rfl⟩) | (go_at_call 12; refine (to16_any _ _).mono ?_; rintro e w' ⟨rfl, rfl⟩) | (go_at_call 13; refine (word_any _ _).mono ?_; rintro e w' ⟨rfl, rfl⟩) | (go_at_call 14; refine (add_any _ _ (by omega) (by omega) (by omega) (by omega) _).mono ?_; rintro e w' ⟨rfl, rfl⟩) | (go_at_call 19; refine (shift_any _ _ (by omega) (by omega) (by omega) (by omega) _).mono ?_; rintro e w' ⟨rfl, rfl⟩) | (go_at_call 21; refine (clamp_any _ _ _ _).mono ?_; rintro e w' ⟨rfl, rfl⟩))
      all_goals (go_ret; exact ⟨rfl, Grown.refl _⟩)

set_option maxHeartbeats 1000000 in
theorem walk_eq (n m a c k : Int) (a1 : -2147483648 ≤ a) (a2 : a ≤ 2147483647) (c1 : -2147483648 ≤ c) (c2 : c ≤ 2147483647) (n1 : -9223372036854775808 ≤ k) (n2 : k ≤ 9223372036854775807) (w : World) :
    Calls Try.prog 6 #[.int .i64 n, .int .i64 m, .int .i32 a, .int .i32 a, .int .i32 c, .int .i64 k] w fun e w' => e = .returned (.bool true) ∧ Grown w w' := by
  have k1 : s32 5 = 5 := by decide
  have k2 : shiftI 3 1 = 6 := by decide
  have k3 : shiftI (-3) (-1) = -2 := by decide
  rcases Int.lt_or_le n m with g | g
  · have f6 : s32 n ≤ s32 m := s32_mono (by omega)
    go_enter Try.func6, Try.ntmps6
    go_wp2_with (first | (go_at_call 10; refine (to32_any _ _).mono ?_; rintro e w' ⟨rfl, rfl⟩) | (go_at_call 12; refine (to16_any _ _).mono ?_; rintro e w' ⟨rfl, rfl⟩) | (go_at_call 13; refine (word_any _ _).mono ?_; rintro e w' ⟨rfl, rfl⟩) | (go_at_call 14; refine (add_any _ _ (by omega) (by omega) (by omega) (by omega) _).mono ?_; rintro e w' ⟨rfl, rfl⟩) | (go_at_call 19; refine (shift_any _ _ (by omega) (by omega) (by omega) (by omega) _).mono ?_; rintro e w' ⟨rfl, rfl⟩) | (go_at_call 21; refine (clamp_any _ _ _ _).mono ?_; rintro e w' ⟨rfl, rfl⟩))
    all_goals (go_ret; exact ⟨rfl, Grown.refl _⟩)
  · rcases Int.lt_or_le m n with g' | g'
    · have f6 : s32 m ≤ s32 n := s32_mono (by omega)
      go_enter Try.func6, Try.ntmps6
      go_wp2_with (first | (go_at_call 10; refine (to32_any _ _).mono ?_; rintro e w' ⟨rfl, rfl⟩) | (go_at_call 12; refine (to16_any _ _).mono ?_; rintro e w' ⟨rfl, rfl⟩) | (go_at_call 13; refine (word_any _ _).mono ?_; rintro e w' ⟨rfl, rfl⟩) | (go_at_call 14; refine (add_any _ _ (by omega) (by omega) (by omega) (by omega) _).mono ?_; rintro e w' ⟨rfl, rfl⟩) | (go_at_call 19; refine (shift_any _ _ (by omega) (by omega) (by omega) (by omega) _).mono ?_; rintro e w' ⟨rfl, rfl⟩) | (go_at_call 21; refine (clamp_any _ _ _ _).mono ?_; rintro e w' ⟨rfl, rfl⟩))
      all_goals (go_ret; exact ⟨rfl, Grown.refl _⟩)
    · have e : n = m := by omega
      subst e
      go_enter Try.func6, Try.ntmps6
      go_wp2_with (first | (go_at_call 10; refine (to32_any _ _).mono ?_; rintro e w' ⟨rfl, rfl⟩) | (go_at_call 12; refine (to16_any _ _).mono ?_; rintro e w' ⟨rfl, rfl⟩) | (go_at_call 13; refine (word_any _ _).mono ?_; rintro e w' ⟨rfl, rfl⟩) | (go_at_call 14; refine (add_any _ _ (by omega) (by omega) (by omega) (by omega) _).mono ?_; rintro e w' ⟨rfl, rfl⟩) | (go_at_call 19; refine (shift_any _ _ (by omega) (by omega) (by omega) (by omega) _).mono ?_; rintro e w' ⟨rfl, rfl⟩) | (go_at_call 21; refine (clamp_any _ _ _ _).mono ?_; rintro e w' ⟨rfl, rfl⟩))
      all_goals (go_ret; exact ⟨rfl, Grown.refl _⟩)

theorem walk (a0 : Int) (a1 : Int) (a2 : Int) (a3 : Int) (a4 : Int) (a5 : Int) (w0 : (Lit.int .i64 a0).wf = true) (w1 : (Lit.int .i64 a1).wf = true) (w2 : (Lit.int .i32 a2).wf = true) (w3 : (Lit.int .i32 a3).wf = true) (w4 : (Lit.int .i32 a4).wf = true) (w5 : (Lit.int .i64 a5).wf = true) (w : World) :
    Calls Try.prog 6 #[.int .i64 a0, .int .i64 a1, .int .i32 a2, .int .i32 a3, .int .i32 a4, .int .i64 a5] w fun e w' => e = .returned (.bool true) ∧ Grown w w' := by
  have b2 := i32_of w2
  have b3 := i32_of w3
  have b4 := i32_of w4
  have b5 := i64_of w5
  rcases Int.lt_or_le a2 a3 with h | h
  · exact walk_lt a0 a1 a2 a3 a4 a5 h b2.1 b2.2 b3.1 b3.2 b4.1 b4.2 b5.1 b5.2 w
  · rcases Int.lt_or_le a3 a2 with h' | h'
    · exact walk_gt a0 a1 a2 a3 a4 a5 h' b2.1 b2.2 b3.1 b3.2 b4.1 b4.2 b5.1 b5.2 w
    · have e : a2 = a3 := by omega
      subst e
      exact walk_eq a0 a1 a2 a4 a5 b2.1 b2.2 b4.1 b4.2 b5.1 b5.2 w

theorem own : ownKnob Try.prog.godebug = none := by kernel_rfl

/-! ### THE ROW's STEP: WRITTEN OUT: LEAVE IT -/
set_option maxRecDepth 100000 in
theorem lifted (os : Os) (started : os.Started) (H : Type) (enc : TypeId × Value → H) :
    ReturnsInHanded {} Try.checked os 6 .any (Rows.satOrderSpec.pre6 enc Try.prog Try.f6 Rows.satOrderRow.domain false) (Rows.satOrderSpec.post enc Try.prog Try.f6 false true false false) := by
  refine returnsInHanded_of_change (C := Try.checked) own started (by kernel_rfl) Try.func6
    (ChangeSpec.witness6 (enc := enc) (C := Try.checked) false ⟨#[], #[.int .i64 0, .int .i64 0, .int .i32 0, .int .i32 0, .int .i32 0, .int .i64 0], []⟩ 8 (by kernel_rfl) (by kernel_rfl) (by kernel_rfl) (by kernel_rfl)) ?_
  intro W base args ds gs before hval0 hW hcnd _
  have hval : ∀ (j : Nat) t v, Try.f6.params[j]? = some t → args[j]? = some v → Value.okWide Try.prog W .any base t v := hval0
  have hW' := hW
  obtain ⟨p, q, hA0, hV, rfl, hfz, hnd⟩ := hW
  have hA : DataW.TrodAll enc Try.prog W 0 (fun _ => true) true Try.f6.params.toList args.toList ds p := hA0
  rw [Try.params6] at hA hval
  obtain ⟨v0, vs0, d0, ds0, p0, q0, hargs, rfl, rfl, h0, r0⟩ := trodAll_cons hA
  obtain ⟨v1, vs1, d1, ds1, p1, q1, rfl, rfl, rfl, h1, r1⟩ := trodAll_cons r0
  obtain ⟨v2, vs2, d2, ds2, p2, q2, rfl, rfl, rfl, h2, r2⟩ := trodAll_cons r1
  obtain ⟨v3, vs3, d3, ds3, p3, q3, rfl, rfl, rfl, h3, r3⟩ := trodAll_cons r2
  obtain ⟨v4, vs4, d4, ds4, p4, q4, rfl, rfl, rfl, h4, r4⟩ := trodAll_cons r3
  obtain ⟨v5, vs5, d5, ds5, p5, q5, rfl, rfl, rfl, h5, r5⟩ := trodAll_cons r4
  obtain ⟨rfl, rfl, rfl⟩ := trodAll_nil r5
  obtain rfl : args = #[v0, v1, v2, v3, v4, v5] := by cases args; simp_all
  obtain ⟨rfl, rfl⟩ := trodVars_none hV
  obtain ⟨a0, rfl, rfl, rfl, w0⟩ := open_int Try.underlying2 (hval 0 2 v0 rfl rfl) h0
  obtain ⟨a1, rfl, rfl, rfl, w1⟩ := open_int Try.underlying2 (hval 1 2 v1 rfl rfl) h1
  obtain ⟨a2, rfl, rfl, rfl, w2⟩ := open_int Try.underlying21 (hval 2 21 v2 rfl rfl) h2
  obtain ⟨a3, rfl, rfl, rfl, w3⟩ := open_int Try.underlying21 (hval 3 21 v3 rfl rfl) h3
  obtain ⟨a4, rfl, rfl, rfl, w4⟩ := open_int Try.underlying21 (hval 4 21 v4 rfl rfl) h4
  obtain ⟨a5, rfl, rfl, rfl, w5⟩ := open_int Try.underlying3 (hval 5 3 v5 rfl rfl) h5
  clear hA0 hval0
  simp only [List.append_nil] at hW'
  refine (walk a0 a1 a2 a3 a4 a5 w0 w1 w2 w3 w4 w5 W).mono fun e W' ⟨he, hg⟩ => ?_
  subst he
  exact ⟨_, rfl, post_of_same (pa := []) (pv := []) hW' (fun _ _ _ => (trodAll_cons_mk (shut_bool Try.underlying4 _) trodAll_mk0)) (fun sp _ => (trodAll_cons_mk (shut_int Try.underlying2 w0) (trodAll_cons_mk (shut_int Try.underlying2 w1) (trodAll_cons_mk (shut_int Try.underlying21 w2) (trodAll_cons_mk (shut_int Try.underlying21 w3) (trodAll_cons_mk (shut_int Try.underlying21 w4) (trodAll_cons_mk (shut_int Try.underlying3 w5) trodAll_mk0))))))) (fun _ _ => rfl) rfl
    (hg.frame _) hg.2.1 (ok_one (by kernel_rfl) rfl (okWide_bool_mk Try.underlying4 _))⟩

theorem over : Rows.satOrderRow.holds Try.pinned (OpenSpec.ofChange Rows.satOrderSpec) :=
  OpenClaim.holds_of_wide 6 Try.f6 rfl rfl rfl rfl rfl rfl rfl ⟨rfl, rfl, rfl, rfl, rfl⟩ rfl rfl rfl rfl rfl (by kernel_rfl) Try.func6 (by kernel_rfl)
    (of_decide_eq_true (by kernel_rfl)) (by unfold Func.isWrapper; first | (rw [if_pos (by decide +kernel)]; kernel_rfl) | (rw [if_neg (by decide +kernel)]; exact ⟨rfl, rfl⟩))
    (fun os started H enc _ => lifted os started H enc)


end Go.Proofs.Ytglibalnacjgnaa.satOrder
namespace Go.Proofs.Ytglibalnacjgnaa
/-- THE STATEMENT -/
theorem satOrder_holds : Rows.SatOrderSaid := satOrder.over
#print axioms satOrder_holds
end Go.Proofs.Ytglibalnacjgnaa
