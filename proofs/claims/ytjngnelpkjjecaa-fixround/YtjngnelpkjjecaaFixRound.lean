/-
  Whatever numbers are handed in, the law FixRound returns true: a whole number is as it was; rounding goes no farther than half, and halves go to even ones. No condition.
-/
import Derived.Test.YtjngnelpkjjecaaFix
import Derived.ProofKit
namespace Go.Proofs.Ytjngnelpkjjecaa.fixRound
open Go.ChangeShapes Go.WideShapes Go.ChangeAt Go.RowKit
set_option linter.unusedVariables false

theorem round_near (a k : Int) (h : k = roundI a) : (-32768 < k * 65536 - a ∧ k * 65536 - a < 32768) ∨ ((k * 65536 - a = -32768 ∨ k * 65536 - a = 32768) ∧ k % 2 = 0) := by
  unfold roundI nearI at h
  split at h
  · omega
  · split at h
    · split at h
      · omega
      · omega
    · omega
theorem round_of {n : Int} (h1 : -32768 ≤ n) (h2 : n ≤ 32767) : roundI (s32 (n * 65536)) = n := by
  have e : s32 (n * 65536) = n * 65536 := bnd_mid (by omega) (by omega)
  rw [e]
  unfold roundI nearI
  rw [if_neg (by omega), if_neg (by omega)]
  omega
theorem tmod2 {k : Int} (h : k % 2 = 0) : k.tmod 2 = 0 := by
  rcases Int.lt_or_le k 0 with g | g
  · rw [tmod_neg2 g]
    omega
  · rw [Int.tmod_eq_emod_of_nonneg g]
    exact h

set_option maxHeartbeats 1000000 in
theorem walk (a0 : Int) (a1 : Int) (w0 : (Lit.int .i32 a0).wf = true) (w1 : (Lit.int .i64 a1).wf = true) (w : World) :
    Calls Try.prog 8 #[.int .i32 a0, .int .i64 a1] w fun e w' => e = .returned (.bool true) ∧ Grown w w' := by
  obtain ⟨b1, b2⟩ := i32_of w0
  obtain ⟨c1, c2⟩ := i64_of w1
  have k1 : roundI 32768 = 0 := by decide
  have k2 : roundI 98304 = 2 := by decide
  have k3 : s32 (7 * 65536) = 458752 := by decide
  have r := round_near a0 (roundI a0) rfl
  obtain ⟨k, hk⟩ : ∃ k : Int, roundI a0 = k := ⟨_, rfl⟩
  rw [hk] at r
  have bd := bnd_in (a := a1 * 65536) (b := -2147483648) (c := 2147483647) (by decide)
  have d1 : -2147483648 ≤ s32 (a1 * 65536) := bd.1
  have d2 : s32 (a1 * 65536) ≤ 2147483647 := bd.2
  have z : a1 < -32768 ∨ 32767 < a1 ∨ (-32768 ≤ a1 ∧ a1 ≤ 32767 ∧ roundI (s32 (a1 * 65536)) = a1) := by
    rcases Int.lt_or_le a1 (-32768) with g | g
    · exact Or.inl g
    · rcases Int.lt_or_le 32767 a1 with g' | g'
      · exact Or.inr (Or.inl g')
      · exact Or.inr (Or.inr ⟨g, g', round_of g g'⟩)
  have kb : -32769 ≤ k ∧ k ≤ 32769 := by omega
  clear w0 w1 bd
  rcases r with ⟨r1, r2⟩ | ⟨r1 | r1, r2⟩
  · rcases Int.lt_or_le (k * 65536 - a0) 0 with f | f
    all_goals
      rcases z with z | z | ⟨z1, z2, z3⟩
      all_goals
        go_enter Try.func8, Try.ntmps8
        go_wp2_with (first | (go_at_call 16; refine (round_any _ (by omega) (by omega) _).mono ?_; rintro e w' ⟨rfl, rfl⟩) | (go_at_call 18; refine (of_any _ _).mono ?_; rintro e w' ⟨rfl, rfl⟩))
        all_goals (go_ret; exact ⟨rfl, Grown.refl _⟩)
  all_goals
    have t := tmod2 r2
    clear r2
    rcases z with z | z | ⟨z1, z2, z3⟩
    all_goals
      go_enter Try.func8, Try.ntmps8
      go_wp2_with (first | (go_at_call 16; refine (round_any _ (by omega) (by omega) _).mono ?_; rintro e w' ⟨rfl, rfl⟩) | (go_at_call 18; refine (of_any _ _).mono ?_; rintro e w' ⟨rfl, rfl⟩))
      all_goals (go_ret; exact ⟨rfl, Grown.refl _⟩)

theorem own : ownKnob Try.prog.godebug = none := by kernel_rfl

/-! ### THE ROW's STEP: WRITTEN OUT: LEAVE IT -/
set_option maxRecDepth 100000 in
theorem lifted (os : Os) (started : os.Started) (H : Type) (enc : TypeId × Value → H) :
    ReturnsInHanded {} Try.checked os 8 .any (Rows.fixRoundSpec.pre6 enc Try.prog Try.f8 Rows.fixRoundRow.domain false) (Rows.fixRoundSpec.post enc Try.prog Try.f8 false true false false) := by
  refine returnsInHanded_of_change (C := Try.checked) own started (by kernel_rfl) Try.func8
    (ChangeSpec.witness6 (enc := enc) (C := Try.checked) false ⟨#[], #[.int .i32 0, .int .i64 0], []⟩ 8 (by kernel_rfl) (by kernel_rfl) (by kernel_rfl) (by kernel_rfl)) ?_
  intro W base args ds gs before hval0 hW hcnd _
  have hval : ∀ (j : Nat) t v, Try.f8.params[j]? = some t → args[j]? = some v → Value.okWide Try.prog W .any base t v := hval0
  have hW' := hW
  obtain ⟨p, q, hA0, hV, rfl, hfz, hnd⟩ := hW
  have hA : DataW.TrodAll enc Try.prog W 0 (fun _ => true) true Try.f8.params.toList args.toList ds p := hA0
  rw [Try.params8] at hA hval
  obtain ⟨v0, vs0, d0, ds0, p0, q0, hargs, rfl, rfl, h0, r0⟩ := trodAll_cons hA
  obtain ⟨v1, vs1, d1, ds1, p1, q1, rfl, rfl, rfl, h1, r1⟩ := trodAll_cons r0
  obtain ⟨rfl, rfl, rfl⟩ := trodAll_nil r1
  obtain rfl : args = #[v0, v1] := by cases args; simp_all
  obtain ⟨rfl, rfl⟩ := trodVars_none hV
  obtain ⟨a0, rfl, rfl, rfl, w0⟩ := open_int Try.underlying21 (hval 0 21 v0 rfl rfl) h0
  obtain ⟨a1, rfl, rfl, rfl, w1⟩ := open_int Try.underlying3 (hval 1 3 v1 rfl rfl) h1
  clear hA0 hval0
  simp only [List.append_nil] at hW'
  refine (walk a0 a1 w0 w1 W).mono fun e W' ⟨he, hg⟩ => ?_
  subst he
  exact ⟨_, rfl, post_of_same (pa := []) (pv := []) hW' (fun _ _ _ => (trodAll_cons_mk (shut_bool Try.underlying4 _) trodAll_mk0)) (fun sp _ => (trodAll_cons_mk (shut_int Try.underlying21 w0) (trodAll_cons_mk (shut_int Try.underlying3 w1) trodAll_mk0))) (fun _ _ => rfl) rfl
    (hg.frame _) hg.2.1 (ok_one (by kernel_rfl) rfl (okWide_bool_mk Try.underlying4 _))⟩

theorem over : Rows.fixRoundRow.holds Try.pinned (OpenSpec.ofChange Rows.fixRoundSpec) :=
  OpenClaim.holds_of_wide 8 Try.f8 rfl rfl rfl rfl rfl rfl rfl ⟨rfl, rfl, rfl, rfl, rfl⟩ rfl rfl rfl rfl rfl (by kernel_rfl) Try.func8 (by kernel_rfl)
    (of_decide_eq_true (by kernel_rfl)) (by unfold Func.isWrapper; first | (rw [if_pos (by decide +kernel)]; kernel_rfl) | (rw [if_neg (by decide +kernel)]; exact ⟨rfl, rfl⟩))
    (fun os started H enc _ => lifted os started H enc)


end Go.Proofs.Ytjngnelpkjjecaa.fixRound
namespace Go.Proofs.Ytjngnelpkjjecaa
/-- THE STATEMENT -/
theorem fixRound_holds : Rows.FixRoundSaid := fixRound.over
#print axioms fixRound_holds
end Go.Proofs.Ytjngnelpkjjecaa
