/-
  Whatever three numbers of eight bits are handed in, the law FrameRound returns true: of two numbers that are not the same, nor half the round apart, just one is newer. No condition.
-/
import Derived.Test.YtfenajekaijlpaaFrmNew
import Derived.Test.YtfenajekaijlpaaOpenZ
import Derived.ProofKit
namespace Go.Proofs.Ytfenajekaijlpaa.frameRound
open Go.ChangeShapes Go.WideShapes Go.ChangeAt Go.RowKit
set_option linter.unusedVariables false

theorem own : ownKnob Try.prog.godebug = none := by kernel_rfl
theorem laidOut : laidOutB Try.prog = true := by kernel_rfl


set_option maxHeartbeats 1000000 in
set_option maxRecDepth 100000 in
theorem walk (a : Int) (b : Int) (c : Int) (w : World) (h_a : (Lit.int .u8 a).wf = true) (h_b : (Lit.int .u8 b).wf = true) (h_c : (Lit.int .u8 c).wf = true) :
    Calls Try.prog 5 #[.int .u8 a, .int .u8 b, .int .u8 c] w fun e w' => e = .returned (.bool true) ∧ Below w.heap.size w w' := by
  obtain ⟨a0, a1⟩ := u8_of h_a
  obtain ⟨b0, b1⟩ := u8_of h_b
  clear h_a h_b h_c
  have n1 : newB 3 250 = true := by decide
  have n2 : newB 5 5 = false := by decide
  have hw : IntKind.u8.wrap (a - b) = (a - b) % 256 := by rw [IntKind.wrap_u8]
  have N1 : Hid (∀ W, Calls Try.prog 13 #[.int .u8 3, .int .u8 250] W fun e w' => e = .returned (.bool true) ∧ w' = W) := fun W => by rw [← n1]; exact newer_any _ _ W
  have N2 : Hid (∀ W, Calls Try.prog 13 #[.int .u8 5, .int .u8 5] W fun e w' => e = .returned (.bool false) ∧ w' = W) := fun W => by rw [← n2]; exact newer_any _ _ W
  have N3 : Hid (∀ W, Calls Try.prog 13 #[.int .u8 a, .int .u8 b] W fun e w' => e = .returned (.bool (newB a b)) ∧ w' = W) := fun W => newer_any _ _ W
  have N4 : Hid (∀ W, Calls Try.prog 13 #[.int .u8 b, .int .u8 a] W fun e w' => e = .returned (.bool (newB b a)) ∧ w' = W) := fun W => newer_any _ _ W
  have N5 : Hid (∀ W, Calls Try.prog 13 #[.int .u8 (IntKind.u8.wrap (a + c)), .int .u8 (IntKind.u8.wrap (b + c))] W fun e w' => e = .returned (.bool (newB a b)) ∧ w' = W) := fun W => by
    have e : newB a b = newB (IntKind.u8.wrap (a + c)) (IntKind.u8.wrap (b + c)) := by
      unfold newB
      rw [IntKind.wrap_u8, IntKind.wrap_u8, show ((a + c) % 256 - (b + c) % 256) % 256 = (a - b) % 256 by omega]
    rw [e]
    exact newer_any _ _ W
  have X1 : Hid (a ≠ b → (a - b) % 256 ≠ 128 → newB b a = !newB a b) := fun h1 h2 => by
    unfold newB
    rw [← decide_not, decide_eq_decide]
    omega
  have X2 : Hid (newB a b = true → (a - b) % 256 ≤ 127) := fun h => by
    unfold newB at h
    exact (of_decide_eq_true h).2
  generalize newB a b = p at N3 N5 X1 X2
  generalize newB b a = q at N4 X1
  have E1 : Hid (a = b → (a - b) % 256 = 0) := fun h => by subst h; simp
  generalize hd : (a - b) % 256 = d at hw X1 X2 E1
  clear hd n1 n2
  have HW : Hid (IntKind.u8.wrap (a - b) = d) := hw
  have D0 : Hid (a ≠ b → (a != b) = true) := fun h => by simpa using h
  go_enter Try.func5, Try.ntmps5
  go_wp2_with fail
  refine (N1.out _).mono ?_
  rintro r w1 ⟨rfl, rfl⟩
  go_wp2_with fail
  refine (N2.out _).mono ?_
  rintro r w1 ⟨rfl, rfl⟩
  by_cases g1 : d = 128
  · have g3 : p = false := by
      cases p
      · rfl
      · have := X2.out rfl; omega
    subst g3
    subst g1
    go_wp2_with fail
    refine (N3.out _).mono ?_
    rintro r w1 ⟨rfl, rfl⟩
    go_wp2_with fail
    refine (N5.out _).mono ?_
    rintro r w1 ⟨rfl, rfl⟩
    go_wp2_with fail
    refine (N3.out _).mono ?_
    rintro r w1 ⟨rfl, rfl⟩
    go_wp2_with fail
    go_ret
    exact ⟨rfl, Below.refl _ _⟩
  have g1' : (d != 128) = true := by simpa using g1
  by_cases g2 : a = b
  · have g4 : d = 0 := E1.out g2
    have g5 : (a != b) = false := by simpa using g2
    have g3 : d ≤ 127 := by omega
    clear g2 hw
    have hw : IntKind.u8.wrap (a - b) = d := HW.out
    cases p
    · go_wp2_with fail
      refine (N3.out _).mono ?_
      rintro r w1 ⟨rfl, rfl⟩
      go_wp2_with fail
      refine (N5.out _).mono ?_
      rintro r w1 ⟨rfl, rfl⟩
      go_wp2_with fail
      refine (N3.out _).mono ?_
      rintro r w1 ⟨rfl, rfl⟩
      go_wp2_with fail
      go_ret
      exact ⟨rfl, Below.refl _ _⟩
    · go_wp2_with fail
      refine (N3.out _).mono ?_
      rintro r w1 ⟨rfl, rfl⟩
      go_wp2_with fail
      refine (N5.out _).mono ?_
      rintro r w1 ⟨rfl, rfl⟩
      go_wp2_with fail
      refine (N3.out _).mono ?_
      rintro r w1 ⟨rfl, rfl⟩
      go_wp2_with fail
      go_ret
      exact ⟨rfl, Below.refl _ _⟩
  have g5 := D0.out g2
  have g6 := X1.out g2 g1
  subst g6
  cases p
  · go_wp2_with fail
    refine (N3.out _).mono ?_
    rintro r w1 ⟨rfl, rfl⟩
    go_wp2_with fail
    refine (N4.out _).mono ?_
    rintro r w1 ⟨rfl, rfl⟩
    go_wp2_with fail
    refine (N3.out _).mono ?_
    rintro r w1 ⟨rfl, rfl⟩
    go_wp2_with fail
    refine (N5.out _).mono ?_
    rintro r w1 ⟨rfl, rfl⟩
    go_wp2_with fail
    refine (N3.out _).mono ?_
    rintro r w1 ⟨rfl, rfl⟩
    go_wp2_with fail
    go_ret
    exact ⟨rfl, Below.refl _ _⟩
  · have g7 := X2.out rfl
    have g8 : decide (127 < d) = false := decide_eq_false (by omega)
    go_wp2_with fail
    refine (N3.out _).mono ?_
    rintro r w1 ⟨rfl, rfl⟩
    go_wp2_with fail
    refine (N4.out _).mono ?_
    rintro r w1 ⟨rfl, rfl⟩
    go_wp2_with fail
    refine (N3.out _).mono ?_
    rintro r w1 ⟨rfl, rfl⟩
    go_wp2_with fail
    refine (N5.out _).mono ?_
    rintro r w1 ⟨rfl, rfl⟩
    go_wp2_with fail
    refine (N3.out _).mono ?_
    rintro r w1 ⟨rfl, rfl⟩
    go_wp2_with fail
    go_ret
    exact ⟨rfl, Below.refl _ _⟩

/-! ### THE ROW's STEP -/
set_option maxRecDepth 100000 in
theorem lifted (os : Os) (started : os.Started) (H : Type) (enc : TypeId × Value → H) :
    ReturnsInHanded {} Try.checked os 5 .any (Rows.frameRoundSpec.pre6 enc Try.prog Try.f5 Rows.frameRoundRow.domain false) (Rows.frameRoundSpec.post enc Try.prog Try.f5 false true false false) := by
  refine returnsInHanded_of_change_sized (C := Try.checked) own started (by kernel_rfl) Try.func5
    (ChangeSpec.witness6 (enc := enc) (C := Try.checked) false ⟨#[], #[.int .u8 0, .int .u8 0, .int .u8 0], []⟩ 8 (by kernel_rfl) (by kernel_rfl) (by kernel_rfl) (by kernel_rfl)) ?_
  intro W base args ds gs before hval0 hW hcnd hsz0 _
  have hval : ∀ (j : Nat) t v, Try.f5.params[j]? = some t → args[j]? = some v → Value.okWide Try.prog W .any base t v := hval0
  have hW' := hW
  obtain ⟨p, q, hA0, hV, rfl, hfz, hnd⟩ := hW
  have hA : DataW.TrodAll enc Try.prog W 0 (fun _ => true) true Try.f5.params.toList args.toList ds p := hA0
  rw [Try.params5] at hA hval
  obtain ⟨v0, vs0, d0, ds0, p0, q0, hargs, rfl, rfl, h0, r0⟩ := trodAll_cons hA
  obtain ⟨v1, vs1, d1, ds1, p1, q1, rfl, rfl, rfl, h1, r1⟩ := trodAll_cons r0
  obtain ⟨v2, vs2, d2, ds2, p2, q2, rfl, rfl, rfl, h2, r2⟩ := trodAll_cons r1
  obtain ⟨rfl, rfl, rfl⟩ := trodAll_nil r2
  obtain rfl : args = #[v0, v1, v2] := by cases args; simp_all
  obtain ⟨rfl, rfl⟩ := trodVars_none hV
  have hz0 : Light Try.prog 5 d0 := light_of hsz0 (j := 0) (by first | rfl | (rw [Try.params5]; rfl)) rfl
  have k0 := h0
  have lt0 : ∀ x ∈ p0, x.block < W.heap.size := by obtain ⟨m, hm⟩ := k0; exact DataW.trod_lt m _ _ _ hm
  obtain ⟨a, rfl, rfl, rfl, h_a⟩ := open_int Try.underlying5 (hval 0 5 v0 rfl rfl) h0
  have hz1 : Light Try.prog 5 d1 := light_of hsz0 (j := 1) (by first | rfl | (rw [Try.params5]; rfl)) rfl
  have k1 := h1
  have lt1 : ∀ x ∈ p1, x.block < W.heap.size := by obtain ⟨m, hm⟩ := k1; exact DataW.trod_lt m _ _ _ hm
  obtain ⟨b, rfl, rfl, rfl, h_b⟩ := open_int Try.underlying5 (hval 1 5 v1 rfl rfl) h1
  have hz2 : Light Try.prog 5 d2 := light_of hsz0 (j := 2) (by first | rfl | (rw [Try.params5]; rfl)) rfl
  have k2 := h2
  have lt2 : ∀ x ∈ p2, x.block < W.heap.size := by obtain ⟨m, hm⟩ := k2; exact DataW.trod_lt m _ _ _ hm
  obtain ⟨c, rfl, rfl, rfl, h_c⟩ := open_int Try.underlying5 (hval 2 5 v2 rfl rfl) h2
  clear hA0 hval0
  refine (walk a b c W h_a h_b h_c).mono fun e W' ⟨he, bel⟩ => ?_
  subst he
  exact ⟨_, rfl, _, _, _, [], _, [], hW', trodAll_mk1 (shut_bool Try.underlying4 _), (trodAll_cons_mk (Below.trod laidOut (by kernel_rfl) (of_decide_eq_true (by kernel_rfl)) k0 bel lt0) (trodAll_cons_mk (Below.trod laidOut (by kernel_rfl) (of_decide_eq_true (by kernel_rfl)) k1 bel lt1) (trodAll_cons_mk (Below.trod laidOut (by kernel_rfl) (of_decide_eq_true (by kernel_rfl)) k2 bel lt2) trodAll_mk0))), rfl, bel.frame _, fun h => by cases h⟩

theorem over : Rows.frameRoundRow.holds Try.pinned (OpenSpec.ofChange Rows.frameRoundSpec) :=
  OpenClaim.holds_of_wide 5 Try.f5 rfl rfl rfl rfl rfl rfl rfl ⟨rfl, rfl, rfl, rfl, rfl⟩ rfl rfl rfl rfl rfl (by kernel_rfl) Try.func5 (by kernel_rfl)
    (of_decide_eq_true (by kernel_rfl)) (by unfold Func.isWrapper; first | (rw [if_pos (by decide +kernel)]; kernel_rfl) | (rw [if_neg (by decide +kernel)]; exact ⟨rfl, rfl⟩))
    (fun os started H enc _ => lifted os started H enc)


end Go.Proofs.Ytfenajekaijlpaa.frameRound
namespace Go.Proofs.Ytfenajekaijlpaa
/-- THE STATEMENT -/
theorem frameRound_holds : Rows.FrameRoundSaid := frameRound.over
#print axioms frameRound_holds
end Go.Proofs.Ytfenajekaijlpaa
