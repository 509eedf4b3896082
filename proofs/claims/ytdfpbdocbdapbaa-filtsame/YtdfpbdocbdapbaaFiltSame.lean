/-
  Whatever four numbers are handed in, the law FiltSame returns true: two filters that are fed the same never go apart, and never change places. No condition.
-/
import Derived.Test.YtdfpbdocbdapbaaFilt
import Derived.Test.YtdfpbdocbdapbaaKeep
import Derived.Test.YtdfpbdocbdapbaaOpen
import Derived.ProofKit
namespace Go.Proofs.Ytdfpbdocbdapbaa.filtSame
open Go.ChangeShapes Go.WideShapes Go.ChangeAt Go.RowKit
set_option linter.unusedVariables false

theorem own : ownKnob Try.prog.godebug = none := by kernel_rfl
theorem laidOut : laidOutB Try.prog = true := by kernel_rfl


theorem absI_pos {a : Int} (h : 0 ≤ a) : absI a = a := by unfold absI; rw [if_neg (by omega)]
theorem absI_neg {a : Int} (h : a < 0) : absI a = -a := by unfold absI; rw [if_pos h]
theorem first (w : World) : Calls Try.prog 9 #[.int .i32 0, .int .i32 1, .int .i64 9] w fun e w' => e = .returned (.tuple #[.int .i32 1, .int .i64 0]) ∧ w' = w := by
  have := low_any 0 1 9 (by omega) (by omega) (by omega) (by omega) (by omega) w
  rw [show lowI 0 1 9 = 1 from by decide] at this
  exact this

set_option maxHeartbeats 1000000 in
theorem walk_bad (y z x n : Int) (w : World) (h : n < 0 ∨ 30 < n) :
    Calls Try.prog 5 #[.int .i32 y, .int .i32 z, .int .i32 x, .int .i64 n] w fun e w' => e = .returned (.bool true) ∧ Below w.heap.size w w' := by
  rcases Int.lt_trichotomy y z with hl | hl | hl
  · skip
    go_enter Try.func5, Try.ntmps5
    go_wp2_with fail
    refine (first _).mono ?_
    rintro e w' ⟨rfl, rfl⟩
    go_wp2_with fail
    refine (low_bad y x n h _).mono ?_
    rintro e w' ⟨rfl, rfl⟩
    go_wp2_with fail
    refine (low_bad z x n h _).mono ?_
    rintro e w' ⟨rfl, rfl⟩
    go_wp2_with (go_at_call 22; refine (apart_any _ _ (by omega) (by omega) (by omega) (by omega) _).mono ?_; rintro e w' ⟨rfl, rfl⟩)
    go_ret
    exact ⟨rfl, Below.refl _ _⟩
  · subst hl
    go_enter Try.func5, Try.ntmps5
    go_wp2_with fail
    refine (first _).mono ?_
    rintro e w' ⟨rfl, rfl⟩
    go_wp2_with fail
    refine (low_bad y x n h _).mono ?_
    rintro e w' ⟨rfl, rfl⟩
    go_wp2_with fail
    refine (low_bad y x n h _).mono ?_
    rintro e w' ⟨rfl, rfl⟩
    go_wp2_with (go_at_call 22; refine (apart_any _ _ (by omega) (by omega) (by omega) (by omega) _).mono ?_; rintro e w' ⟨rfl, rfl⟩)
    go_ret
    exact ⟨rfl, Below.refl _ _⟩
  · skip
    go_enter Try.func5, Try.ntmps5
    go_wp2_with fail
    refine (first _).mono ?_
    rintro e w' ⟨rfl, rfl⟩
    go_wp2_with fail
    refine (low_bad z x n h _).mono ?_
    rintro e w' ⟨rfl, rfl⟩
    go_wp2_with fail
    refine (low_bad y x n h _).mono ?_
    rintro e w' ⟨rfl, rfl⟩
    go_wp2_with (go_at_call 22; refine (apart_any _ _ (by omega) (by omega) (by omega) (by omega) _).mono ?_; rintro e w' ⟨rfl, rfl⟩)
    go_ret
    exact ⟨rfl, Below.refl _ _⟩

set_option maxHeartbeats 1000000 in
theorem walk_good (y z x : Int) (n : Nat) (w : World) (y1 : -2147483648 ≤ y) (y2 : y ≤ 2147483647) (z1 : -2147483648 ≤ z) (z2 : z ≤ 2147483647) (x1 : -2147483648 ≤ x) (x2 : x ≤ 2147483647) (h : n ≤ 30) :
    Calls Try.prog 5 #[.int .i32 y, .int .i32 z, .int .i32 x, .int .i64 n] w fun e w' => e = .returned (.bool true) ∧ Below w.heap.size w w' := by
  have cy := fun w => low_any y x n y1 y2 x1 x2 h w
  have cz := fun w => low_any z x n z1 z2 x1 x2 h w
  have py := step_in (d := x - y) (pow2_pos n)
  have pz := step_in (d := x - z) (pow2_pos n)
  have sy : ∀ a b : Int, a ≤ b → a + stepI (x - a) (2 ^ n) ≤ b + stepI (x - b) (2 ^ n) ∧ b + stepI (x - b) (2 ^ n) - (a + stepI (x - a) (2 ^ n)) ≤ b - a := fun a b hab => by
    have := step_two (d := x - b) (d' := x - a) (pow2_pos n) (by omega)
    omega
  unfold lowI at cy cz
  rcases Int.lt_trichotomy y z with hl | hl | hl
  · have s := sy y z (by omega)
    generalize hA : y + stepI (x - y) (2 ^ n) = A at s cy
    generalize hB : z + stepI (x - z) (2 ^ n) = B at s cz
    have A1 : -2147483648 ≤ A := by omega
    have A2 : A ≤ 2147483647 := by omega
    have B1 : -2147483648 ≤ B := by omega
    have B2 : B ≤ 2147483647 := by omega
    obtain ⟨s1, s2⟩ := s
    have e1 : absI (A - B) = B - A := by rcases Int.lt_or_le (A - B) 0 with q | q; (exact (absI_neg q).trans (by omega)); (exact (absI_pos q).trans (by omega))
    have e2 : absI (y - z) = z - y := by rcases Int.lt_or_le (y - z) 0 with q | q; (exact (absI_neg q).trans (by omega)); (exact (absI_pos q).trans (by omega))
    clear py pz sy hA hB
    go_enter Try.func5, Try.ntmps5
    go_wp2_with fail
    refine (first _).mono ?_
    rintro e w' ⟨rfl, rfl⟩
    go_wp2_with fail
    refine (cy _).mono ?_
    rintro e w' ⟨rfl, rfl⟩
    go_wp2_with fail
    refine (cz _).mono ?_
    rintro e w' ⟨rfl, rfl⟩
    go_wp2_with (go_at_call 22; refine (apart_any _ _ (by omega) (by omega) (by omega) (by omega) _).mono ?_; rintro e w' ⟨rfl, rfl⟩)
    go_ret
    exact ⟨rfl, Below.refl _ _⟩
  · subst hl
    generalize hA : y + stepI (x - y) (2 ^ n) = A at cy
    have A1 : -2147483648 ≤ A := by omega
    have A2 : A ≤ 2147483647 := by omega
    have e1 : absI (A - A) = 0 := by rw [Int.sub_self]; rfl
    have e2 : absI (y - y) = 0 := by rw [Int.sub_self]; rfl
    have e3 : absI 0 = 0 := rfl
    clear py pz sy hA cz
    go_enter Try.func5, Try.ntmps5
    go_wp2_with fail
    refine (first _).mono ?_
    rintro e w' ⟨rfl, rfl⟩
    go_wp2_with fail
    refine (cy _).mono ?_
    rintro e w' ⟨rfl, rfl⟩
    go_wp2_with fail
    refine (cy _).mono ?_
    rintro e w' ⟨rfl, rfl⟩
    go_wp2_with (go_at_call 22; refine (apart_any _ _ (by omega) (by omega) (by omega) (by omega) _).mono ?_; rintro e w' ⟨rfl, rfl⟩)
    go_ret
    exact ⟨rfl, Below.refl _ _⟩
  · have s := sy z y (by omega)
    generalize hA : z + stepI (x - z) (2 ^ n) = A at s cz
    generalize hB : y + stepI (x - y) (2 ^ n) = B at s cy
    have A1 : -2147483648 ≤ A := by omega
    have A2 : A ≤ 2147483647 := by omega
    have B1 : -2147483648 ≤ B := by omega
    have B2 : B ≤ 2147483647 := by omega
    obtain ⟨s1, s2⟩ := s
    have e1 : absI (A - B) = B - A := by rcases Int.lt_or_le (A - B) 0 with q | q; (exact (absI_neg q).trans (by omega)); (exact (absI_pos q).trans (by omega))
    have e2 : absI (y - z) = y - z := by rcases Int.lt_or_le (y - z) 0 with q | q; (exact (absI_neg q).trans (by omega)); (exact (absI_pos q).trans (by omega))
    clear py pz sy hA hB
    go_enter Try.func5, Try.ntmps5
    go_wp2_with fail
    refine (first _).mono ?_
    rintro e w' ⟨rfl, rfl⟩
    go_wp2_with fail
    refine (cz _).mono ?_
    rintro e w' ⟨rfl, rfl⟩
    go_wp2_with fail
    refine (cy _).mono ?_
    rintro e w' ⟨rfl, rfl⟩
    go_wp2_with (go_at_call 22; refine (apart_any _ _ (by omega) (by omega) (by omega) (by omega) _).mono ?_; rintro e w' ⟨rfl, rfl⟩)
    go_ret
    exact ⟨rfl, Below.refl _ _⟩

theorem walk (y : Int) (z : Int) (x : Int) (n : Int) (w : World) (h_y : (Lit.int .i32 y).wf = true) (h_z : (Lit.int .i32 z).wf = true) (h_x : (Lit.int .i32 x).wf = true) (h_n : (Lit.int .i64 n).wf = true) :
    Calls Try.prog 5 #[.int .i32 y, .int .i32 z, .int .i32 x, .int .i64 n] w fun e w' => e = .returned (.bool true) ∧ Below w.heap.size w w' := by
  obtain ⟨y1, y2⟩ := i32_of h_y
  obtain ⟨z1, z2⟩ := i32_of h_z
  obtain ⟨x1, x2⟩ := i32_of h_x
  by_cases h : n < 0 ∨ 30 < n
  · exact walk_bad y z x n w h
  · obtain ⟨k, rfl⟩ := Int.eq_ofNat_of_zero_le (show 0 ≤ n by omega)
    exact walk_good y z x k w y1 y2 z1 z2 x1 x2 (by omega)

/-! ### THE ROW's STEP -/
set_option maxRecDepth 100000 in
theorem lifted (os : Os) (started : os.Started) (H : Type) (enc : TypeId × Value → H) :
    ReturnsInHanded {} Try.checked os 5 .any (Rows.filtSameSpec.pre6 enc Try.prog Try.f5 Rows.filtSameRow.domain false) (Rows.filtSameSpec.post enc Try.prog Try.f5 false true false false) := by
  refine returnsInHanded_of_change (C := Try.checked) own started (by kernel_rfl) Try.func5
    (ChangeSpec.witness6 (enc := enc) (C := Try.checked) false ⟨#[], #[.int .i32 0, .int .i32 0, .int .i32 0, .int .i64 0], []⟩ 8 (by kernel_rfl) (by kernel_rfl) (by kernel_rfl) (by kernel_rfl)) ?_
  intro W base args ds gs before hval0 hW hcnd _
  have hval : ∀ (j : Nat) t v, Try.f5.params[j]? = some t → args[j]? = some v → Value.okWide Try.prog W .any base t v := hval0
  have hW' := hW
  obtain ⟨p, q, hA0, hV, rfl, hfz, hnd⟩ := hW
  have hA : DataW.TrodAll enc Try.prog W 0 (fun _ => true) true Try.f5.params.toList args.toList ds p := hA0
  rw [Try.params5] at hA hval
  obtain ⟨v0, vs0, d0, ds0, p0, q0, hargs, rfl, rfl, h0, r0⟩ := trodAll_cons hA
  obtain ⟨v1, vs1, d1, ds1, p1, q1, rfl, rfl, rfl, h1, r1⟩ := trodAll_cons r0
  obtain ⟨v2, vs2, d2, ds2, p2, q2, rfl, rfl, rfl, h2, r2⟩ := trodAll_cons r1
  obtain ⟨v3, vs3, d3, ds3, p3, q3, rfl, rfl, rfl, h3, r3⟩ := trodAll_cons r2
  obtain ⟨rfl, rfl, rfl⟩ := trodAll_nil r3
  obtain rfl : args = #[v0, v1, v2, v3] := by cases args; simp_all
  obtain ⟨rfl, rfl⟩ := trodVars_none hV
  have k0 := h0
  have lt0 : ∀ x ∈ p0, x.block < W.heap.size := by obtain ⟨m, hm⟩ := k0; exact DataW.trod_lt m _ _ _ hm
  obtain ⟨y, rfl, rfl, rfl, h_y⟩ := open_int Try.underlying21 (hval 0 21 v0 rfl rfl) h0
  have k1 := h1
  have lt1 : ∀ x ∈ p1, x.block < W.heap.size := by obtain ⟨m, hm⟩ := k1; exact DataW.trod_lt m _ _ _ hm
  obtain ⟨z, rfl, rfl, rfl, h_z⟩ := open_int Try.underlying21 (hval 1 21 v1 rfl rfl) h1
  have k2 := h2
  have lt2 : ∀ x ∈ p2, x.block < W.heap.size := by obtain ⟨m, hm⟩ := k2; exact DataW.trod_lt m _ _ _ hm
  obtain ⟨x, rfl, rfl, rfl, h_x⟩ := open_int Try.underlying21 (hval 2 21 v2 rfl rfl) h2
  have k3 := h3
  have lt3 : ∀ x ∈ p3, x.block < W.heap.size := by obtain ⟨m, hm⟩ := k3; exact DataW.trod_lt m _ _ _ hm
  obtain ⟨n, rfl, rfl, rfl, h_n⟩ := open_int Try.underlying3 (hval 3 3 v3 rfl rfl) h3
  clear hA0 hval0
  refine (walk y z x n W h_y h_z h_x h_n).mono fun e W' ⟨he, bel⟩ => ?_
  subst he
  exact ⟨_, rfl, _, _, _, [], _, [], hW', trodAll_mk1 (shut_bool Try.underlying4 _), (trodAll_cons_mk (Below.trod laidOut (by kernel_rfl) (of_decide_eq_true (by kernel_rfl)) k0 bel lt0) (trodAll_cons_mk (Below.trod laidOut (by kernel_rfl) (of_decide_eq_true (by kernel_rfl)) k1 bel lt1) (trodAll_cons_mk (Below.trod laidOut (by kernel_rfl) (of_decide_eq_true (by kernel_rfl)) k2 bel lt2) (trodAll_cons_mk (Below.trod laidOut (by kernel_rfl) (of_decide_eq_true (by kernel_rfl)) k3 bel lt3) trodAll_mk0)))), rfl, bel.frame _, fun h => by cases h⟩

theorem over : Rows.filtSameRow.holds Try.pinned (OpenSpec.ofChange Rows.filtSameSpec) :=
  OpenClaim.holds_of_wide 5 Try.f5 rfl rfl rfl rfl rfl rfl rfl ⟨rfl, rfl, rfl, rfl, rfl⟩ rfl rfl rfl rfl rfl (by kernel_rfl) Try.func5 (by kernel_rfl)
    (of_decide_eq_true (by kernel_rfl)) (by unfold Func.isWrapper; first | (rw [if_pos (by decide +kernel)]; kernel_rfl) | (rw [if_neg (by decide +kernel)]; exact ⟨rfl, rfl⟩))
    (fun os started H enc _ => lifted os started H enc)


end Go.Proofs.Ytdfpbdocbdapbaa.filtSame
namespace Go.Proofs.Ytdfpbdocbdapbaa
/-- THE STATEMENT -/
theorem filtSame_holds : Rows.FiltSameSaid := filtSame.over
#print axioms filtSame_holds
end Go.Proofs.Ytdfpbdocbdapbaa
