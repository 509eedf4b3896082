/-
  Whatever three numbers are handed in, the law FiltNears returns true: a filter comes nearer with each step, never past, and is there in the end. No condition.
-/
import Derived.Test.YtdfpbdocbdapbaaFilt
import Derived.Test.YtdfpbdocbdapbaaKeep
import Derived.Test.YtdfpbdocbdapbaaOpen
import Derived.ProofKit
namespace Go.Proofs.Ytdfpbdocbdapbaa.filtNears
open Go.ChangeShapes Go.WideShapes Go.ChangeAt Go.RowKit
set_option linter.unusedVariables false

theorem own : ownKnob Try.prog.godebug = none := by kernel_rfl
theorem laidOut : laidOutB Try.prog = true := by kernel_rfl


theorem absI_pos {a : Int} (h : 0 ≤ a) : absI a = a := by unfold absI; rw [if_neg (by omega)]
theorem absI_neg {a : Int} (h : a < 0) : absI a = -a := by unfold absI; rw [if_pos h]

set_option maxHeartbeats 1000000 in
theorem walk_bad (y x n : Int) (w : World) (h : n < 0 ∨ 30 < n) :
    Calls Try.prog 4 #[.int .i32 y, .int .i32 x, .int .i64 n] w fun e w' => e = .returned (.bool true) ∧ Below w.heap.size w w' := by
  have e0 : lowI 0 8 1 = 4 := by decide
  have c0 : ∀ w, Calls Try.prog 9 #[.int .i32 0, .int .i32 8, .int .i64 1] w fun e w' => e = .returned (.tuple #[.int .i32 4, .int .i64 0]) ∧ w' = w := fun w => by
    have := low_any 0 8 1 (by omega) (by omega) (by omega) (by omega) (by omega) w
    rw [e0] at this
    exact this
  go_enter Try.func4, Try.ntmps4
  go_wp2_with fail
  refine (c0 _).mono ?_
  rintro e w' ⟨rfl, rfl⟩
  go_wp2_with fail
  refine (low_bad y x n h _).mono ?_
  rintro e w' ⟨rfl, rfl⟩
  go_wp2_with fail
  go_ret
  exact ⟨rfl, Below.refl _ _⟩

set_option maxHeartbeats 1000000 in
theorem walk_good (y x : Int) (n : Nat) (w : World) (y1 : -2147483648 ≤ y) (y2 : y ≤ 2147483647) (x1 : -2147483648 ≤ x) (x2 : x ≤ 2147483647) (h : n ≤ 30) :
    Calls Try.prog 4 #[.int .i32 y, .int .i32 x, .int .i64 n] w fun e w' => e = .returned (.bool true) ∧ Below w.heap.size w w' := by
  have e0 : lowI 0 8 1 = 4 := by decide
  have c0 : ∀ w, Calls Try.prog 9 #[.int .i32 0, .int .i32 8, .int .i64 1] w fun e w' => e = .returned (.tuple #[.int .i32 4, .int .i64 0]) ∧ w' = w := fun w => by
    have := low_any 0 8 1 (by omega) (by omega) (by omega) (by omega) (by omega) w
    rw [e0] at this
    exact this
  have p := step_in (d := x - y) (pow2_pos n)
  have c := fun w => low_any y x n y1 y2 x1 x2 h w
  unfold lowI at c
  generalize hz : y + stepI (x - y) (2 ^ n) = z at c
  rcases Int.lt_trichotomy y x with hl | hl | hl
  · have z1 : y < z := by omega
    have z3 : y ≤ z := by omega
    have z2 : z ≤ x := by omega
    have a1 : absI (z - x) = x - z := by rcases Int.lt_or_le (z - x) 0 with q | q; (rw [absI_neg q]; omega); (rw [absI_pos q]; omega)
    have a2 : absI (y - x) = x - y := by rw [absI_neg (by omega)]; omega
    clear p hz
    go_enter Try.func4, Try.ntmps4
    go_wp2_with fail
    refine (c0 _).mono ?_
    rintro e w' ⟨rfl, rfl⟩
    go_wp2_with fail
    refine (c _).mono ?_
    rintro e w' ⟨rfl, rfl⟩
    go_wp2_with (go_at_call 22; refine (apart_any _ _ (by omega) (by omega) (by omega) (by omega) _).mono ?_; rintro e w' ⟨rfl, rfl⟩)
    all_goals (go_ret; exact ⟨rfl, Below.refl _ _⟩)
  · subst hl
    have z1 : z = y := by omega
    clear p hz
    subst z1
    go_enter Try.func4, Try.ntmps4
    go_wp2_with fail
    refine (c0 _).mono ?_
    rintro e w' ⟨rfl, rfl⟩
    go_wp2_with fail
    refine (c _).mono ?_
    rintro e w' ⟨rfl, rfl⟩
    go_wp2_with fail
    go_ret
    exact ⟨rfl, Below.refl _ _⟩
  · have z1 : z < y := by omega
    have z3 : z ≤ y := by omega
    have z2 : x ≤ z := by omega
    have a1 : absI (z - x) = z - x := absI_pos (by omega)
    have a2 : absI (y - x) = y - x := absI_pos (by omega)
    clear p hz
    go_enter Try.func4, Try.ntmps4
    go_wp2_with fail
    refine (c0 _).mono ?_
    rintro e w' ⟨rfl, rfl⟩
    go_wp2_with fail
    refine (c _).mono ?_
    rintro e w' ⟨rfl, rfl⟩
    go_wp2_with (go_at_call 22; refine (apart_any _ _ (by omega) (by omega) (by omega) (by omega) _).mono ?_; rintro e w' ⟨rfl, rfl⟩)
    all_goals (go_ret; exact ⟨rfl, Below.refl _ _⟩)

theorem walk (y : Int) (x : Int) (n : Int) (w : World) (h_y : (Lit.int .i32 y).wf = true) (h_x : (Lit.int .i32 x).wf = true) (h_n : (Lit.int .i64 n).wf = true) :
    Calls Try.prog 4 #[.int .i32 y, .int .i32 x, .int .i64 n] w fun e w' => e = .returned (.bool true) ∧ Below w.heap.size w w' := by
  obtain ⟨y1, y2⟩ := i32_of h_y
  obtain ⟨x1, x2⟩ := i32_of h_x
  by_cases h : n < 0 ∨ 30 < n
  · exact walk_bad y x n w h
  · obtain ⟨k, rfl⟩ := Int.eq_ofNat_of_zero_le (show 0 ≤ n by omega)
    exact walk_good y x k w y1 y2 x1 x2 (by omega)

/-! ### THE ROW's STEP -/
set_option maxRecDepth 100000 in
theorem lifted (os : Os) (started : os.Started) (H : Type) (enc : TypeId × Value → H) :
    ReturnsInHanded {} Try.checked os 4 .any (Rows.filtNearsSpec.pre6 enc Try.prog Try.f4 Rows.filtNearsRow.domain false) (Rows.filtNearsSpec.post enc Try.prog Try.f4 false true false false) := by
  refine returnsInHanded_of_change (C := Try.checked) own started (by kernel_rfl) Try.func4
    (ChangeSpec.witness6 (enc := enc) (C := Try.checked) false ⟨#[], #[.int .i32 0, .int .i32 0, .int .i64 0], []⟩ 8 (by kernel_rfl) (by kernel_rfl) (by kernel_rfl) (by kernel_rfl)) ?_
  intro W base args ds gs before hval0 hW hcnd _
  have hval : ∀ (j : Nat) t v, Try.f4.params[j]? = some t → args[j]? = some v → Value.okWide Try.prog W .any base t v := hval0
  have hW' := hW
  obtain ⟨p, q, hA0, hV, rfl, hfz, hnd⟩ := hW
  have hA : DataW.TrodAll enc Try.prog W 0 (fun _ => true) true Try.f4.params.toList args.toList ds p := hA0
  rw [Try.params4] at hA hval
  obtain ⟨v0, vs0, d0, ds0, p0, q0, hargs, rfl, rfl, h0, r0⟩ := trodAll_cons hA
  obtain ⟨v1, vs1, d1, ds1, p1, q1, rfl, rfl, rfl, h1, r1⟩ := trodAll_cons r0
  obtain ⟨v2, vs2, d2, ds2, p2, q2, rfl, rfl, rfl, h2, r2⟩ := trodAll_cons r1
  obtain ⟨rfl, rfl, rfl⟩ := trodAll_nil r2
  obtain rfl : args = #[v0, v1, v2] := by cases args; simp_all
  obtain ⟨rfl, rfl⟩ := trodVars_none hV
  have k0 := h0
  have lt0 : ∀ x ∈ p0, x.block < W.heap.size := by obtain ⟨m, hm⟩ := k0; exact DataW.trod_lt m _ _ _ hm
  obtain ⟨y, rfl, rfl, rfl, h_y⟩ := open_int Try.underlying21 (hval 0 21 v0 rfl rfl) h0
  have k1 := h1
  have lt1 : ∀ x ∈ p1, x.block < W.heap.size := by obtain ⟨m, hm⟩ := k1; exact DataW.trod_lt m _ _ _ hm
  obtain ⟨x, rfl, rfl, rfl, h_x⟩ := open_int Try.underlying21 (hval 1 21 v1 rfl rfl) h1
  have k2 := h2
  have lt2 : ∀ x ∈ p2, x.block < W.heap.size := by obtain ⟨m, hm⟩ := k2; exact DataW.trod_lt m _ _ _ hm
  obtain ⟨n, rfl, rfl, rfl, h_n⟩ := open_int Try.underlying3 (hval 2 3 v2 rfl rfl) h2
  clear hA0 hval0
  refine (walk y x n W h_y h_x h_n).mono fun e W' ⟨he, bel⟩ => ?_
  subst he
  exact ⟨_, rfl, _, _, _, [], _, [], hW', trodAll_mk1 (shut_bool Try.underlying4 _), (trodAll_cons_mk (Below.trod laidOut (by kernel_rfl) (of_decide_eq_true (by kernel_rfl)) k0 bel lt0) (trodAll_cons_mk (Below.trod laidOut (by kernel_rfl) (of_decide_eq_true (by kernel_rfl)) k1 bel lt1) (trodAll_cons_mk (Below.trod laidOut (by kernel_rfl) (of_decide_eq_true (by kernel_rfl)) k2 bel lt2) trodAll_mk0))), rfl, bel.frame _, fun h => by cases h⟩

theorem over : Rows.filtNearsRow.holds Try.pinned (OpenSpec.ofChange Rows.filtNearsSpec) :=
  OpenClaim.holds_of_wide 4 Try.f4 rfl rfl rfl rfl rfl rfl rfl ⟨rfl, rfl, rfl, rfl, rfl⟩ rfl rfl rfl rfl rfl (by kernel_rfl) Try.func4 (by kernel_rfl)
    (of_decide_eq_true (by kernel_rfl)) (by unfold Func.isWrapper; first | (rw [if_pos (by decide +kernel)]; kernel_rfl) | (rw [if_neg (by decide +kernel)]; exact ⟨rfl, rfl⟩))
    (fun os started H enc _ => lifted os started H enc)


end Go.Proofs.Ytdfpbdocbdapbaa.filtNears
namespace Go.Proofs.Ytdfpbdocbdapbaa
/-- THE STATEMENT -/
theorem filtNears_holds : Rows.FiltNearsSaid := filtNears.over
#print axioms filtNears_holds
end Go.Proofs.Ytdfpbdocbdapbaa
