/-
  The middle one of what lane k takes: agree.Mid; what is told where there is no such lane.
-/
import Derived.Test.YtokfdapocnmafaaAgrView
import Derived.Test.YtokfdapocnmafaaVotMid
import Derived.Deep.RegionHeld3
namespace Go.Proofs.Ytokfdapocnmafaa
open Go.RowKit
set_option linter.unusedVariables false

theorem IsMid.as {l l' : Nat → Int} {n : Nat} {m : Int} (h : IsMid l n m) (e : ∀ i, i < n → l i = l' i) : IsMid l' n m := by
  have h1 := h.1
  have h2 := h.2
  rw [cnt_congr n e] at h1 h2
  exact ⟨h1, h2⟩
theorem pick4 (l : Nat → Int) : pick l (fun _ => true) 4 = [l 0, l 1, l 2, l 3] := by simp [pick]
theorem midS4 {l : Nat → Int} {m : Int} (h : IsMid l 4 m) : MidS l 4 (fun _ => true) 4 m 0 := by
  refine Or.inr (Or.inr (Or.inr ⟨by omega, rfl, by rw [pick4]; simp, rfl, ?_⟩))
  have e : ∀ j, j < 4 → l j = kept l (fun _ => true) 4 j := fun j hj => by
    unfold kept
    rw [pick4]
    obtain rfl | rfl | rfl | rfl := four hj <;> rfl
  rw [pick4]
  exact h.as e

set_option maxHeartbeats 1000000 in
theorem view_bad (T : Nat → Int) (k : Int) (hk : k < 0 ∨ 4 ≤ k) (w : World) : Calls Try.prog 6 #[.agg (tk T), .int .i64 k] w fun e w' => e = .returned (.tuple #[.agg #[.int .i32 0, .int .i32 0, .int .i32 0, .int .i32 0], .int .i64 1]) ∧ Below w.heap.size w w' := by
  go_enter Try.func6, Try.ntmps6
  go_wp2_with fail
  refine (isLane_no k hk _).mono ?_
  rintro e w1 ⟨rfl, rfl⟩
  go_wp2_with fail
  go_returns
  exact ⟨rfl, by go_grown⟩

set_option maxHeartbeats 1000000 in
theorem amid_bad (T : Nat → Int) (k : Int) (hk : k < 0 ∨ 4 ≤ k) (w : World) : Calls Try.prog 7 #[.agg (tk T), .int .i64 k] w fun e w' => e = .returned (.tuple #[.int .i32 0, .int .i64 1]) ∧ Below w.heap.size w w' := by
  have H0 := tb_new w T 26
  go_enter Try.func7, Try.ntmps7
  go_wp2_with (refine wpList_load_talk rfl _ rfl _ rfl T (by exact H0) ?_)
  refine (view_bad T k hk _).mono ?_
  rintro e w1 ⟨rfl, hb⟩
  have B1 : Hid (Below w.heap.size w w1) := ((Below.refl _ w).alloc (Nat.le_refl _) _).trans (hb.mono (by simp))
  clear hb H0
  go_wp2_with fail
  go_ret2
  exact ⟨rfl, B1.out.alloc B1.out.size _⟩

set_option maxHeartbeats 1000000 in
theorem amid_any (T : Nat → Int) (k : Nat) (hk : k < 4) (m : Int) (hm : IsMid (vw T k) 4 m) (w : World) : Calls Try.prog 7 #[.agg (tk T), .int .i64 k] w fun e w' => e = .returned (.tuple #[.int .i32 m, .int .i64 0]) ∧ Below w.heap.size w w' := by
  have H0 : Hid (TB (w.alloc (.cells (tk T) 26)) w.heap.size T) := tb_new w T 26
  have HM : Hid (MidS (vw T k) 4 (fun _ => true) 4 m 0) := midS4 hm
  clear hm
  go_enter Try.func7, Try.ntmps7
  go_wp2_with (refine wpList_load_talk rfl _ rfl _ rfl T (by exact H0.out) ?_)
  refine (view_any T k hk _).mono ?_
  rintro e w1 ⟨rfl, hb⟩
  have B1 : Hid (Below w.heap.size w w1) := ((Below.refl _ w).alloc (Nat.le_refl _) _).trans (hb.mono (by simp))
  clear hb H0
  generalize hf : vw T k = f at *
  clear hf
  go_wp2_with fail
  obtain ⟨W, hW⟩ : ∃ W, W = ((w1.alloc (Obj.cells #[.int .i32 (f 0), .int .i32 (f 1), .int .i32 (f 2), .int .i32 (f 3)] 22)).alloc (Obj.cells #[.bool true, .bool true, .bool true, .bool true] 32)) := ⟨_, rfl⟩
  rw [← hW]
  have HB : Hid (Below w.heap.size w W) := by rw [hW]; exact (B1.out.alloc B1.out.size _).alloc (by have := B1.out.size; simp; omega) _
  have HR : Hid (R32 W (some ⟨w1.heap.size, 0, none⟩) 4 f) := fun _ => ⟨w1.heap.size, 0, rfl, by rw [hW]; simp; omega, fun j hj => by
    rw [Nat.zero_add, hW]
    obtain rfl | rfl | rfl | rfl := four hj <;> go_simp⟩
  have HO : Hid (RBo W (some ⟨w1.heap.size + 1, 0, none⟩) 4 (fun _ => true)) := fun _ => ⟨w1.heap.size + 1, 0, rfl, by rw [hW]; simp, fun j hj => by
    rw [Nat.zero_add, hW]
    obtain rfl | rfl | rfl | rfl := four hj <;> go_simp⟩
  clear hW
  go_region_held3 (fun _ => True) (trivial) (first | (go_at_call 15; refine (mid_any _ _ 4 4 4 4 f (fun _ => true) m 0 _ (HR.out.step (Below.refl _ _).drew) (HO.out.step (Below.refl _ _).drew) HM.out).mono ?_; rintro e w2 ⟨rfl, hb2⟩; have HB2 : Hid (Below w.heap.size w w2) := HB.out.drew.trans (hb2.mono HB.out.size); clear hb2))
  go_wp2_with fail
  go_ret2
  exact ⟨rfl, HB2.out⟩

end Go.Proofs.Ytokfdapocnmafaa
