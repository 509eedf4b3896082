/-
  The document's LaneNext.
-/
import Derived.Test.YtnomceopmjlbhaaLan
import Derived.Test.YtnomceopmjlbhaaLay
namespace Go.Proofs.Ytnomceopmjlbhaa
open Go.RowKit
set_option linter.unusedVariables false

theorem revents7 {e : Int} (h1 : 1 ≤ e) (h2 : e ≤ 7) : e = 1 ∨ e = 2 ∨ e = 3 ∨ e = 4 ∨ e = 5 ∨ e = 6 ∨ e = 7 := by omega

set_option maxHeartbeats 16000000 in
set_option maxRecDepth 100000 in
theorem rnext_any (m : Int) (b : Bool) (n e : Int) (w : World) (h1 : 1 ≤ e) (h2 : e ≤ 7) :
    Calls Try.prog 16 #[.agg #[.int .i64 m, .bool b, .int .i64 n], .int .i64 e] w fun r w' => r = .returned (.agg #[.int .i64 (nM m b e), .bool (nB b e), .int .i64 (nF m (nM m b e) n)]) ∧ Below w.heap.size w w' := by
  rcases revents7 h1 h2 with rfl | rfl | rfl | rfl | rfl | rfl | rfl <;> clear h1 h2
  · by_cases h : m = 0
    · subst h
      rw [show nF 0 (nM 0 b 1) n = 0 from by unfold nF nM; simp, show nM 0 b 1 = 1 from by unfold nM; simp, show nB b 1 = b from rfl]
      go_enter Try.func16, Try.ntmps16
      go_wp2_with fail
      go_returns
      refine ⟨by simp [*], ?_⟩
      repeat' first | exact Below.refl _ _ | (refine Below.setCell ?_ (by first | (simp; done) | (simp; omega)) _) | (refine Below.alloc ?_ (by first | (simp; done) | (simp; omega)) _)
    · rw [show nF m (nM m b 1) n = n from by unfold nF nM; simp [h], show nM m b 1 = m from by unfold nM; simp [h], show nB b 1 = b from rfl]
      go_enter Try.func16, Try.ntmps16
      go_wp2_with fail
      go_returns
      refine ⟨by simp [*], ?_⟩
      repeat' first | exact Below.refl _ _ | (refine Below.setCell ?_ (by first | (simp; done) | (simp; omega)) _) | (refine Below.alloc ?_ (by first | (simp; done) | (simp; omega)) _)
  · by_cases h : m = 1
    · subst h
      rw [show nF 1 (nM 1 b 2) n = 0 from by unfold nF nM; simp, show nM 1 b 2 = 0 from by unfold nM; simp, show nB b 2 = b from rfl]
      go_enter Try.func16, Try.ntmps16
      go_wp2_with fail
      go_returns
      refine ⟨by simp [*], ?_⟩
      repeat' first | exact Below.refl _ _ | (refine Below.setCell ?_ (by first | (simp; done) | (simp; omega)) _) | (refine Below.alloc ?_ (by first | (simp; done) | (simp; omega)) _)
    · rw [show nF m (nM m b 2) n = n from by unfold nF nM; simp [h], show nM m b 2 = m from by unfold nM; simp [h], show nB b 2 = b from rfl]
      go_enter Try.func16, Try.ntmps16
      go_wp2_with fail
      go_returns
      refine ⟨by simp [*], ?_⟩
      repeat' first | exact Below.refl _ _ | (refine Below.setCell ?_ (by first | (simp; done) | (simp; omega)) _) | (refine Below.alloc ?_ (by first | (simp; done) | (simp; omega)) _)
  · by_cases h : m < 2
    · have k1 : ¬ m = 2 := by omega
      have k2 : ¬ 2 = m := by omega
      rw [show nF m (nM m b 3) n = 0 from by unfold nF nM; simp [h, k2], show nM m b 3 = 2 from by unfold nM; simp [h], show nB b 3 = true from rfl]
      go_enter Try.func16, Try.ntmps16
      go_wp2_with fail
      go_returns
      refine ⟨by simp [*], ?_⟩
      repeat' first | exact Below.refl _ _ | (refine Below.setCell ?_ (by first | (simp; done) | (simp; omega)) _) | (refine Below.alloc ?_ (by first | (simp; done) | (simp; omega)) _)
    · rw [show nF m (nM m b 3) n = n from by unfold nF nM; simp [h], show nM m b 3 = m from by unfold nM; simp [h], show nB b 3 = true from rfl]
      go_enter Try.func16, Try.ntmps16
      go_wp2_with fail
      go_returns
      refine ⟨by simp [*], ?_⟩
      repeat' first | exact Below.refl _ _ | (refine Below.setCell ?_ (by first | (simp; done) | (simp; omega)) _) | (refine Below.alloc ?_ (by first | (simp; done) | (simp; omega)) _)
  · by_cases h : m = 1
    · subst h
      rw [show nF 1 (nM 1 b 4) n = 0 from by unfold nF nM; simp, show nM 1 b 4 = 0 from by unfold nM; simp, show nB b 4 = b from rfl]
      go_enter Try.func16, Try.ntmps16
      go_wp2_with fail
      go_returns
      refine ⟨by simp [*], ?_⟩
      repeat' first | exact Below.refl _ _ | (refine Below.setCell ?_ (by first | (simp; done) | (simp; omega)) _) | (refine Below.alloc ?_ (by first | (simp; done) | (simp; omega)) _)
    · rw [show nF m (nM m b 4) n = n from by unfold nF nM; simp [h], show nM m b 4 = m from by unfold nM; simp [h], show nB b 4 = b from rfl]
      go_enter Try.func16, Try.ntmps16
      go_wp2_with fail
      go_returns
      refine ⟨by simp [*], ?_⟩
      repeat' first | exact Below.refl _ _ | (refine Below.setCell ?_ (by first | (simp; done) | (simp; omega)) _) | (refine Below.alloc ?_ (by first | (simp; done) | (simp; omega)) _)
  · by_cases h : m = 3
    · subst h
      rw [show nF 3 (nM 3 b 5) n = n from by unfold nF nM; simp, show nM 3 b 5 = 3 from by unfold nM; simp, show nB b 5 = b from rfl]
      go_enter Try.func16, Try.ntmps16
      go_wp2_with fail
      go_returns
      refine ⟨by simp [*], ?_⟩
      repeat' first | exact Below.refl _ _ | (refine Below.setCell ?_ (by first | (simp; done) | (simp; omega)) _) | (refine Below.alloc ?_ (by first | (simp; done) | (simp; omega)) _)
    · rw [show nF m (nM m b 5) n = 0 from by unfold nF nM; simp <;> omega, show nM m b 5 = 3 from by unfold nM; simp, show nB b 5 = b from rfl]
      have k : ¬ 3 = m := by omega
      go_enter Try.func16, Try.ntmps16
      go_wp2_with fail
      go_returns
      refine ⟨by simp [*], ?_⟩
      repeat' first | exact Below.refl _ _ | (refine Below.setCell ?_ (by first | (simp; done) | (simp; omega)) _) | (refine Below.alloc ?_ (by first | (simp; done) | (simp; omega)) _)
  · by_cases h : m = 3
    · subst h
      cases b
      · rw [show nF 3 (nM 3 false 6) n = 0 from by unfold nF nM; simp, show nM 3 false 6 = 0 from by unfold nM; simp, show nB false 6 = false from rfl]
        go_enter Try.func16, Try.ntmps16
        go_wp2_with fail
        go_returns
        refine ⟨by simp [*], ?_⟩
        repeat' first | exact Below.refl _ _ | (refine Below.setCell ?_ (by first | (simp; done) | (simp; omega)) _) | (refine Below.alloc ?_ (by first | (simp; done) | (simp; omega)) _)
      · rw [show nF 3 (nM 3 true 6) n = 0 from by unfold nF nM; simp, show nM 3 true 6 = 2 from by unfold nM; simp, show nB true 6 = true from rfl]
        go_enter Try.func16, Try.ntmps16
        go_wp2_with fail
        go_returns
        refine ⟨by simp [*], ?_⟩
        repeat' first | exact Below.refl _ _ | (refine Below.setCell ?_ (by first | (simp; done) | (simp; omega)) _) | (refine Below.alloc ?_ (by first | (simp; done) | (simp; omega)) _)
    · rw [show nF m (nM m b 6) n = n from by unfold nF nM; simp [h], show nM m b 6 = m from by unfold nM; simp [h], show nB b 6 = b from rfl]
      go_enter Try.func16, Try.ntmps16
      go_wp2_with fail
      go_returns
      refine ⟨by simp [*], ?_⟩
      repeat' first | exact Below.refl _ _ | (refine Below.setCell ?_ (by first | (simp; done) | (simp; omega)) _) | (refine Below.alloc ?_ (by first | (simp; done) | (simp; omega)) _)
  · by_cases h : 1 < m
    · have k1 : ¬ m = 0 := by omega
      have k2 : ¬ 0 = m := by omega
      rw [show nF m (nM m b 7) n = 0 from by unfold nF nM; simp [h, k2], show nM m b 7 = 0 from by unfold nM; simp [h], show nB b 7 = false from rfl]
      go_enter Try.func16, Try.ntmps16
      go_wp2_with fail
      go_returns
      refine ⟨by simp [*], ?_⟩
      repeat' first | exact Below.refl _ _ | (refine Below.setCell ?_ (by first | (simp; done) | (simp; omega)) _) | (refine Below.alloc ?_ (by first | (simp; done) | (simp; omega)) _)
    · rw [show nF m (nM m b 7) n = n from by unfold nF nM; simp [h], show nM m b 7 = m from by unfold nM; simp [h], show nB b 7 = false from rfl]
      go_enter Try.func16, Try.ntmps16
      go_wp2_with fail
      go_returns
      refine ⟨by simp [*], ?_⟩
      repeat' first | exact Below.refl _ _ | (refine Below.setCell ?_ (by first | (simp; done) | (simp; omega)) _) | (refine Below.alloc ?_ (by first | (simp; done) | (simp; omega)) _)

end Go.Proofs.Ytnomceopmjlbhaa
