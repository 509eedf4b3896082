/-
  Contracts of the verifier's own CountErr and CountStep.
-/
import Derived.Test.YthfbdnhhmnehaaaCount
namespace Go.Proofs.Ythfbdnhhmnehaaa
open Go.RowKit
set_option linter.unusedVariables false

set_option maxHeartbeats 400000 in
theorem bound_low (a lo hi : Int) (w : World) (h : a < lo) : Calls Try.prog 24 #[.int .i64 a, .int .i64 lo, .int .i64 hi] w fun e w' => e = .returned (.int .i64 lo) ∧ w' = w := by
  go_enter Try.func24, Try.ntmps24
  go_wp2_with fail
  go_ret
  exact ⟨rfl, rfl⟩

set_option maxHeartbeats 400000 in
theorem bound_in (a lo hi : Int) (w : World) (h : lo ≤ a) (h' : a ≤ hi) : Calls Try.prog 24 #[.int .i64 a, .int .i64 lo, .int .i64 hi] w fun e w' => e = .returned (.int .i64 a) ∧ w' = w := by
  have q1 : ¬ a < lo := by omega
  have q2 : ¬ hi < a := by omega
  go_enter Try.func24, Try.ntmps24
  go_wp2_with fail
  go_ret
  exact ⟨rfl, rfl⟩

set_option maxHeartbeats 400000 in
theorem bound_high (a lo hi : Int) (w : World) (h : lo ≤ a) (h' : hi < a) : Calls Try.prog 24 #[.int .i64 a, .int .i64 lo, .int .i64 hi] w fun e w' => e = .returned (.int .i64 hi) ∧ w' = w := by
  have q1 : ¬ a < lo := by omega
  go_enter Try.func24, Try.ntmps24
  go_wp2_with fail
  go_ret
  exact ⟨rfl, rfl⟩

set_option maxHeartbeats 4000000 in
theorem rerr_ok (u d m n : Int) (s : Bool) (w : World) (h : OkC u d m n) : Calls Try.prog 12 #[.agg #[.int .i64 u, .int .i64 d, .int .i64 m], .agg #[.int .i64 n, .bool s]] w fun e w' => e = .returned (.int .i64 0) ∧ Below w.heap.size w w' := by
  obtain ⟨⟨h1, h2⟩, ⟨h3, h4⟩, ⟨h5, h6⟩, h7, h8⟩ := h
  have q1 : ¬ u < 1 := by omega
  have q2 : ¬ 1000 < u := by omega
  have q3 : ¬ d < 0 := by omega
  have q4 : ¬ 1000 < d := by omega
  have q5 : ¬ m < 1 := by omega
  have q6 : ¬ 1000 < m := by omega
  have q7 : ¬ n < 0 := by omega
  have q8 : ¬ m < n := by omega
  clear h1 h2 h3 h4 h5 h6 h7 h8
  go_enter Try.func12, Try.ntmps12
  go_wp2_with fail
  go_rounds 5
  go_ret
  refine ⟨rfl, ?_⟩
  go_grown

set_option maxHeartbeats 8000000 in
theorem rerr_bad (u d m n : Int) (s : Bool) (w : World) (h : ¬ OkC u d m n) : Calls Try.prog 12 #[.agg #[.int .i64 u, .int .i64 d, .int .i64 m], .agg #[.int .i64 n, .bool s]] w fun e w' => e = .returned (.int .i64 1) ∧ Below w.heap.size w w' := by
  rcases Int.lt_or_le u 1 with a0 | a0
  · clear h
    go_enter Try.func12, Try.ntmps12
    go_wp2_with fail
    go_rounds 1
    go_ret
    exact ⟨rfl, by go_grown⟩
  have b0 : ¬ u < 1 := by omega
  rcases Int.lt_or_le 1000 u with c0 | c0
  · clear h
    go_enter Try.func12, Try.ntmps12
    go_wp2_with fail
    go_rounds 1
    go_ret
    exact ⟨rfl, by go_grown⟩
  have d0 : ¬ 1000 < u := by omega
  rcases Int.lt_or_le d 0 with a1 | a1
  · clear h
    go_enter Try.func12, Try.ntmps12
    go_wp2_with fail
    go_rounds 2
    go_ret
    exact ⟨rfl, by go_grown⟩
  have b1 : ¬ d < 0 := by omega
  rcases Int.lt_or_le 1000 d with c1 | c1
  · clear h
    go_enter Try.func12, Try.ntmps12
    go_wp2_with fail
    go_rounds 2
    go_ret
    exact ⟨rfl, by go_grown⟩
  have d1 : ¬ 1000 < d := by omega
  rcases Int.lt_or_le m 1 with a2 | a2
  · clear h
    go_enter Try.func12, Try.ntmps12
    go_wp2_with fail
    go_rounds 3
    go_ret
    exact ⟨rfl, by go_grown⟩
  have b2 : ¬ m < 1 := by omega
  rcases Int.lt_or_le 1000 m with c2 | c2
  · clear h
    go_enter Try.func12, Try.ntmps12
    go_wp2_with fail
    go_rounds 3
    go_ret
    exact ⟨rfl, by go_grown⟩
  have d2 : ¬ 1000 < m := by omega
  rcases Int.lt_or_le n 0 with a3 | a3
  · clear h
    go_enter Try.func12, Try.ntmps12
    go_wp2_with fail
    go_rounds 4
    go_ret
    exact ⟨rfl, by go_grown⟩
  have b3 : ¬ n < 0 := by omega
  rcases Int.lt_or_le m n with c3 | c3
  · clear h
    go_enter Try.func12, Try.ntmps12
    go_wp2_with fail
    go_rounds 4
    go_ret
    exact ⟨rfl, by go_grown⟩
  have d3 : ¬ m < n := by omega
  exact absurd ⟨⟨a0, c0⟩, ⟨a1, c1⟩, ⟨a2, c2⟩, a3, c3⟩ h

set_option maxHeartbeats 4000000 in
theorem rstep_any (u d m n : Int) (s b : Bool) (w : World) (h : OkC u d m n) : Calls Try.prog 19 #[.agg #[.int .i64 u, .int .i64 d, .int .i64 m], .agg #[.int .i64 n, .bool s], .bool b] w fun e w' => e = .returned (.agg #[.int .i64 (nxI u d m n b), .bool (nxB m (nxI u d m n b) s)]) ∧ Below w.heap.size w w' := by
  obtain ⟨⟨h1, h2⟩, ⟨h3, h4⟩, ⟨h5, h6⟩, h7, h8⟩ := h
  unfold nxB
  cases b
  · rcases Int.lt_or_le (n - d) 0 with k | k
    · have q : ((0 : Int) == m) = false := by simp; omega
      rw [nx_low k]
      cases s <;> (go_enter Try.func19, Try.ntmps19; go_wp2_with fail; refine (bound_low (n - d) 0 m _ k).mono ?_; rintro e w1 ⟨rfl, rfl⟩; go_wp2_with fail; go_returns; exact ⟨by simp [*], three_boxes _ _ _ _⟩)
    · by_cases z : n - d = m
      · obtain rfl : d = 0 := by omega
        obtain rfl : n = m := by omega
        have k2 : nxI u 0 n n false = n := by rw [nx_down (by omega)]; omega
        rw [k2]
        cases s <;> (go_enter Try.func19, Try.ntmps19; go_wp2_with fail; refine (bound_in n 0 n _ (by omega) (by omega)).mono ?_; rintro e w1 ⟨rfl, rfl⟩; go_wp2_with fail; go_returns; exact ⟨by simp [*], three_boxes _ _ _ _⟩)
      · have q : (n - d == m) = false := by simp; omega
        rw [nx_down (by omega)]
        cases s <;> (go_enter Try.func19, Try.ntmps19; go_wp2_with fail; refine (bound_in (n - d) 0 m _ (by omega) (by omega)).mono ?_; rintro e w1 ⟨rfl, rfl⟩; go_wp2_with fail; go_returns; exact ⟨by simp [*], three_boxes _ _ _ _⟩)
  · rcases Int.lt_trichotomy (n + u) m with j | j | j
    · have q : (n + u == m) = false := by simp; omega
      rw [nx_up j]
      cases s <;> (go_enter Try.func19, Try.ntmps19; go_wp2_with fail; refine (bound_in (n + u) 0 m _ (by omega) (by omega)).mono ?_; rintro e w1 ⟨rfl, rfl⟩; go_wp2_with fail; go_returns; exact ⟨by simp [*], three_boxes _ _ _ _⟩)
    · subst j
      rw [nx_top (Int.le_refl _)]
      cases s <;> (go_enter Try.func19, Try.ntmps19; go_wp2_with fail; refine (bound_in (n + u) 0 (n + u) _ (by omega) (by omega)).mono ?_; rintro e w1 ⟨rfl, rfl⟩; go_wp2_with fail; go_returns; exact ⟨by simp [*], three_boxes _ _ _ _⟩)
    · rw [nx_top (by omega)]
      cases s <;> (go_enter Try.func19, Try.ntmps19; go_wp2_with fail; refine (bound_high (n + u) 0 m _ (by omega) j).mono ?_; rintro e w1 ⟨rfl, rfl⟩; go_wp2_with fail; go_returns; exact ⟨by simp [*], three_boxes _ _ _ _⟩)

end Go.Proofs.Ythfbdnhhmnehaaa
