/-
  Contracts of package count: Check, next, Step; the verifier's own CountErr, CountStep. Each returns what plain functions of whole numbers give; of the memory that was there nothing turns.
-/
import Derived.Test.YthfbdnhhmnehaaaRows
import Derived.WalkKit
import Derived.WalkSpells
import Derived.WalkLawsBesides
import Derived.Handy
import Derived.Below
import Derived.CellFam
import Derived.Deep.LoopGhost
namespace Go.Proofs.Ythfbdnhhmnehaaa
open Go.RowKit
set_option linter.unusedVariables false

/-- a right count -/
def OkC (u d m n : Int) : Prop := (1 ≤ u ∧ u ≤ 1000) ∧ (0 ≤ d ∧ d ≤ 1000) ∧ (1 ≤ m ∧ m ≤ 1000) ∧ 0 ≤ n ∧ n ≤ m
instance (u d m n : Int) : Decidable (OkC u d m n) := by unfold OkC; infer_instance
/-- where the number is behind one more frame -/
def nxI (u d m n : Int) (b : Bool) : Int := if b then (if n + u < m then n + u else m) else (if n - d < 0 then 0 else n - d)
theorem nx_up {u d m n : Int} (h : n + u < m) : nxI u d m n true = n + u := by unfold nxI; rw [if_pos rfl, if_pos h]
theorem nx_top {u d m n : Int} (h : m ≤ n + u) : nxI u d m n true = m := by unfold nxI; rw [if_pos rfl, if_neg (by omega)]
theorem nx_down {u d m n : Int} (h : 0 ≤ n - d) : nxI u d m n false = n - d := by unfold nxI; rw [if_neg (by decide), if_neg (by omega)]
theorem nx_low {u d m n : Int} (h : n - d < 0) : nxI u d m n false = 0 := by unfold nxI; rw [if_neg (by decide), if_pos h]
theorem OkC.next {u d m n : Int} (h : OkC u d m n) (b : Bool) : OkC u d m (nxI u d m n b) := by
  obtain ⟨h1, h2, h3, h4, h5⟩ := h
  refine ⟨h1, h2, h3, ?_⟩
  unfold nxI
  split <;> split <;> omega
/-- Set behind one more frame -/
def nxB (m n : Int) (s : Bool) : Bool := s || n == m

set_option maxHeartbeats 400000 in
theorem within_in (a lo hi : Int) (w : World) (h1 : lo ≤ a) (h2 : a ≤ hi) : Calls Try.prog 21 #[.int .i64 a, .int .i64 lo, .int .i64 hi] w fun e w' => e = .returned (.bool true) ∧ w' = w := by
  go_enter Try.func21, Try.ntmps21
  go_wp2_with fail
  go_ret
  exact ⟨rfl, rfl⟩

set_option maxHeartbeats 400000 in
theorem within_out (a lo hi : Int) (w : World) (h : a < lo ∨ hi < a) : Calls Try.prog 21 #[.int .i64 a, .int .i64 lo, .int .i64 hi] w fun e w' => e = .returned (.bool false) ∧ w' = w := by
  rcases Int.lt_or_le a lo with h1 | h1
  · have h2 : ¬ lo ≤ a := by omega
    go_enter Try.func21, Try.ntmps21
    go_wp2_with fail
    go_ret
    exact ⟨rfl, rfl⟩
  · have h2 : ¬ a ≤ hi := by omega
    go_enter Try.func21, Try.ntmps21
    go_wp2_with fail
    go_ret
    exact ⟨rfl, rfl⟩

theorem two_boxes (w : World) (x y : Obj) : Below w.heap.size w ((w.alloc x).alloc y) := ((Below.refl _ w).alloc (Nat.le_refl _) _).alloc (by simp) _

set_option maxHeartbeats 1000000 in
theorem check_ok (u d m n : Int) (s : Bool) (w : World) (h : OkC u d m n) : Calls Try.prog 14 #[.agg #[.int .i64 u, .int .i64 d, .int .i64 m], .agg #[.int .i64 n, .bool s]] w fun e w' => e = .returned (.int .i64 0) ∧ Below w.heap.size w w' := by
  obtain ⟨⟨h1, h2⟩, ⟨h3, h4⟩, ⟨h5, h6⟩, h7, h8⟩ := h
  go_enter Try.func14, Try.ntmps14
  go_wp2_with fail
  refine (within_in u 1 1000 _ h1 h2).mono ?_
  rintro e w1 ⟨rfl, rfl⟩
  go_wp2_with fail
  refine (within_in d 0 1000 _ h3 h4).mono ?_
  rintro e w1 ⟨rfl, rfl⟩
  go_wp2_with fail
  refine (within_in m 1 1000 _ h5 h6).mono ?_
  rintro e w1 ⟨rfl, rfl⟩
  go_wp2_with fail
  refine (within_in n 0 m _ h7 h8).mono ?_
  rintro e w1 ⟨rfl, rfl⟩
  go_wp2_with fail
  go_ret
  exact ⟨rfl, two_boxes _ _ _⟩

set_option maxHeartbeats 2000000 in
theorem check_bad (u d m n : Int) (s : Bool) (w : World) (h : ¬ OkC u d m n) : Calls Try.prog 14 #[.agg #[.int .i64 u, .int .i64 d, .int .i64 m], .agg #[.int .i64 n, .bool s]] w fun e w' => e = .returned (.int .i64 1) ∧ Below w.heap.size w w' := by
  by_cases h1 : 1 ≤ u ∧ u ≤ 1000
  · by_cases h2 : 0 ≤ d ∧ d ≤ 1000
    · by_cases h3 : 1 ≤ m ∧ m ≤ 1000
      · have h4 : n < 0 ∨ m < n := by
          rcases Int.lt_or_le n 0 with q | q
          · exact Or.inl q
          · rcases Int.lt_or_le m n with q2 | q2
            · exact Or.inr q2
            · exact absurd ⟨h1, h2, h3, q, q2⟩ h
        have A := within_in u 1 1000 (h1 := h1.1) (h2 := h1.2)
        have B := within_in d 0 1000 (h1 := h2.1) (h2 := h2.2)
        have C := within_in m 1 1000 (h1 := h3.1) (h2 := h3.2)
        have D := within_out n 0 m (h := h4)
        clear h h1 h2 h3 h4
        go_enter Try.func14, Try.ntmps14
        go_wp2_with fail
        refine (A _).mono ?_
        rintro e w1 ⟨rfl, rfl⟩
        go_wp2_with fail
        refine (B _).mono ?_
        rintro e w1 ⟨rfl, rfl⟩
        go_wp2_with fail
        refine (C _).mono ?_
        rintro e w1 ⟨rfl, rfl⟩
        go_wp2_with fail
        refine (D _).mono ?_
        rintro e w1 ⟨rfl, rfl⟩
        go_wp2_with fail
        go_ret
        exact ⟨rfl, two_boxes _ _ _⟩
      · have A := within_in u 1 1000 (h1 := h1.1) (h2 := h1.2)
        have B := within_in d 0 1000 (h1 := h2.1) (h2 := h2.2)
        have C := within_out m 1 1000 (h := by omega)
        clear h h1 h2 h3
        go_enter Try.func14, Try.ntmps14
        go_wp2_with fail
        refine (A _).mono ?_
        rintro e w1 ⟨rfl, rfl⟩
        go_wp2_with fail
        refine (B _).mono ?_
        rintro e w1 ⟨rfl, rfl⟩
        go_wp2_with fail
        refine (C _).mono ?_
        rintro e w1 ⟨rfl, rfl⟩
        go_wp2_with fail
        go_ret
        exact ⟨rfl, two_boxes _ _ _⟩
    · have A := within_in u 1 1000 (h1 := h1.1) (h2 := h1.2)
      have B := within_out d 0 1000 (h := by omega)
      clear h h1 h2
      go_enter Try.func14, Try.ntmps14
      go_wp2_with fail
      refine (A _).mono ?_
      rintro e w1 ⟨rfl, rfl⟩
      go_wp2_with fail
      refine (B _).mono ?_
      rintro e w1 ⟨rfl, rfl⟩
      go_wp2_with fail
      go_ret
      exact ⟨rfl, two_boxes _ _ _⟩
  · have A := within_out u 1 1000 (h := by omega)
    clear h h1
    go_enter Try.func14, Try.ntmps14
    go_wp2_with fail
    refine (A _).mono ?_
    rintro e w1 ⟨rfl, rfl⟩
    go_wp2_with fail
    go_ret
    exact ⟨rfl, two_boxes _ _ _⟩

theorem three_boxes (w : World) (x y z : Obj) : Below w.heap.size w (((w.alloc x).alloc y).alloc z) := (((Below.refl _ w).alloc (Nat.le_refl _) _).alloc (by simp) _).alloc (by simp; omega) _

set_option maxHeartbeats 4000000 in
theorem next_any (u d m n : Int) (s b : Bool) (w : World) (h : OkC u d m n) : Calls Try.prog 20 #[.agg #[.int .i64 u, .int .i64 d, .int .i64 m], .agg #[.int .i64 n, .bool s], .bool b] w fun e w' => e = .returned (.agg #[.int .i64 (nxI u d m n b), .bool (nxB m (nxI u d m n b) s)]) ∧ Below w.heap.size w w' := by
  obtain ⟨⟨h1, h2⟩, ⟨h3, h4⟩, ⟨h5, h6⟩, h7, h8⟩ := h
  unfold nxB
  cases b
  · rcases Int.lt_trichotomy (n - d) 0 with k | k | k
    · have q : ((0 : Int) == m) = false := by simp; omega
      rw [nx_low k]
      cases s <;> (go_enter Try.func20, Try.ntmps20; go_wp2_with fail; go_returns; exact ⟨by simp [*], three_boxes _ _ _ _⟩)
    · have q : ((0 : Int) == m) = false := by simp; omega
      obtain rfl : d = n := by omega
      have k2 : nxI u d m d false = 0 := by rw [nx_down (by omega)]; omega
      rw [k2]
      cases s <;> (go_enter Try.func20, Try.ntmps20; go_wp2_with fail; go_returns; exact ⟨by simp [*], three_boxes _ _ _ _⟩)
    · by_cases z : n - d = m
      · obtain rfl : d = 0 := by omega
        obtain rfl : n = m := by omega
        have k2 : nxI u 0 n n false = n := by rw [nx_down (by omega)]; omega
        rw [k2]
        cases s <;> (go_enter Try.func20, Try.ntmps20; go_wp2_with fail; go_returns; exact ⟨by simp [*], three_boxes _ _ _ _⟩)
      · have q : (n - d == m) = false := by simp; omega
        rw [nx_down (by omega)]
        cases s <;> (go_enter Try.func20, Try.ntmps20; go_wp2_with fail; go_returns; exact ⟨by simp [*], three_boxes _ _ _ _⟩)
  · rcases Int.lt_trichotomy (n - d) 0 with k | k | k
    · rcases Int.lt_trichotomy (n + u) m with j | j | j
      · have q : (n + u == m) = false := by simp; omega
        rw [nx_up j]
        cases s <;> (go_enter Try.func20, Try.ntmps20; go_wp2_with fail; go_returns; exact ⟨by simp [*], three_boxes _ _ _ _⟩)
      · subst j
        rw [nx_top (Int.le_refl _)]
        cases s <;> (go_enter Try.func20, Try.ntmps20; go_wp2_with fail; go_returns; exact ⟨by simp [*], three_boxes _ _ _ _⟩)
      · rw [nx_top (by omega)]
        cases s <;> (go_enter Try.func20, Try.ntmps20; go_wp2_with fail; go_returns; exact ⟨by simp [*], three_boxes _ _ _ _⟩)
    · obtain rfl : d = n := by omega
      rcases Int.lt_trichotomy (d + u) m with j | j | j
      · have q : (d + u == m) = false := by simp; omega
        rw [nx_up j]
        cases s <;> (go_enter Try.func20, Try.ntmps20; go_wp2_with fail; go_returns; exact ⟨by simp [*], three_boxes _ _ _ _⟩)
      · subst j
        rw [nx_top (Int.le_refl _)]
        cases s <;> (go_enter Try.func20, Try.ntmps20; go_wp2_with fail; go_returns; exact ⟨by simp [*], three_boxes _ _ _ _⟩)
      · rw [nx_top (by omega)]
        cases s <;> (go_enter Try.func20, Try.ntmps20; go_wp2_with fail; go_returns; exact ⟨by simp [*], three_boxes _ _ _ _⟩)
    · rcases Int.lt_trichotomy (n + u) m with j | j | j
      · have q : (n + u == m) = false := by simp; omega
        rw [nx_up j]
        cases s <;> (go_enter Try.func20, Try.ntmps20; go_wp2_with fail; go_returns; exact ⟨by simp [*], three_boxes _ _ _ _⟩)
      · subst j
        rw [nx_top (Int.le_refl _)]
        cases s <;> (go_enter Try.func20, Try.ntmps20; go_wp2_with fail; go_returns; exact ⟨by simp [*], three_boxes _ _ _ _⟩)
      · rw [nx_top (by omega)]
        cases s <;> (go_enter Try.func20, Try.ntmps20; go_wp2_with fail; go_returns; exact ⟨by simp [*], three_boxes _ _ _ _⟩)

end Go.Proofs.Ythfbdnhhmnehaaa
