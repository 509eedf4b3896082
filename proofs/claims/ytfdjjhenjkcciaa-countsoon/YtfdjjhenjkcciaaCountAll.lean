/-
  A count of which all frames are bad: where it is, when it is Set.
-/
import Derived.Test.YtfdjjhenjkcciaaCountRun
namespace Go.Proofs.Ytfdjjhenjkcciaa

/-! ### all bad -/
def bads : Nat → Bool := fun _ => true
theorem all_N {u d m : Int} (h : OkC u d m 0) (k : Nat) : runN u d m 0 bads k = if (k : Int) * u < m then (k : Int) * u else m := by
  obtain ⟨h1, h2, h3, h4, h5⟩ := h
  induction k with
  | zero =>
    show (0 : Int) = _
    rw [Int.natCast_zero, Int.zero_mul, if_pos (by omega)]
  | succ k ih =>
    show nxI u d m (runN u d m 0 bads k) true = _
    have q : ((k + 1 : Nat) : Int) * u = (k : Int) * u + u := by rw [Int.natCast_add, Int.add_mul]; simp
    rw [ih, q]
    unfold nxI
    rw [if_pos rfl]
    by_cases e1 : (k : Int) * u < m
    · rw [if_pos e1]
    · rw [if_neg e1, if_neg (show ¬ m + u < m by omega), if_neg (show ¬ (k : Int) * u + u < m by omega)]
/-- q is how many frames it needs -/
def Need (u m q : Int) : Prop := (q - 1) * u < m ∧ m ≤ q * u
theorem need_iff {u m q : Int} (hu : 1 ≤ u) (h : Need u m q) (k : Nat) : m ≤ (k : Int) * u ↔ q ≤ (k : Int) := by
  obtain ⟨h1, h2⟩ := h
  constructor
  · intro h3
    rcases Int.lt_or_le (k : Int) q with e | e
    · have := Int.mul_le_mul_of_nonneg_right (show (k : Int) ≤ q - 1 by omega) (show 0 ≤ u by omega)
      omega
    · exact e
  · intro h3
    have := Int.mul_le_mul_of_nonneg_right h3 (show 0 ≤ u by omega)
    omega
theorem all_S {u d m q : Int} (h : OkC u d m 0) (hq : Need u m q) (h0 : 1 ≤ q) (k : Nat) : runS u d m 0 false bads k = decide (q ≤ (k : Int)) := by
  induction k with
  | zero => exact (decide_eq_false (by omega)).symm
  | succ k ih =>
    show nxB m (runN u d m 0 bads (k + 1)) (runS u d m 0 false bads k) = _
    rw [ih, all_N h]
    have i1 := need_iff h.1.1 hq (k + 1)
    unfold nxB
    by_cases e : q ≤ (k : Int)
    · rw [decide_eq_true e, decide_eq_true (by omega), Bool.true_or]
    · rw [decide_eq_false e, Bool.false_or]
      by_cases e2 : q ≤ ((k + 1 : Nat) : Int)
      · rw [decide_eq_true e2, if_neg (by have := i1.2 e2; omega)]
        simp
      · rw [decide_eq_false e2]
        have : ((k + 1 : Nat) : Int) * u < m := by
          rcases Int.lt_or_le (((k + 1 : Nat) : Int) * u) m with t | t
          · exact t
          · exact absurd (i1.1 t) e2
        rw [if_pos this]
        simp only [beq_eq_false_iff_ne]
        omega
theorem all_A {u d m q : Int} (h : OkC u d m 0) (hq : Need u m q) (h0 : 1 ≤ q) (k : Nat) : runA u d m 0 false bads k = if q ≤ (k : Int) then q - 1 else -1 := by
  induction k with
  | zero => rw [if_neg (by omega)]; rfl
  | succ k ih =>
    show (if runS u d m 0 false bads (k + 1) && !runS u d m 0 false bads k then (k : Int) else runA u d m 0 false bads k) = _
    rw [all_S h hq h0, all_S h hq h0, ih]
    by_cases e : q ≤ (k : Int)
    · rw [decide_eq_true e, if_pos e, if_pos (show q ≤ ((k + 1 : Nat) : Int) by omega)]
      simp
    · rw [decide_eq_false e, if_neg e]
      by_cases e2 : q ≤ ((k + 1 : Nat) : Int)
      · rw [decide_eq_true e2, if_pos e2]
        simp
        omega
      · rw [decide_eq_false e2, if_neg e2]
        simp
theorem need_of {u m : Int} (hu : 1 ≤ u) (hm : 1 ≤ m) : Need u m ((m + u - 1) / u) ∧ 1 ≤ (m + u - 1) / u := by
  have h1 := Int.ediv_mul_le (m + u - 1) (show u ≠ 0 by omega)
  have h2 := Int.lt_ediv_add_one_mul_self (m + u - 1) (show 0 < u by omega)
  generalize (m + u - 1) / u = q at *
  have e1 : (q - 1) * u = q * u - u := by rw [Int.sub_mul]; omega
  have e2 : (q + 1) * u = q * u + u := by rw [Int.add_mul]; omega
  refine ⟨⟨by omega, by omega⟩, ?_⟩
  rcases Int.lt_or_le q 1 with t | t
  · have := Int.mul_le_mul_of_nonneg_right (show q ≤ 0 by omega) (show 0 ≤ u by omega)
    omega
  · exact t

end Go.Proofs.Ytfdjjhenjkcciaa
