/-
  Bits turned over, so many times each: what the sum becomes; with two of them turned over an odd number of times, or an odd number of them, it is not 0.
-/
import Derived.Test.YtllhceopllpajaaCrcPlain
namespace Go.Proofs.Ytllhceopllpajaa

/-- what bits do to the sum that were turned over c k times each, of the first m -/
def XN (N : Nat) (c : Nat → Nat) : Nat → Nat
  | 0 => 0
  | m + 1 => XN N c m ^^^ (if c m % 2 = 1 then T N m else 0)
/-- how many of the first m were turned over an odd number of times -/
def ON (c : Nat → Nat) : Nat → Nat
  | 0 => 0
  | m + 1 => ON c m + c m % 2
/-- once more at a -/
def more (c : Nat → Nat) (a : Nat) : Nat → Nat := fun k => if k = a then c a + 1 else c k

theorem XN_none (N m : Nat) : XN N (fun _ => 0) m = 0 := by
  induction m with
  | zero => rfl
  | succ m ih => simp only [XN]; rw [ih, if_neg (by decide), Nat.xor_zero]
theorem XN_far (N : Nat) (c : Nat → Nat) (a m : Nat) (h : m ≤ a) : XN N (more c a) m = XN N c m := by
  induction m with
  | zero => rfl
  | succ m ih =>
    have e : more c a m = c m := by unfold more; rw [if_neg (by omega)]
    simp only [XN]
    rw [ih (by omega), e]
theorem XN_more (N : Nat) (c : Nat → Nat) (a m : Nat) (h : a < m) : XN N (more c a) m = XN N c m ^^^ T N a := by
  induction m with
  | zero => omega
  | succ m ih =>
    simp only [XN]
    rcases Nat.lt_or_ge a m with g | g
    · have e : more c a m = c m := by unfold more; rw [if_neg (by omega)]
      rw [ih g, e]
      ac_rfl
    · have e0 : a = m := by omega
      subst e0
      have e : more c a a = c a + 1 := by unfold more; rw [if_pos rfl]
      rw [XN_far N c a a (Nat.le_refl _), e]
      rcases Nat.mod_two_eq_zero_or_one (c a) with q | q
      · rw [if_pos (by omega), if_neg (by omega), Nat.xor_zero]
      · rw [if_neg (by omega), if_pos q, Nat.xor_zero, Nat.xor_assoc, Nat.xor_self, Nat.xor_zero]
theorem XN_lt (N : Nat) (c : Nat → Nat) (m : Nat) : XN N c m < 65536 := by
  induction m with
  | zero => show 0 < _; decide
  | succ m ih =>
    refine Nat.xor_lt_two_pow (n := 16) ih ?_
    split
    · exact T_lt N m
    · decide
theorem ON_le (c : Nat → Nat) (m : Nat) : ON c m ≤ m := by
  induction m with
  | zero => exact Nat.le_refl _
  | succ m ih => simp only [ON]; omega
theorem few (N : Nat) (c : Nat → Nat) (m : Nat) : (ON c m = 0 → XN N c m = 0) ∧ (ON c m = 1 → ∃ a, a < m ∧ XN N c m = T N a) ∧ (ON c m = 2 → ∃ a b, a < b ∧ b < m ∧ XN N c m = T N a ^^^ T N b) := by
  induction m with
  | zero => exact ⟨fun _ => rfl, fun h => by simp [ON] at h, fun h => by simp [ON] at h⟩
  | succ m ih =>
    obtain ⟨h0, h1, h2⟩ := ih
    simp only [ON, XN]
    rcases Nat.mod_two_eq_zero_or_one (c m) with q | q
    · rw [q, if_neg (by omega), Nat.xor_zero]
      refine ⟨fun h => h0 (by omega), fun h => ?_, fun h => ?_⟩
      · obtain ⟨a, ha, e⟩ := h1 (by omega)
        exact ⟨a, by omega, e⟩
      · obtain ⟨a, b, ha, hb, e⟩ := h2 (by omega)
        exact ⟨a, b, ha, by omega, e⟩
    · rw [q, if_pos rfl]
      refine ⟨fun h => by omega, fun h => ?_, fun h => ?_⟩
      · exact ⟨m, by omega, by rw [h0 (by omega), Nat.zero_xor]⟩
      · obtain ⟨a, ha, e⟩ := h1 (by omega)
        exact ⟨a, m, ha, by omega, by rw [e]⟩
theorem par_XN (N : Nat) (c : Nat → Nat) (m : Nat) : (ON c m % 2 = 1 → par (XN N c m) = true) ∧ (ON c m % 2 = 0 → par (XN N c m) = false) := by
  have p0 : par 0 = false := by decide
  induction m with
  | zero => exact ⟨fun h => by simp [ON] at h, fun _ => p0⟩
  | succ m ih =>
    have e1 : ON c (m + 1) = ON c m + c m % 2 := rfl
    have e2 : XN N c (m + 1) = XN N c m ^^^ (if c m % 2 = 1 then T N m else 0) := rfl
    rw [e2, par_xor]
    rcases Nat.mod_two_eq_zero_or_one (c m) with q | q
    · rw [if_neg (by omega), p0, Bool.xor_false]
      exact ⟨fun h => ih.1 (by omega), fun h => ih.2 (by omega)⟩
    · rw [if_pos q, par_T, Bool.xor_true]
      exact ⟨fun h => by rw [ih.2 (by omega)]; rfl, fun h => by rw [ih.1 (by omega)]; rfl⟩
/-- what is told -/
theorem few_told (N : Nat) (c : Nat → Nat) (hN : N ≤ 32760) : (ON c N = 0 → XN N c N = 0) ∧ (ON c N = 2 → XN N c N ≠ 0) ∧ (ON c N % 2 = 1 → XN N c N ≠ 0) := by
  refine ⟨(few N c N).1, fun h => ?_, fun h e => ?_⟩
  · obtain ⟨a, b, ha, hb, e⟩ := (few N c N).2.2 h
    rw [e]
    exact T_two_lt N a b hN hb ha
  · have := (par_XN N c N).1 h
    rw [e] at this
    revert this
    decide

end Go.Proofs.Ytllhceopllpajaa
