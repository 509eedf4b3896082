/-
  The middle one of numbers: told by counting; filt.Middle hands it back.
-/
import Derived.Test.YtdnjipikggehmaaClone
import Derived.Test.YtdnjipikggehmaaSrtPdq
namespace Go.Proofs.Ytdnjipikggehmaa
open Go.RowKit
set_option linter.unusedVariables false

/-- how many of the first n are so -/
def cnt (p : Int → Bool) (l : Nat → Int) (n : Nat) : Nat := ((List.range n).map l).countP p
theorem cnt_succ (p : Int → Bool) (l : Nat → Int) (n : Nat) : cnt p l (n + 1) = cnt p l n + if p (l n) then 1 else 0 := by
  unfold cnt
  rw [List.range_succ, List.map_append, List.countP_append]
  simp [List.countP_cons]
theorem cnt_zero (p : Int → Bool) (l : Nat → Int) : cnt p l 0 = 0 := rfl
theorem cnt_le (p : Int → Bool) (l : Nat → Int) (n : Nat) : cnt p l n ≤ n := by
  induction n with
  | zero => exact Nat.le_refl _
  | succ n ih => rw [cnt_succ]; split <;> omega
theorem cnt_mono (p : Int → Bool) (l : Nat → Int) {n m : Nat} (h : n ≤ m) : cnt p l n ≤ cnt p l m := by
  induction m with
  | zero => have : n = 0 := by omega
            subst this; exact Nat.le_refl _
  | succ m ih =>
    rcases Nat.lt_or_ge m n with q | q
    · have : n = m + 1 := by omega
      subst this; exact Nat.le_refl _
    · rw [cnt_succ]; have := ih q; omega
theorem cnt_imp {p q : Int → Bool} (l : Nat → Int) (h : ∀ x, p x = true → q x = true) (n : Nat) : cnt p l n ≤ cnt q l n := by
  induction n with
  | zero => exact Nat.le_refl _
  | succ n ih =>
    rw [cnt_succ, cnt_succ]
    by_cases e : p (l n) = true
    · rw [if_pos e, if_pos (h _ e)]; omega
    · rw [if_neg e]; omega
theorem cnt_few {p : Int → Bool} {l : Nat → Int} {k : Nat} (n : Nat) (h : ∀ i, k ≤ i → i < n → p (l i) = false) : cnt p l n ≤ k := by
  induction n with
  | zero => exact Nat.zero_le _
  | succ n ih =>
    rcases Nat.lt_or_ge n k with q | q
    · have := cnt_le p l (n + 1); omega
    · rw [cnt_succ, if_neg (by rw [h n q (by omega)]; decide)]
      have := ih (fun i h1 h2 => h i h1 (by omega))
      omega
theorem cnt_all {p : Int → Bool} {l : Nat → Int} (n : Nat) (h : ∀ i, i < n → p (l i) = true) : cnt p l n = n := by
  induction n with
  | zero => rfl
  | succ n ih => rw [cnt_succ, if_pos (h n (by omega)), ih (fun i hi => h i (by omega))]
theorem cnt_some {p : Int → Bool} {l : Nat → Int} {n : Nat} (h : 0 < cnt p l n) : ∃ i, i < n ∧ p (l i) = true := by
  induction n with
  | zero => rw [cnt_zero] at h; omega
  | succ n ih =>
    by_cases e : p (l n) = true
    · exact ⟨n, by omega, e⟩
    · rw [cnt_succ, if_neg e] at h
      obtain ⟨i, h1, h2⟩ := ih (by omega)
      exact ⟨i, by omega, h2⟩
theorem cnt_not (p : Int → Bool) (l : Nat → Int) (n : Nat) : cnt p l n + cnt (fun x => !p x) l n = n := by
  induction n with
  | zero => rfl
  | succ n ih =>
    rw [cnt_succ, cnt_succ]
    cases p (l n) <;> simp <;> omega
theorem cnt_congr {p : Int → Bool} {l l' : Nat → Int} (n : Nat) (h : ∀ i, i < n → l i = l' i) : cnt p l n = cnt p l' n := by
  induction n with
  | zero => rfl
  | succ n ih => rw [cnt_succ, cnt_succ, ih (fun i hi => h i (by omega)), h n (by omega)]
def ltB (m : Int) : Int → Bool := fun x => decide (x < m)
def leB (m : Int) : Int → Bool := fun x => decide (x ≤ m)
def eqI (m : Int) : Int → Bool := fun x => x == m
def gtB (m : Int) : Int → Bool := fun x => decide (m < x)
theorem cnt_lt_eq (m : Int) (l : Nat → Int) (n : Nat) : cnt (ltB m) l n + cnt (eqI m) l n = cnt (leB m) l n := by
  induction n with
  | zero => rfl
  | succ n ih =>
    rw [cnt_succ, cnt_succ, cnt_succ]
    unfold ltB eqI leB at *
    rcases Int.lt_trichotomy (l n) m with h | h | h
    · rw [if_pos (by simpa using h), if_neg (by simp; omega), if_pos (by simp; omega)]; omega
    · rw [if_neg (by simp; omega), if_pos (by simpa using h), if_pos (by simp; omega)]; omega
    · rw [if_neg (by simp; omega), if_neg (by simp; omega), if_neg (by simp; omega)]; omega
theorem cnt_gt (m : Int) (l : Nat → Int) (n : Nat) : cnt (leB m) l n + cnt (gtB m) l n = n := by
  have h := cnt_not (leB m) l n
  have e : (fun x => !leB m x) = gtB m := by
    funext x
    unfold leB gtB
    by_cases q : x ≤ m
    · rw [decide_eq_true q, decide_eq_false (by omega)]; rfl
    · rw [decide_eq_false q, decide_eq_true (by omega)]; rfl
  rw [e] at h
  exact h
/-- the middle one of n numbers, of two the lesser -/
def IsMid (l : Nat → Int) (n : Nat) (m : Int) : Prop := cnt (ltB m) l n ≤ (n - 1) / 2 ∧ (n - 1) / 2 < cnt (leB m) l n
theorem mid_one {l : Nat → Int} {n : Nat} {m m' : Int} (h : IsMid l n m) (h' : IsMid l n m') : m = m' := by
  have key : ∀ {a b : Int}, IsMid l n a → IsMid l n b → ¬ a < b := fun {a b} ha hb hab => by
    have := cnt_imp (p := leB a) (q := ltB b) l (fun x hx => by unfold leB at hx; unfold ltB; have := of_decide_eq_true hx; exact decide_eq_true (by omega)) n
    have h1 := ha.2
    have h2 := hb.1
    omega
  have h1 := key h h'
  have h2 := key h' h
  omega
theorem mid_in {l : Nat → Int} {n : Nat} {m : Int} (h : IsMid l n m) : ∃ i, i < n ∧ l i = m := by
  have h1 := cnt_lt_eq m l n
  obtain ⟨i, hi, e⟩ := cnt_some (p := eqI m) (l := l) (n := n) (by have := h.1; have := h.2; omega)
  exact ⟨i, hi, by simpa [eqI] using e⟩
theorem perm_cnt {n : Nat} {d d' : Array Int} (hs : d.size = n) (h : Sort.PermIn 0 n d d') (p : Int → Bool) : cnt p (fun t => d'[t]!) n = cnt p (fun t => d[t]!) n := by
  have h3 := h.2.2
  rw [Sort.extract_toList d' 0 n (by rw [h.1]; omega), Sort.extract_toList d 0 n (by omega), Nat.sub_zero, ← List.range_eq_range'] at h3
  exact h3.countP_eq p
theorem mid_sorted {l : Nat → Int} {n : Nat} {d' : Array Int} (hn : 0 < n) (h : Sort.PermIn 0 n (arr l n) d') (hs : Sort.SortedIn Sort.ltInt 0 n d') : IsMid l n (d'[(n - 1) / 2]!) := by
  have c : ∀ p, cnt p (fun t => d'[t]!) n = cnt p l n := fun p => (perm_cnt (arr_size l n) h p).trans (cnt_congr n fun i hi => arr_at hi)
  have le : ∀ i j, i ≤ j → j < n → d'[i]! ≤ d'[j]! := fun i j h1 h2 => by
    rcases Nat.lt_or_ge i j with q | q
    · exact lt_no.1 (hs i j (by omega) q h2)
    · have : i = j := by omega
      subst this; exact Int.le_refl _
  constructor
  · rw [← c]
    exact cnt_few n fun i h1 h2 => decide_eq_false (by have := le _ _ h1 h2; omega)
  · rw [← c]
    have h1 := cnt_all (p := leB (d'[(n - 1) / 2]!)) (l := fun t => d'[t]!) ((n - 1) / 2 + 1) (fun i hi => decide_eq_true (le i _ (by omega) (by omega)))
    have h2 := cnt_mono (leB (d'[(n - 1) / 2]!)) (fun t => d'[t]!) (show (n - 1) / 2 + 1 ≤ n by omega)
    omega

theorem mid_there (l : Nat → Int) (n : Nat) (hn : 0 < n) : ∃ m, IsMid l n m := by
  obtain ⟨p, q⟩ := Sort.insertionSort_holds Sort.swo_ltInt (arr l n) 0 n (by omega) (by rw [arr_size]; omega)
  exact ⟨_, mid_sorted hn p q⟩

end Go.Proofs.Ytdnjipikggehmaa
