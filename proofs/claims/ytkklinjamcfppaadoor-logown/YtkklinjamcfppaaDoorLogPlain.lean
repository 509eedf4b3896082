/-
  What Put makes of a log, as plain mathematics: it is a log again; the last one; how many are counted.
-/
import Derived.Test.YtkklinjamcfppaaDoorLogPut
namespace Go.Proofs.YtkklinjamcfppaaDoor
set_option linter.unusedVariables false

/-- how many are counted in the first k -/
def sumE (l : Nat → En) : Nat → Int
  | 0 => 0
  | k + 1 => sumE l k + (l k).m
theorem sumE_succ (l : Nat → En) (k : Nat) : sumE l (k + 1) = sumE l k + (l k).m := rfl
theorem sumE_congr {l m : Nat → En} {k : Nat} (h : ∀ t, t < k → l t = m t) : sumE l k = sumE m k := by
  induction k with
  | zero => rfl
  | succ k ih => rw [sumE_succ, sumE_succ, ih (fun t ht => h t (by omega)), h k (by omega)]
theorem sumE_shift (l : Nat → En) (k : Nat) : sumE l (k + 1) = (l 0).m + sumE (fun t => l (1 + t)) k := by
  induction k with
  | zero =>
    show 0 + (l 0).m = (l 0).m + 0
    omega
  | succ k ih =>
    rw [sumE_succ, ih, sumE_succ, show 1 + k = k + 1 by omega]
    omega
theorem sumE_pos {l : Nat → En} {k : Nat} (h : ∀ t, t < k → 1 ≤ (l t).m) : 0 ≤ sumE l k := by
  induction k with
  | zero => exact Int.le_refl _
  | succ k ih =>
    have := ih (fun t ht => h t (by omega))
    have := h k (by omega)
    rw [sumE_succ]
    omega
theorem setE_same (l : Nat → En) (q : Nat) (x : En) : setE l q x q = x := by unfold setE; rw [if_pos rfl]
theorem setE_other (l : Nat → En) {q t : Nat} (x : En) (h : t ≠ q) : setE l q x t = l t := by unfold setE; rw [if_neg h]
theorem addE_last (l : Nat → En) (G k : Nat) (x : En) : addE l G k x k = x := by unfold addE; rw [if_neg (Nat.lt_irrefl _)]
theorem addE_old (l : Nat → En) (G k : Nat) (x : En) {t : Nat} (h : t < k) : addE l G k x t = l (G + t) := by unfold addE; rw [if_pos h]
theorem alB_more (x y : En) : alB (moreE x) y = alB x y := rfl
theorem alB_more2 (x y : En) : alB x (moreE y) = alB x y := rfl
theorem okE_more {x : En} (h : okE x = true) : okE (moreE x) = true := by
  obtain ⟨h1, h2, h3, h4, h5⟩ := (okE_iff x).1 h
  refine (okE_iff _).2 ⟨h1, h2, h3, ?_⟩
  show 1 ≤ (if 9999 < x.m + 1 then 9999 else x.m + 1) ∧ (if 9999 < x.m + 1 then 9999 else x.m + 1) ≤ 9999
  split <;> omega

/-- what a good Put makes -/
structure Made (l : Nat → En) (n : Nat) (x : En) (N : Nat) (L : Nat → En) : Prop where
  pos : 1 ≤ N
  le : N ≤ 32
  ok : chE L N = 0
  last : (L (N - 1)).l = x.l ∧ (L (N - 1)).c = x.c ∧ (L (N - 1)).f ≤ x.f
  front : N = n + 1 → ∀ t, t < n → L t = l t
  sum : sumE L N ≤ sumE l n + 1
  or : N = 32 ∨ sumE L N = sumE l n + 1 ∨ 9999 ≤ sumE l n
  mono : n ≤ N
theorem may_step {l : Nat → En} {n k : Nat} (h : fsE l n = 0) (hk : k + 1 < n) : mayB (l (k + 1)) (l k) = true := (fsE_zero h hk).2 (by omega)
theorem made_of {l : Nat → En} {n : Nat} {x : En} (hx : x.m = 1) (h : putR l n x = 0) : Made l n x (putN l n x) (putL l n x) := by
  have e0 : chE l n = 0 := by
    by_cases e : chE l n = 0
    · exact e
    · unfold putR at h
      rw [if_pos e] at h
      exact h
  have e1 : okE x = true := by
    rcases twoB (okE x) with e | e
    · unfold putR at h
      rw [if_neg (by rw [e0]; decide), if_pos e] at h
      cases h
    · exact e
  have e2 : n ≠ 0 → (l (n - 1)).f ≤ x.f := fun hn => by
    by_cases e : x.f < (l (n - 1)).f
    · unfold putR at h
      rw [if_neg (by rw [e0]; decide), if_neg (by rw [e1]; decide), if_pos ⟨hn, e⟩] at h
      cases h
    · omega
  clear h
  obtain ⟨hn, hf⟩ := chE_zero e0
  have pos : ∀ t, t < n → 1 ≤ (l t).m := fun t ht => ((okE_iff _).1 (fsE_zero hf ht).1).2.2.2.1
  unfold putN putL
  rcases Nat.eq_zero_or_pos n with q | q
  · subst q
    rw [if_pos rfl, if_pos rfl]
    refine ⟨Nat.le_refl _, by omega, ?_, ⟨rfl, rfl, Int.le_refl _⟩, fun _ t ht => absurd ht (by omega), ?_, Or.inr (Or.inl ?_), by omega⟩
    · refine chE_of (by omega) (fsE_of fun k hk => ⟨e1, fun hp => absurd hp (by omega)⟩)
    · show 0 + x.m ≤ 0 + 1
      omega
    · show 0 + x.m = 0 + 1
      omega
  · obtain ⟨m, rfl⟩ : ∃ m, n = m + 1 := ⟨n - 1, by omega⟩
    have e2' : (l m).f ≤ x.f := e2 (by omega)
    rw [if_neg (show ¬ m + 1 = 0 by omega), if_neg (show ¬ m + 1 = 0 by omega), Nat.add_sub_cancel]
    rcases twoB (alB x (l m)) with e3 | e3
    · have e5 : ¬ alB x (l m) = true := by rw [e3]; decide
      rw [if_neg e5, if_neg e5]
      have hnew : mayB x (l m) = true := (mayB_iff _ _).2 ⟨e2', fun k => e5 ((alB_iff _ _).2 k)⟩
      by_cases e4 : m + 1 = 32
      · rw [if_pos e4, if_pos e4]
        obtain rfl : m = 31 := by omega
        refine ⟨by omega, by omega, chE_of (by omega) (fsE_of fun k hk => ?_), ?_, fun k => absurd k (by omega), ?_, Or.inl rfl, by omega⟩
        · by_cases r : k < 31
          · rw [addE_old l 1 31 x r]
            refine ⟨(fsE_zero hf (k := 1 + k) (by omega)).1, fun hp => ?_⟩
            rw [addE_old l 1 31 x (show k - 1 < 31 by omega), show 1 + (k - 1) = k by omega, show 1 + k = k + 1 by omega]
            exact may_step hf (by omega)
          · obtain rfl : k = 31 := by omega
            rw [addE_last]
            refine ⟨e1, fun hp => ?_⟩
            rw [addE_old l 1 31 x (show 31 - 1 < 31 by omega)]
            exact hnew
        · rw [show 32 - 1 = 31 from rfl, addE_last]
          exact ⟨rfl, rfl, Int.le_refl _⟩
        · have s1 := sumE_shift l 31
          have s2 : sumE (addE l 1 31 x) (31 + 1) = sumE (addE l 1 31 x) 31 + (addE l 1 31 x 31).m := sumE_succ _ _
          rw [addE_last, sumE_congr (m := fun t => l (1 + t)) (fun t ht => addE_old l 1 31 x ht)] at s2
          have := pos 0 (by omega)
          show sumE (addE l 1 31 x) (31 + 1) ≤ _
          omega
      · rw [if_neg e4, if_neg e4]
        have s2 : sumE (addE l 0 (m + 1) x) (m + 1 + 1) = sumE l (m + 1) + 1 := by
          rw [sumE_succ, addE_last, hx, sumE_congr (m := l) (fun t ht => by rw [addE_old l 0 (m + 1) x ht, Nat.zero_add])]
        refine ⟨by omega, by omega, chE_of (by omega) (fsE_of fun k hk => ?_), ?_, fun _ t ht => by rw [addE_old l 0 (m + 1) x ht, Nat.zero_add], by omega, Or.inr (Or.inl s2), by omega⟩
        · by_cases r : k < m + 1
          · rw [addE_old l 0 (m + 1) x r, Nat.zero_add]
            refine ⟨(fsE_zero hf r).1, fun hp => ?_⟩
            rw [addE_old l 0 (m + 1) x (show k - 1 < m + 1 by omega), Nat.zero_add]
            exact (fsE_zero hf r).2 hp
          · obtain rfl : k = m + 1 := by omega
            rw [addE_last]
            refine ⟨e1, fun hp => ?_⟩
            rw [addE_old l 0 (m + 1) x (show m + 1 - 1 < m + 1 by omega), Nat.zero_add]
            exact hnew
        · rw [Nat.add_sub_cancel, addE_last]
          exact ⟨rfl, rfl, Int.le_refl _⟩
    · rw [if_pos e3, if_pos e3]
      obtain ⟨a1, a2⟩ := (alB_iff _ _).1 e3
      have s1 : sumE l (m + 1) = sumE l m + (l m).m := sumE_succ _ _
      have s2 : sumE (setE l m (moreE (l m))) (m + 1) = sumE l m + (moreE (l m)).m := by
        rw [sumE_succ, setE_same, sumE_congr (m := l) (fun t ht => setE_other l _ (by omega))]
      have s3 : (moreE (l m)).m = if 9999 < (l m).m + 1 then 9999 else (l m).m + 1 := rfl
      have s4 : 0 ≤ sumE l m := sumE_pos (fun t ht => pos t (by omega))
      have b := ((okE_iff _).1 (fsE_zero hf (k := m) (by omega)).1).2.2.2
      refine ⟨by omega, by omega, chE_of (by omega) (fsE_of fun k hk => ?_), ?_, fun k => absurd k (by omega), ?_, Or.inr ?_, by omega⟩
      · by_cases r : k < m
        · rw [setE_other l _ (show k ≠ m by omega)]
          refine ⟨(fsE_zero hf hk).1, fun hp => ?_⟩
          rw [setE_other l _ (show k - 1 ≠ m by omega)]
          exact (fsE_zero hf hk).2 hp
        · obtain rfl : k = m := by omega
          rw [setE_same]
          refine ⟨okE_more (fsE_zero hf hk).1, fun hp => ?_⟩
          rw [setE_other l _ (show k - 1 ≠ k by omega)]
          exact (fsE_zero hf hk).2 hp
      · rw [Nat.add_sub_cancel, setE_same]
        exact ⟨a1.symm, a2.symm, e2'⟩
      · rw [s2, s1, s3]
        split <;> omega
      · rw [s2, s1, s3]
        split
        · right; omega
        · left; omega

end Go.Proofs.YtkklinjamcfppaaDoor
