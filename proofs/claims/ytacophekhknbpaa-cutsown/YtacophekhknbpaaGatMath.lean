/-
  Plain mathematics of trees: with more parts no less fails; the dual fails where the tree, of all parts that do not, does not; what goes across all cuts are the dual's cuts.
-/
import Derived.Test.YtacophekhknbpaaGatDua
import Derived.Test.YtacophekhknbpaaGatCuts
import Derived.Test.YtacophekhknbpaaGatFls
namespace Go.Proofs.Ytacophekhknbpaa
open Go.RowKit
set_option linter.unusedVariables false

theorem cntF_mono {f : Nat → Int} {A B : Nat → Bool} {n : Nat} (h : ∀ j, j < n → A (f j).toNat = true → B (f j).toNat = true) : cntF f A n ≤ cntF f B n := by
  induction n with
  | zero => exact Nat.le_refl _
  | succ n ih =>
    show cntF f A n + (if A (f n).toNat then 1 else 0) ≤ cntF f B n + (if B (f n).toNat then 1 else 0)
    have h1 := ih fun j hj => h j (by omega)
    have h2 := h n (by omega)
    cases a : A (f n).toNat
    · simp only [Bool.false_eq_true, if_false]
      omega
    · rw [h2 a]
      omega
theorem cntF_not {f : Nat → Int} {A B : Nat → Bool} {n : Nat} (h : ∀ j, j < n → B (f j).toNat = !A (f j).toNat) : cntF f B n + cntF f A n = n := by
  induction n with
  | zero => rfl
  | succ n ih =>
    show cntF f B n + (if B (f n).toNat then 1 else 0) + (cntF f A n + (if A (f n).toNat then 1 else 0)) = n + 1
    have h1 := ih fun j hj => h j (by omega)
    rw [h n (by omega)]
    cases a : A (f n).toNat <;> simp <;> omega
/-- with more parts no less fails -/
theorem faG_mono {t : Nat → Gt} {n p q : Nat} (hc : chG t n = 0) (h : ∀ i, i < 8 → p.testBit i = true → q.testBit i = true) (k : Nat) (hk : k < n) (hf : faG t p k = true) : faG t q k = true := by
  induction k using Nat.strongRecOn with
  | ind k ih =>
    have hg := (chG_zero hc).2.2 k hk
    obtain ⟨h1, h2, h3⟩ := geE_zero hg
    rw [faG_eq hg] at hf ⊢
    have hm : cntF (t k).of (faG t p) (t k).n ≤ cntF (t k).of (faG t q) (t k).n := cntF_mono fun j hj hx => ih _ (by have := h3 j hj; omega) (by have := h3 j hj; omega) hx
    unfold gateF at hf ⊢
    split at hf
    · rename_i e
      rw [if_pos e]
      rcases formV_kinds h1 with ⟨_, a, b, _⟩ | ⟨a, _⟩ | ⟨a, _⟩ | ⟨a, _⟩
      · exact h _ (by omega) hf
      · omega
      · omega
      · omega
    · rename_i e
      rw [if_neg e]
      rw [decide_eq_true_eq] at hf ⊢
      omega
theorem faG_congr {t : Nat → Gt} {n p q : Nat} (hc : chG t n = 0) (h : ∀ i, i < 8 → p.testBit i = q.testBit i) {k : Nat} (hk : k < n) : faG t p k = faG t q k := by
  rw [Bool.eq_iff_iff]
  exact ⟨faG_mono hc (fun i hi x => by rw [← h i hi]; exact x) k hk, faG_mono hc (fun i hi x => by rw [h i hi]; exact x) k hk⟩
theorem faT_mono {t : Nat → Gt} {n p q : Nat} (hc : chG t n = 0) (h : ∀ i, i < 8 → p.testBit i = true → q.testBit i = true) (hf : faT t n p = true) : faT t n q = true := faG_mono hc h (n - 1) (by have := (chG_zero hc).1; omega) hf
theorem faT_congr {t : Nat → Gt} {n p q : Nat} (hc : chG t n = 0) (h : ∀ i, i < 8 → p.testBit i = q.testBit i) : faT t n p = faT t n q := faG_congr hc h (by have := (chG_zero hc).1; omega)
theorem mono_faT {t : Nat → Gt} {n : Nat} (hc : chG t n = 0) : Mono (faT t n) := fun s r _ _ h hf => faT_mono hc (fun i _ hi => sub_iff.1 h i hi) hf
/-- a gate with the same kind, number and row fails alike -/
theorem faG_same {t u : Nat → Gt} {n p : Nat} (hc : chG t n = 0) (h : ∀ j, j < n → (u j).k = (t j).k ∧ (u j).v = (t j).v ∧ (u j).n = (t j).n ∧ ∀ i, i < (t j).n → (u j).of i = (t j).of i) : chG u n = 0 ∧ ∀ k, k < n → faG u p k = faG t p k := by
  obtain ⟨n1, n2, h3⟩ := chG_zero hc
  have hg : ∀ k, k < n → geE (u k) k = 0 := fun k hk => by
    obtain ⟨e1, e2, e3, e4⟩ := h k hk
    have h0 := h3 k hk
    have ok : ∀ m, m ≤ (t k).n → okB (u k).of k m = okB (t k).of k m := fun m => by
      induction m with
      | zero => intro _; rfl
      | succ m ih =>
        intro hm
        show (okB (u k).of k m && _) = (okB (t k).of k m && _)
        rw [ih (by omega), e4 m (by omega)]
    unfold geE at h0 ⊢
    rw [e1, e2, e3, ok _ (Nat.le_refl _)]
    exact h0
  refine ⟨chG_of n1 n2 hg, fun k hk => ?_⟩
  induction k using Nat.strongRecOn with
  | ind k ih =>
    obtain ⟨e1, e2, e3, e4⟩ := h k hk
    rw [faG_eq (hg k hk), faG_eq (h3 k hk)]
    unfold gateF needI
    rw [e1, e2, e3]
    have e5 : cntF (u k).of (faG u p) (t k).n = cntF (t k).of (faG t p) (t k).n := by
      have e6 : cntF (u k).of (faG u p) (t k).n = cntF (t k).of (faG u p) (t k).n := by
        have : ∀ m, m ≤ (t k).n → cntF (u k).of (faG u p) m = cntF (t k).of (faG u p) m := fun m => by
          induction m with
          | zero => intro _; rfl
          | succ m im =>
            intro hm
            show cntF (u k).of (faG u p) m + _ = cntF (t k).of (faG u p) m + _
            rw [im (by omega), e4 m (by omega)]
        exact this _ (Nat.le_refl _)
      rw [e6]
      refine cntF_congr fun j hj => ih _ ?_ ?_
      · have := (geE_zero (h3 k hk)).2.2 j hj
        omega
      · have := (geE_zero (h3 k hk)).2.2 j hj
        omega
    rw [e5]

/-- a right tree's dual is right -/
theorem chG_dual {t u : Nat → Gt} {n : Nat} (hc : chG t n = 0) (hd : ∀ j, j < n → DualOf (t j) (u j)) : chG u n = 0 := by
  obtain ⟨n1, n2, h3⟩ := chG_zero hc
  refine chG_of n1 n2 fun k hk => ?_
  obtain ⟨h4, h5, h6⟩ := geE_zero (h3 k hk)
  obtain ⟨e1, e2, e3, e4⟩ := hd k hk
  have ok : okB (t k).of k (t k).n = true := by
    cases e : okB (t k).of k (t k).n
    · have h0 := h3 k hk
      unfold geE at h0
      rw [h4, e, if_neg (by decide), if_neg (by omega)] at h0
      cases h0
    · rfl
  have fv : formV (u k).k (u k).v (t k).n = true := by
    rw [e1, e2]
    unfold dK dV
    rcases formV_kinds h4 with ⟨q, a, b, z⟩ | ⟨q, a⟩ | ⟨q, a⟩ | ⟨q, a, b⟩ <;> rw [q] <;> simp [formV] <;> omega
  unfold geE
  rw [e3, fv, e4, ok, if_neg (by decide), if_neg (by omega)]
  rfl
/-- DE MORGAN -/
theorem faG_dual {t u : Nat → Gt} {n p q : Nat} (hc : chG t n = 0) (hd : ∀ j, j < n → DualOf (t j) (u j)) (h : ∀ i, i < 8 → q.testBit i = !p.testBit i) (k : Nat) (hk : k < n) : faG u q k = !faG t p k := by
  have hu := chG_dual hc hd
  induction k using Nat.strongRecOn with
  | ind k ih =>
    have hg := (chG_zero hc).2.2 k hk
    obtain ⟨h1, h2, h3⟩ := geE_zero hg
    obtain ⟨e1, e2, e3, e4⟩ := hd k hk
    rw [faG_eq hg, faG_eq ((chG_zero hu).2.2 k hk)]
    have hcn : cntF (t k).of (faG u q) (t k).n + cntF (t k).of (faG t p) (t k).n = (t k).n := cntF_not fun j hj => ih _ (by have := h3 j hj; omega) (by have := h3 j hj; omega)
    unfold gateF needI
    rw [e1, e2, e3, e4]
    unfold dK dV
    generalize cntF (t k).of (faG u q) (t k).n = x at *
    generalize cntF (t k).of (faG t p) (t k).n = y at *
    have dd : ∀ (a b : Prop) [Decidable a] [Decidable b], (a ↔ ¬ b) → decide a = !decide b := fun a b _ _ hab => by
      by_cases hb : b <;> simp [hb, hab]
    rcases formV_kinds h1 with ⟨z, a, b, _⟩ | ⟨z, a⟩ | ⟨z, a⟩ | ⟨z, a, b⟩ <;> rw [z]
    · simp only [show ¬ (1 : Int) = 2 by decide, show ¬ (1 : Int) = 3 by decide, show ¬ (1 : Int) = 4 by decide, if_false, if_true]
      exact h _ (by omega)
    · simp only [show ¬ (2 : Int) = 4 by decide, show ¬ (2 : Int) = 1 by decide, show ¬ (3 : Int) = 1 by decide, show ¬ (3 : Int) = 2 by decide, if_false, if_true]
      exact dd _ _ (by omega)
    · simp only [show ¬ (3 : Int) = 4 by decide, show ¬ (2 : Int) = 1 by decide, show ¬ (3 : Int) = 1 by decide, show ¬ (3 : Int) = 2 by decide, if_false, if_true]
      exact dd _ _ (by omega)
    · simp only [show ¬ (4 : Int) = 1 by decide, show ¬ (4 : Int) = 2 by decide, show ¬ (4 : Int) = 3 by decide, if_false, if_true]
      exact dd _ _ (by omega)
theorem faT_dual {t u : Nat → Gt} {n p q : Nat} (hc : chG t n = 0) (hd : ∀ j, j < n → DualOf (t j) (u j)) (h : ∀ i, i < 8 → q.testBit i = !p.testBit i) : faT u n q = !faT t n p := faG_dual hc hd h (n - 1) (by have := (chG_zero hc).1; omega)
theorem faT_cpl {t u : Nat → Gt} {n s : Nat} (hc : chG t n = 0) (hd : ∀ j, j < n → DualOf (t j) (u j)) (hs : s < 256) : faT u n s = !faT t n (cpl s) :=
  faT_dual hc hd fun i hi => by rw [cpl_bit hs hi, Bool.not_not]
/-- the dual of the dual is the tree -/
theorem dual_dual {t u x : Gt} {k : Nat} (hg : geE t k = 0) (h1 : DualOf t u) (h2 : DualOf u x) : x.k = t.k ∧ x.v = t.v ∧ x.n = t.n ∧ x.of = t.of := by
  obtain ⟨f1, _, _⟩ := geE_zero hg
  obtain ⟨a1, a2, a3, a4⟩ := h1
  obtain ⟨b1, b2, b3, b4⟩ := h2
  refine ⟨?_, ?_, by rw [b3, a3], by rw [b4, a4]⟩
  · rw [b1, a1]
    unfold dK
    rcases formV_kinds f1 with ⟨z, _⟩ | ⟨z, _⟩ | ⟨z, _⟩ | ⟨z, _⟩ <;> rw [z] <;> rfl
  · rw [b2, a1, a2, a3]
    unfold dK dV
    rcases formV_kinds f1 with ⟨z, _⟩ | ⟨z, _⟩ | ⟨z, _⟩ | ⟨z, a, b⟩ <;> rw [z] <;> simp <;> omega

theorem mtB_list (l : List Nat) (s : Nat) : mtB (fun j => l.getD j 0) s l.length = meets l s := by
  have yes : ∀ (f : Nat → Nat) (n : Nat), mtB f s n = true ↔ ∀ j, j < n → s &&& f j ≠ 0 := fun f n => by
    induction n with
    | zero => exact ⟨fun _ j hj => absurd hj (by omega), fun _ => rfl⟩
    | succ n ih =>
      show (mtB f s n && decide (s &&& f n ≠ 0)) = true ↔ _
      rw [Bool.and_eq_true, ih, decide_eq_true_eq]
      constructor
      · rintro ⟨h1, h2⟩ j hj
        rcases (show j < n ∨ j = n by omega) with q | rfl
        · exact h1 j q
        · exact h2
      · intro h
        exact ⟨fun j hj => h j (by omega), h n (by omega)⟩
  rw [Bool.eq_iff_iff, yes]
  unfold meets
  rw [List.all_eq_true]
  constructor
  · intro h x hx
    obtain ⟨j, hj, rfl⟩ := List.getElem_of_mem hx
    have := h j hj
    rw [List.getD_eq_getElem?_getD, List.getElem?_eq_getElem hj] at this
    exact decide_eq_true this
  · intro h j hj
    have hm : l.getD j 0 ∈ l := by
      rw [List.getD_eq_getElem?_getD, List.getElem?_eq_getElem hj]
      exact List.getElem_mem hj
    exact of_decide_eq_true (h _ hm)
/-- BERGE: what goes across all cuts are the dual's cuts -/
theorem across_dual {t u : Nat → Gt} {n : Nat} (hc : chG t n = 0) (hd : ∀ j, j < n → DualOf (t j) (u j)) : leastL (meets (leastL (faT t n))) = leastL (faT u n) :=
  leastL_congr fun s hs => by rw [meets_least (mono_faT hc) hs, faT_cpl hc hd hs]
theorem across_back {t u : Nat → Gt} {n : Nat} (hc : chG t n = 0) (hd : ∀ j, j < n → DualOf (t j) (u j)) : leastL (meets (leastL (faT u n))) = leastL (faT t n) :=
  leastL_congr fun s hs => by rw [meets_least (mono_faT (chG_dual hc hd)) hs, faT_cpl hc hd (cpl_lt s), cpl_cpl hs, Bool.not_not]

end Go.Proofs.Ytacophekhknbpaa
