/-
  Gates of a tree as plain data: which are right, what is wrong with a tree, which gates fail. A row of gates somewhere in memory, each with its row of numbers.
-/
import Derived.Test.YtacophekhknbpaaBxs
import Derived.Handy
import Derived.Deep.LoopGhost
import Derived.Deep.DeepCutAuto
import Derived.ProofKit
import Derived.Deep.QuietTactic
import Derived.BigQuiet
namespace Go.Proofs.Ytacophekhknbpaa
open Go.RowKit
set_option linter.unusedVariables false

/-- a gate: its kind, its number, and the numbers of those that it is made of -/
structure Gt where
  k : Int
  v : Int
  a : Option Addr
  n : Nat
  c : Nat
  of : Nat → Int

/-- has it a form? -/
def formV (k v : Int) (n : Nat) : Bool :=
  if k = 1 then decide (0 ≤ v) && (decide (v < 8) && decide (n = 0)) else if k = 2 then decide (v = 0) else if k = 3 then decide (v = 0) else if k = 4 then decide (0 ≤ v) && decide (v ≤ (n : Int) + 1) else false
/-- the first j numbers are those of gates ahead of the k-th -/
def okB (f : Nat → Int) (k : Nat) : Nat → Bool
  | 0 => true
  | j + 1 => okB f k j && (decide (0 ≤ f j) && decide (f j < (k : Int)))
/-- what is wrong with a gate that has k gates ahead of it -/
def geE (g : Gt) (k : Nat) : Int := if formV g.k g.v g.n = false then 4 else if 6 < g.n then 2 else if okB g.of k g.n then 0 else 4
/-- what is wrong with the first so many gates -/
def chR (t : Nat → Gt) : Nat → Int
  | 0 => 0
  | k + 1 => if chR t k = 0 then geE (t k) k else chR t k
/-- what Check tells -/
def chG (t : Nat → Gt) (n : Nat) : Int := if n < 1 ∨ 30 < n then 2 else chR t n

theorem okB_lt {f : Nat → Int} {k n j : Nat} (h : okB f k n = true) (hj : j < n) : 0 ≤ f j ∧ f j < (k : Int) := by
  induction n with
  | zero => omega
  | succ n ih =>
    simp only [okB, Bool.and_eq_true, decide_eq_true_eq] at h
    rcases (show j < n ∨ j = n by omega) with q | rfl
    · exact ih h.1 q
    · exact h.2
theorem okB_bad {f : Nat → Int} {k n j : Nat} (hj : j < n) (h : ¬ (0 ≤ f j ∧ f j < (k : Int))) : okB f k n = false := by
  cases e : okB f k n
  · rfl
  · exact absurd (okB_lt e hj) h
theorem chR_of_later {t : Nat → Gt} {k n : Nat} (h : chR t n = 0) (hk : k ≤ n) : chR t k = 0 := by
  induction n with
  | zero =>
    obtain rfl : k = 0 := by omega
    exact h
  | succ n ih =>
    have e : chR t (n + 1) = if chR t n = 0 then geE (t n) n else chR t n := rfl
    rw [e] at h
    split at h
    · rename_i q
      rcases (show k ≤ n ∨ k = n + 1 by omega) with z | rfl
      · exact ih q z
      · rw [e, if_pos q, h]
    · rename_i q
      exact absurd h q
theorem chR_gate {t : Nat → Gt} {k n : Nat} (h : chR t n = 0) (hk : k < n) : geE (t k) k = 0 := by
  have e : chR t (k + 1) = if chR t k = 0 then geE (t k) k else chR t k := rfl
  have h1 := chR_of_later h (show k + 1 ≤ n by omega)
  rw [e, if_pos (chR_of_later h (by omega))] at h1
  exact h1
theorem chR_bad {t : Nat → Gt} {k n : Nat} (h : chR t k = 0) (hk : k < n) (h1 : geE (t k) k ≠ 0) : chR t n = geE (t k) k := by
  obtain ⟨d, rfl⟩ : ∃ d, n = k + 1 + d := ⟨n - (k + 1), by omega⟩
  induction d with
  | zero =>
    show (if chR t k = 0 then geE (t k) k else chR t k) = _
    rw [if_pos h]
  | succ d ih =>
    have i1 := ih (by omega)
    show (if chR t (k + 1 + d) = 0 then _ else chR t (k + 1 + d)) = _
    rw [i1, if_neg h1]
theorem chG_zero {t : Nat → Gt} {n : Nat} (h : chG t n = 0) : 1 ≤ n ∧ n ≤ 30 ∧ ∀ k, k < n → geE (t k) k = 0 := by
  unfold chG at h
  split at h
  · cases h
  · exact ⟨by omega, by omega, fun k hk => chR_gate h hk⟩
theorem chG_of {t : Nat → Gt} {n : Nat} (h1 : 1 ≤ n) (h2 : n ≤ 30) (h : ∀ k, k < n → geE (t k) k = 0) : chG t n = 0 := by
  unfold chG
  rw [if_neg (by omega)]
  clear h1 h2
  induction n with
  | zero => rfl
  | succ n ih =>
    show (if chR t n = 0 then geE (t n) n else chR t n) = 0
    rw [if_pos (ih fun k hk => h k (by omega)), h n (by omega)]
theorem geE_zero {g : Gt} {k : Nat} (h : geE g k = 0) : formV g.k g.v g.n = true ∧ g.n ≤ 6 ∧ ∀ j, j < g.n → 0 ≤ g.of j ∧ g.of j < (k : Int) := by
  unfold geE at h
  split at h
  · cases h
  · rename_i q
    split at h
    · cases h
    · split at h
      · rename_i q2
        exact ⟨by simpa using q, by omega, fun j hj => okB_lt q2 hj⟩
      · cases h
theorem formV_kinds {k v : Int} {n : Nat} (h : formV k v n = true) : (k = 1 ∧ 0 ≤ v ∧ v < 8 ∧ n = 0) ∨ (k = 2 ∧ v = 0) ∨ (k = 3 ∧ v = 0) ∨ (k = 4 ∧ 0 ≤ v ∧ v ≤ (n : Int) + 1) := by
  unfold formV at h
  repeat' split at h
  all_goals simp only [Bool.and_eq_true, decide_eq_true_eq, Bool.false_eq_true] at h
  all_goals omega
theorem form_cases (k v : Int) (n : Nat) :
    (k = 1 ∧ v < 0 ∧ formV k v n = false) ∨ (k = 1 ∧ ¬ v < 0 ∧ 7 < v ∧ formV k v n = false) ∨ (k = 1 ∧ ¬ v < 0 ∧ ¬ 7 < v ∧ (((n : Int) == 0) = false) ∧ formV k v n = false) ∨ (k = 1 ∧ ¬ v < 0 ∧ ¬ 7 < v ∧ n = 0 ∧ formV k v n = true) ∨
    (k = 2 ∧ v = 0 ∧ formV k v n = true) ∨ (k = 2 ∧ ((v == 0) = false) ∧ formV k v n = false) ∨ (k = 3 ∧ v = 0 ∧ formV k v n = true) ∨ (k = 3 ∧ ((v == 0) = false) ∧ formV k v n = false) ∨
    (k = 4 ∧ v < 0 ∧ formV k v n = false) ∨ (k = 4 ∧ ¬ v < 0 ∧ (n : Int) + 1 < v ∧ formV k v n = false) ∨ (k = 4 ∧ ¬ v < 0 ∧ v ≤ (n : Int) + 1 ∧ formV k v n = true) ∨
    (((k == 1) = false) ∧ ((k == 2) = false) ∧ ((k == 3) = false) ∧ ((k == 4) = false) ∧ formV k v n = false) := by
  by_cases h1 : k = 1
  · subst h1
    by_cases a : v < 0
    · exact Or.inl ⟨rfl, a, by simp [formV]; omega⟩
    · by_cases b : 7 < v
      · exact Or.inr (Or.inl ⟨rfl, a, b, by simp [formV]; omega⟩)
      · by_cases c : n = 0
        · exact Or.inr (Or.inr (Or.inr (Or.inl ⟨rfl, a, b, c, by simp [formV]; omega⟩)))
        · exact Or.inr (Or.inr (Or.inl ⟨rfl, a, b, by simpa using c, by simp [formV]; omega⟩))
  · by_cases h2 : k = 2
    · subst h2
      by_cases c : v = 0
      · exact Or.inr (Or.inr (Or.inr (Or.inr (Or.inl ⟨rfl, c, by simp [formV, c]⟩))))
      · exact Or.inr (Or.inr (Or.inr (Or.inr (Or.inr (Or.inl ⟨rfl, by simpa using c, by simp [formV, c]⟩)))))
    · by_cases h3 : k = 3
      · subst h3
        by_cases c : v = 0
        · exact Or.inr (Or.inr (Or.inr (Or.inr (Or.inr (Or.inr (Or.inl ⟨rfl, c, by simp [formV, c]⟩))))))
        · exact Or.inr (Or.inr (Or.inr (Or.inr (Or.inr (Or.inr (Or.inr (Or.inl ⟨rfl, by simpa using c, by simp [formV, c]⟩)))))))
      · by_cases h4 : k = 4
        · subst h4
          by_cases a : v < 0
          · exact Or.inr (Or.inr (Or.inr (Or.inr (Or.inr (Or.inr (Or.inr (Or.inr (Or.inl ⟨rfl, a, by simp [formV]; omega⟩))))))))
          · by_cases b : (n : Int) + 1 < v
            · exact Or.inr (Or.inr (Or.inr (Or.inr (Or.inr (Or.inr (Or.inr (Or.inr (Or.inr (Or.inl ⟨rfl, a, b, by simp [formV]; omega⟩)))))))))
            · exact Or.inr (Or.inr (Or.inr (Or.inr (Or.inr (Or.inr (Or.inr (Or.inr (Or.inr (Or.inr (Or.inl ⟨rfl, a, by omega, by simp [formV]; omega⟩))))))))))
        · exact Or.inr (Or.inr (Or.inr (Or.inr (Or.inr (Or.inr (Or.inr (Or.inr (Or.inr (Or.inr (Or.inr ⟨by simpa using h1, by simpa using h2, by simpa using h3, by simpa using h4, by simp [formV, h1, h2, h3, h4]⟩))))))))))

/-- n numbers that lie one behind another in memory that is there; or none -/
def RI (w : World) (a : Option Addr) (n : Nat) (f : Nat → Int) : Prop := 0 < n → ∃ b o, a = some ⟨b, o, none⟩ ∧ b < w.heap.size ∧ ∀ j, j < n → w.cell? ⟨b, o + j, none⟩ = some (.int .i64 (f j))
theorem RI.step {w w' : World} {a : Option Addr} {n : Nat} {f : Nat → Int} (h : RI w a n f) (hb : Below w.heap.size w w') : RI w' a n f := fun hn => by
  obtain ⟨b, o, rfl, h1, h2⟩ := h hn
  exact ⟨b, o, rfl, Nat.lt_of_lt_of_le h1 hb.size, fun j hj => (hb.cell (p := ⟨b, o + j, none⟩) h1).trans (h2 j hj)⟩
/-- a gate lies there -/
structure GAt (w : World) (b o : Nat) (g : Gt) : Prop where
  hk : w.cell? ⟨b, o, none⟩ = some (.int .i64 g.k)
  hv : w.cell? ⟨b, o + 1, none⟩ = some (.int .i64 g.v)
  hs : w.cell? ⟨b, o + 2, none⟩ = some (.slice g.a g.n g.c)
theorem GAt.step {w w' : World} {b o : Nat} {g : Gt} (h : GAt w b o g) (hb : Below w.heap.size w w') (hl : b < w.heap.size) : GAt w' b o g :=
  ⟨(hb.cell (p := ⟨b, o, none⟩) hl).trans h.hk, (hb.cell (p := ⟨b, o + 1, none⟩) hl).trans h.hv, (hb.cell (p := ⟨b, o + 2, none⟩) hl).trans h.hs⟩
/-- what numbers and sizes it may have -/
structure GW (g : Gt) : Prop where
  small : g.n * 8 ≤ 140737488351232
  lo : -9223372036854775808 ≤ g.v
  hi : g.v ≤ 9223372036854775807
/-- n gates that lie one behind another in memory that is there, each with its row of numbers; or none -/
structure RowG (w : World) (a : Option Addr) (n : Nat) (t : Nat → Gt) : Prop where
  row : 0 < n → ∃ b o, a = some ⟨b, o, none⟩ ∧ b < w.heap.size ∧ ∀ j, j < n → GAt w b (o + j * 3) (t j)
  of : ∀ j, j < n → RI w (t j).a (t j).n (t j).of
  ok : ∀ j, j < n → GW (t j)
theorem RowG.step {w w' : World} {a : Option Addr} {n : Nat} {t : Nat → Gt} (h : RowG w a n t) (hb : Below w.heap.size w w') : RowG w' a n t :=
  ⟨fun hn => by
    obtain ⟨b, o, rfl, h1, h2⟩ := h.row hn
    exact ⟨b, o, rfl, Nat.lt_of_lt_of_le h1 hb.size, fun j hj => (h2 j hj).step hb h1⟩, fun j hj => (h.of j hj).step hb, h.ok⟩
theorem gbox (w : World) (x : Obj) : Below w.heap.size w (w.alloc x) := (Below.refl _ w).alloc (Nat.le_refl _) _
theorem gbelow_drew {K : Nat} {w w' : World} (h : Below K w w') (d : Nat) : Below K w (w'.drewN d) := h.trans ⟨rfl, rfl, rfl, Nat.le_refl _, fun _ _ => rfl⟩

end Go.Proofs.Ytacophekhknbpaa
