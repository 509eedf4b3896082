/-
  How many times each bit was turned over, as the map that counts it; what a walk over its entries, in whatever order, adds up.
-/
import Derived.Test.YtllhceopllpajaaCrcFewP
import Derived.Test.YtllhceopllpajaaRows
import Derived.WalkKit
import Derived.Maps.Own
import Derived.Maps.OwnOps
import Derived.Maps.OwnSet
import Derived.Maps.RangeWalk
namespace Go.Proofs.Ytllhceopllpajaa
open Go.RowKit Go.Maps
set_option linter.unusedVariables false

/-- a map from bits to how many times -/
structure Mp (N j : Nat) (c : Nat → Nat) (D : DataW Unit) : Prop where
  at_ : ∀ k : Nat, k < N → D.atKey (.int .i64 k) (.lit (.int .i64 0)) = .lit (.int .i64 (c k : Nat))
  le : ∀ k, c k ≤ j
  keys : ∀ kl, Maps.has D kl = true → ∃ k : Nat, k < N ∧ kl = .int .i64 k

theorem Mp.none (N : Nat) : Mp N 0 (fun _ => 0) (.map []) := ⟨fun k hk => rfl, fun _ => Nat.le_refl _, fun kl h => by cases h⟩
theorem key_ne {a b : Nat} (h : a ≠ b) : (Lit.int .i64 (a : Int)) ≠ .int .i64 (b : Int) := fun e => h (by injection e with _ e2; omega)
theorem Mp.put {N j : Nat} {c : Nat → Nat} {D : DataW Unit} (h : Mp N j c D) (hD : IsMap D) (a : Nat) (ha : a < N) : Mp N (j + 1) (more c a) (D.put (.int .i64 a) (.lit (.int .i64 ((c a : Nat) + 1 : Int)))) := by
  refine ⟨fun k hk => ?_, fun k => ?_, fun kl hkl => ?_⟩
  · by_cases e : k = a
    · subst e
      rw [atKey_put_same hD (show WideAt.IsKeyLit (.int .i64 (k : Int)) from trivial)]
      unfold more
      rw [if_pos rfl]
      rfl
    · rw [atKey_put_other (key_ne e), h.at_ k hk]
      unfold more
      rw [if_neg e]
  · have := h.le k
    have := h.le a
    unfold more
    split <;> omega
  · by_cases e : kl = .int .i64 (a : Int)
    · exact ⟨a, ha, e⟩
    · rw [has_put_other e] at hkl
      exact h.keys kl hkl

/-- of the first m bits: those whose entry has come, added up -/
def vs (D : DataW Unit) (left : Lit → Bool) (c : Nat → Nat) : Nat → Nat
  | 0 => 0
  | m + 1 => vs D left c m + cond (Maps.has D (.int .i64 (m : Nat)) && !left (.int .i64 (m : Nat))) (c m % 2) 0
theorem vs_le (D : DataW Unit) (left : Lit → Bool) (c : Nat → Nat) (m : Nat) : vs D left c m ≤ m := by
  induction m with
  | zero => exact Nat.le_refl _
  | succ m ih =>
    simp only [vs]
    cases (Maps.has D (.int .i64 (m : Nat)) && !left (.int .i64 (m : Nat)))
    · simp only [cond_false]; omega
    · simp only [cond_true]; omega
theorem vs_start (D : DataW Unit) (c : Nat → Nat) (m : Nat) : vs D (Maps.has D) c m = 0 := by
  induction m with
  | zero => rfl
  | succ m ih =>
    simp only [vs, ih]
    cases Maps.has D (.int .i64 (m : Nat)) <;> rfl
theorem vs_far (D : DataW Unit) (left : Lit → Bool) (c : Nat → Nat) (a m : Nat) (h : m ≤ a) : vs D (fun z => left z && !z.sameKey (.int .i64 (a : Int))) c m = vs D left c m := by
  induction m with
  | zero => rfl
  | succ m ih =>
    simp only [vs]
    rw [ih (by omega), sameKey_ne (key_ne (show m ≠ a by omega)), Bool.not_false, Bool.and_true]
theorem vs_step (D : DataW Unit) (left : Lit → Bool) (c : Nat → Nat) (a m : Nat) (h : a < m) (hl : left (.int .i64 (a : Int)) = true) (hh : Maps.has D (.int .i64 (a : Int)) = true) :
    vs D (fun z => left z && !z.sameKey (.int .i64 (a : Int))) c m = vs D left c m + c a % 2 := by
  induction m with
  | zero => omega
  | succ m ih =>
    simp only [vs]
    rcases Nat.lt_or_ge a m with g | g
    · rw [ih g, sameKey_ne (key_ne (show m ≠ a by omega)), Bool.not_false, Bool.and_true]
      omega
    · have e : a = m := by omega
      subst e
      have hs : (Lit.int .i64 (a : Int)).sameKey (.int .i64 (a : Int)) = true := WideAt.sameKey_self trivial
      rw [vs_far D left c a a (Nat.le_refl _), hs, hl, hh]
      simp
theorem vs_end {N j : Nat} {c : Nat → Nat} {D : DataW Unit} (h : Mp N j c D) (left : Lit → Bool) (hl : ∀ kl, left kl = false) (m : Nat) (hm : m ≤ N) : vs D left c m = ON c m := by
  induction m with
  | zero => rfl
  | succ m ih =>
    simp only [vs, ON]
    rw [ih (by omega), hl]
    cases hh : Maps.has D (.int .i64 (m : Nat))
    · have e := h.at_ m (by omega)
      rw [atKey_of_not_has hh] at e
      have e2 : (c m : Int) = 0 := by injection e with e; injection e with _ e; exact e.symm
      have e3 : c m = 0 := by omega
      rw [e3]
      rfl
    · rfl

end Go.Proofs.Ytllhceopllpajaa
