/-
  The document's own View: words one by one, and their majority.
-/
import Derived.Test.YtokfdapocnmafaaAgrMid
import Derived.Test.YtokfdapocnmafaaAgrSame
namespace Go.Proofs.Ytokfdapocnmafaa
open Go.RowKit
set_option linter.unusedVariables false

/-- lane k's words of lane i: from whom, and what -/
def wok (k i : Nat) : Nat → Bool := fun j => if i = k then decide (j = k) else !(decide (j = k))
def wvl (T : Nat → Int) (k i : Nat) : Nat → Int := fun j => if j = i then said T i k else told T i j k
theorem Maj.as {l l' : Nat → Int} {n : Nat} {m E : Int} (h : Maj l n m E) (e : ∀ j, j < n → l j = l' j) : Maj l' n m E := by
  rcases h with ⟨h1, h2⟩ | ⟨h1, h2, h3⟩
  · exact Or.inl ⟨h1, by rw [← cnt_congr n e]; exact h2⟩
  · exact Or.inr ⟨h1, h2, fun x => by rw [← cnt_congr n e]; exact h3 x⟩
theorem maj_three {a b c m : Int} (h : maj3 a b c = m) : ∃ E, Maj (fun t => [a, b, c].getD t 0) 3 m E := by
  subst h
  refine ⟨_, (maj3_maj a b c).as fun j hj => ?_⟩
  rcases j with _ | _ | _ | j
  · rfl
  · rfl
  · rfl
  · omega
theorem words3 (T : Nat → Int) {k i : Nat} (hk : k < 4) (hi : i < 4) (h : i ≠ k) : ∃ a b c, pick (wvl T k i) (wok k i) 4 = [a, b, c] ∧ maj3 a b c = vw T k i := by
  rw [vw_else T h]
  obtain rfl | rfl | rfl | rfl := four hi <;> obtain rfl | rfl | rfl | rfl := four hk
  all_goals clear hi hk
  · exact absurd rfl h
  · exact ⟨said T 0 1, told T 0 2 1, told T 0 3 1, by simp [pick, wvl, wok], rfl⟩
  · exact ⟨said T 0 2, told T 0 1 2, told T 0 3 2, by simp [pick, wvl, wok], rfl⟩
  · exact ⟨said T 0 3, told T 0 1 3, told T 0 2 3, by simp [pick, wvl, wok], rfl⟩
  · exact ⟨said T 1 0, told T 1 2 0, told T 1 3 0, by simp [pick, wvl, wok], rfl⟩
  · exact absurd rfl h
  · exact ⟨told T 1 0 2, said T 1 2, told T 1 3 2, by simp [pick, wvl, wok], maj3_12 _ _ _⟩
  · exact ⟨told T 1 0 3, said T 1 3, told T 1 2 3, by simp [pick, wvl, wok], maj3_12 _ _ _⟩
  · exact ⟨told T 2 1 0, said T 2 0, told T 2 3 0, by simp [pick, wvl, wok], maj3_12 _ _ _⟩
  · exact ⟨told T 2 0 1, said T 2 1, told T 2 3 1, by simp [pick, wvl, wok], maj3_12 _ _ _⟩
  · exact absurd rfl h
  · exact ⟨told T 2 0 3, told T 2 1 3, said T 2 3, by simp [pick, wvl, wok], (maj3_23 _ _ _).trans (maj3_12 _ _ _)⟩
  · exact ⟨told T 3 1 0, told T 3 2 0, said T 3 0, by simp [pick, wvl, wok], (maj3_23 _ _ _).trans (maj3_12 _ _ _)⟩
  · exact ⟨told T 3 0 1, told T 3 2 1, said T 3 1, by simp [pick, wvl, wok], (maj3_23 _ _ _).trans (maj3_12 _ _ _)⟩
  · exact ⟨told T 3 0 2, told T 3 1 2, said T 3 2, by simp [pick, wvl, wok], (maj3_23 _ _ _).trans (maj3_12 _ _ _)⟩
  · exact absurd rfl h
/-- their majority is what lane k takes -/
theorem words_maj (T : Nat → Int) {k i : Nat} (hk : k < 4) (hi : i < 4) : (pick (wvl T k i) (wok k i) 4).length ≤ 64 ∧ ∃ E, Maj (kept (wvl T k i) (wok k i) 4) (pick (wvl T k i) (wok k i) 4).length (vw T k i) E := by
  refine ⟨Nat.le_trans (pick_le _ _ 4) (by omega), ?_⟩
  by_cases h : i = k
  · subst h
    have e : pick (wvl T i i) (wok i i) 4 = [said T i i] := by
      obtain rfl | rfl | rfl | rfl := four hi <;> rfl
    unfold kept
    rw [e, vw_own]
    refine ⟨0, Or.inl ⟨rfl, ?_⟩⟩
    show 1 < 2 * cnt (eqI (said T i i)) _ 1
    rw [cnt_succ, if_pos (by simp [eqI]), cnt_zero]
    omega
  · obtain ⟨a, b, c, e, hm⟩ := words3 T hk hi h
    unfold kept
    rw [e]
    exact maj_three hm

end Go.Proofs.Ytokfdapocnmafaa
