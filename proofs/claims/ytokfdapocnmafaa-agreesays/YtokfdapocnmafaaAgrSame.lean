/-
  Plain facts: whoever of four lies, all others take the same for each lane's number, and the right one of each that doesn't lie.
-/
import Derived.Test.YtokfdapocnmafaaAgrPlain
namespace Go.Proofs.Ytokfdapocnmafaa
open Go.RowKit
set_option linter.unusedVariables false

theorem maj3_12 (a b c : Int) : maj3 a b c = maj3 b a c := by
  unfold maj3
  by_cases h1 : a = b
  · subst h1; rfl
  · have h1' : ¬ b = a := fun h => h1 h.symm
    rw [if_neg h1, if_neg h1']
    by_cases h2 : a = c
    · have h3 : ¬ b = c := fun h => h1 (h2.trans h.symm)
      rw [if_pos h2, if_neg h3, if_pos h2]
    · rw [if_neg h2]
      by_cases h3 : b = c
      · rw [if_pos h3, if_pos h3]
      · rw [if_neg h3, if_neg h3, if_neg h2]
theorem maj3_23 (a b c : Int) : maj3 a b c = maj3 a c b := by
  unfold maj3
  by_cases h1 : a = b
  · subst h1
    by_cases h2 : a = c
    · subst h2; rfl
    · rw [if_pos rfl, if_neg h2, if_pos rfl]
  · rw [if_neg h1]
    by_cases h2 : a = c
    · rw [if_pos h2, if_pos h2]
    · rw [if_neg h2, if_neg h2, if_neg h1]
      by_cases h3 : b = c
      · subst h3; rfl
      · rw [if_neg h3, if_neg (fun h => h3 h.symm)]
theorem maj3_two {a b c x : Int} (h : (a = x ∧ b = x) ∨ (a = x ∧ c = x) ∨ (b = x ∧ c = x)) : maj3 a b c = x := by
  unfold maj3
  rcases h with ⟨h1, h2⟩ | ⟨h1, h2⟩ | ⟨h1, h2⟩
  · rw [if_pos (h1.trans h2.symm)]; exact h1
  · by_cases h : a = b
    · rw [if_pos h]; exact h1
    · rw [if_neg h, if_pos (h1.trans h2.symm)]; exact h1
  · by_cases h : a = b
    · rw [if_pos h]; exact h.trans h1
    · rw [if_neg h, if_neg (fun q => h (q.trans (h2.trans h1.symm))), if_pos (h1.trans h2.symm)]; exact h1
theorem vw_own (G : Nat → Int) (k : Nat) : vw G k k = said G k k := if_pos rfl
theorem vw_else (G : Nat → Int) {k i : Nat} (h : i ≠ k) : vw G k i = maj3 (said G i k) (told G i (oth1 i k) k) (told G i (oth2 i k) k) := if_neg h
theorem tk_said {v s D G : Nat → Int} {L : Int} (h : Tk v s D L G) {i k : Nat} (hi : i < 4) (hk : k < 4) (h1 : (i : Int) ≠ L) : said G i k = v i := by
  show G (i * 4 + k) = _
  rw [h.said i k hi hk, if_neg (fun q => h1 q.1)]
theorem tk_told {v s D G : Nat → Int} {L : Int} (h : Tk v s D L G) {i j k : Nat} (hi : i < 4) (hj : j < 4) (hk : k < 4) (h1 : (j : Int) ≠ L) : told G i j k = said G i j := by
  show G (16 + i * 16 + j * 4 + k) = G (i * 4 + j)
  rw [h.told i j k hi hj hk, if_neg h1]
/-- the right number of each that doesn't lie -/
theorem tk_right {v s D G : Nat → Int} {L : Int} (h : Tk v s D L G) {i k : Nat} (hi : i < 4) (hk : k < 4) (h1 : (i : Int) ≠ L) : vw G k i = v i := by
  by_cases e : i = k
  · subst e
    rw [vw_own, tk_said h hi hi h1]
  · rw [vw_else G e]
    have hl := oth_lt i k
    have ho := oth_ok hi hk e
    apply maj3_two
    by_cases e1 : (oth1 i k : Int) = L
    · right; left
      exact ⟨tk_said h hi hk h1, (tk_told h hi hl.2 hk (by omega)).trans (tk_said h hi hl.2 h1)⟩
    · left
      exact ⟨tk_said h hi hk h1, (tk_told h hi hl.1 hk e1).trans (tk_said h hi hl.1 h1)⟩
/-- of the liar -/
theorem tk_liar {v s D G : Nat → Int} {L : Int} (h : Tk v s D L G) {i k : Nat} (hi : i < 4) (hk : k < 4) (h1 : (i : Int) = L) (h2 : i ≠ k) : vw G k i = maj3 (s k) (s (oth1 i k)) (s (oth2 i k)) := by
  have hl := oth_lt i k
  have ho := oth_ok hi hk h2
  have q : ∀ j, j < 4 → j ≠ i → said G i j = s j := fun j hj hji => by
    show G (i * 4 + j) = _
    rw [h.said i j hi hj, if_pos ⟨h1, hji⟩]
  rw [vw_else G h2, q k hk (fun e => h2 e.symm), tk_told h hi hl.1 hk (by omega), q _ hl.1 ho.1, tk_told h hi hl.2 hk (by omega), q _ hl.2 ho.2.2.1]
/-- all others have the same view -/
theorem tk_same {v s D G : Nat → Int} {L : Int} (h : Tk v s D L G) {i k k' : Nat} (hi : i < 4) (hk : k < 4) (hk' : k' < 4) (h1 : (k : Int) ≠ L) (h2 : (k' : Int) ≠ L) : vw G k i = vw G k' i := by
  by_cases e : (i : Int) = L
  · rw [tk_liar h hi hk e (by omega), tk_liar h hi hk' e (by omega)]
    have a1 : i ≠ k := by omega
    have a2 : i ≠ k' := by omega
    clear e h1 h2 h
    obtain rfl | rfl | rfl | rfl := four hi <;> obtain rfl | rfl | rfl | rfl := four hk <;> obtain rfl | rfl | rfl | rfl := four hk' <;>
      first
      | exact absurd rfl a1
      | exact absurd rfl a2
      | rfl
      | exact maj3_12 _ _ _
      | exact maj3_23 _ _ _
      | exact (maj3_12 _ _ _).trans (maj3_23 _ _ _)
      | exact (maj3_23 _ _ _).trans (maj3_12 _ _ _)
      | exact (maj3_12 _ _ _).trans ((maj3_23 _ _ _).trans (maj3_12 _ _ _))
  · rw [tk_right h hi hk e, tk_right h hi hk' e]

/-- the talk, the numbers -/
structure Sx (w : World) (bt : Nat) (v G : Nat → Int) (wr : World) : Prop where
  tb : TB wr bt G
  bv : RB wr w.heap.size 4 v
  bel : Below w.heap.size w wr
theorem Sx.step {w w1 w2 : World} {bt : Nat} {v G : Nat → Int} (h : Sx w bt v G w1) (hb : Below w1.heap.size w1 w2) : Sx w bt v G w2 := ⟨Blk.step h.tb hb, Blk.step h.bv hb, h.bel.trans (hb.mono h.bel.size)⟩
theorem Sx.alloc {w w1 : World} {bt : Nat} {v G : Nat → Int} (h : Sx w bt v G w1) (x : Obj) : Sx w bt v G (w1.alloc x) := h.step ((Below.refl _ w1).alloc (Nat.le_refl _) _)
theorem Sx.drewN {w w1 : World} {bt : Nat} {v G : Nat → Int} (h : Sx w bt v G w1) (d : Nat) : Sx w bt v G (w1.drewN d) := h.step ⟨rfl, rfl, rfl, Nat.le_refl _, fun _ _ => rfl⟩
theorem Blk.drewN {w : World} {b n : Nat} {f : Nat → Value} (h : Blk w b n f) (d : Nat) : Blk (w.drewN d) b n f := h.step ⟨rfl, rfl, rfl, Nat.le_refl _, fun _ _ => rfl⟩

end Go.Proofs.Ytokfdapocnmafaa
