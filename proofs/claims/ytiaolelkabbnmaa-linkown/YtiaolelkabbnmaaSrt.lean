/-
  The library's sort at numbers of 32 bits, its beginning: a row of the call's own, what a swap makes of it; which of two numbers is less; insertion sort.
-/
import Derived.Test.YtiaolelkabbnmaaRows
import Derived.WalkKit
import Derived.WalkSpells
import Derived.WalkLawsBesides
import Derived.OpenShut
import Derived.Below
import Derived.CellFam
import Derived.BigQuiet
import Derived.BigRegion
import Derived.BigCall
import Derived.BigGuard
import Derived.Deep.Draws
import Derived.Deep.QuietTactic
import Derived.Deep.LoopGhost
import Derived.Deep.Cut
import Derived.Sort.AssemblyPlain
namespace Go.Proofs.Ytiaolelkabbnmaa
open Go.RowKit

/-- since w0 nothing has turned below block N; from place off of block blk on, which is not below N, lie the n numbers d -/
structure Cur (N : Nat) (w0 : World) (blk off n : Nat) (d : Array Int) (w : World) : Prop where
  low : N ≤ blk
  lt : blk < w.heap.size
  size : d.size = n
  cell : ∀ t, t < n → w.cell? ⟨blk, off + t, none⟩ = some (.int .i32 d[t]!)
  froz : ∀ t, t < n → w.frozen? ⟨blk, off + t, none⟩ = false
  bel : Below N w0 w

theorem Cur.fam {N : Nat} {w0 : World} {blk off n : Nat} {d : Array Int} {w : World} (h : Cur N w0 blk off n d w) :
    ∃ G : Nat → Int, (∀ t, G t = d[t]!) ∧ (∀ t, t < n → w.cell? ⟨blk, off + t, none⟩ = some (.int .i32 (G t))) ∧ ∀ t, t < n → w.frozen? ⟨blk, off + t, none⟩ = false :=
  ⟨fun t => d[t]!, fun _ => rfl, h.cell, h.froz⟩
theorem Cur.drewN {N : Nat} {w0 : World} {blk off n : Nat} {d : Array Int} {w : World} (h : Cur N w0 blk off n d w) (q : Nat) : Cur N w0 blk off n d (w.drewN q) :=
  ⟨h.low, h.lt, h.size, h.cell, h.froz, ⟨h.bel.os, h.bel.tape, h.bel.output, h.bel.size, h.bel.block⟩⟩
/-- what turned only blocks from blk + 1 on leaves the row as it was -/
theorem Cur.later {N K : Nat} {w0 : World} {blk off n : Nat} {d : Array Int} {w w' : World} (h : Cur N w0 blk off n d w) (hb : Below K w w') (hK : blk < K) : Cur N w0 blk off n d w' :=
  ⟨h.low, Nat.lt_of_lt_of_le h.lt hb.size, h.size, fun t ht => (hb.cell (p := ⟨blk, off + t, none⟩) hK).trans (h.cell t ht), fun t ht => (hb.frozen (p := ⟨blk, off + t, none⟩) hK).trans (h.froz t ht), h.bel.trans (hb.mono (by have := h.low; omega))⟩
theorem Cur.swap {N : Nat} {w0 : World} {blk off n : Nat} {d : Array Int} {w : World} (h : Cur N w0 blk off n d w) {i j : Nat} (hi : i < n) (hj : j < n) {x y : Int} (hx : x = d[j]!) (hy : y = d[i]!) :
    Cur N w0 blk off n (Sort.swp d i j) ((w.setCell ⟨blk, off + i, none⟩ (.int .i32 x)).setCell ⟨blk, off + j, none⟩ (.int .i32 y)) := by
  subst hx hy
  have hs := h.size
  refine ⟨h.low, ?_, by rw [Sort.size_swp]; exact hs, fun t ht => ?_, fun t ht => ?_, (h.bel.setCell (p := ⟨blk, off + i, none⟩) h.low _).setCell (p := ⟨blk, off + j, none⟩) h.low _⟩
  · have := h.lt
    simp [World.setCell]
    exact this
  · have e1 : (w.setCell ⟨blk, off + i, none⟩ (.int .i32 d[j]!)).cell? ⟨blk, off + j, none⟩ = some (.int .i32 d[j]!) := by
      by_cases e : i = j
      · subst e; exact World.cell?_setCell_same _ _ _ (h.cell i hi)
      · rw [World.cell?_setCell_other _ _ _ _ (by simp <;> omega)]; exact h.cell j hj
    by_cases et : t = j
    · subst et
      rw [World.cell?_setCell_same _ _ _ e1, Sort.swp_right d i t (by omega)]
    · rw [World.cell?_setCell_other _ _ _ _ (by simp <;> omega)]
      by_cases ei : t = i
      · subst ei
        rw [World.cell?_setCell_same _ _ _ (h.cell t hi), Sort.swp_left d t j (by omega) et]
      · rw [World.cell?_setCell_other _ _ _ _ (by simp <;> omega), Sort.swp_other d i j t ei et]
        exact h.cell t ht
  · rw [World.frozen?_setCell, World.frozen?_setCell]
    exact h.froz t ht

/-! ### insertion sort, told by its tests -/
theorem inner_go {a j : Nat} {d : Array Int} (hj : a < j) (hl : Sort.ltInt d[j]! d[j - 1]! = true) : Sort.insInner Sort.ltInt a j d = Sort.insInner Sort.ltInt a (j - 1) (Sort.swp d j (j - 1)) := by
  obtain ⟨k, rfl⟩ : ∃ k, j = k + 1 := ⟨j - 1, by omega⟩
  rw [Nat.add_sub_cancel] at hl ⊢
  rw [Sort.insInner, if_pos (by simp [hl]; omega)]
theorem inner_end {a j : Nat} {d : Array Int} (h : j ≤ a ∨ Sort.ltInt d[j]! d[j - 1]! = false) : Sort.insInner Sort.ltInt a j d = d := by
  cases j with
  | zero => rfl
  | succ k =>
    rw [Nat.add_sub_cancel] at h
    rw [Sort.insInner, if_neg]
    intro c
    simp only [Bool.and_eq_true, decide_eq_true_eq] at c
    rcases h with h | h
    · omega
    · rw [h] at c; exact absurd c.2 (by decide)
theorem outer_go {a b i : Nat} {d : Array Int} (h : i < b) : Sort.insOuter Sort.ltInt a b i d = Sort.insOuter Sort.ltInt a b (i + 1) (Sort.insInner Sort.ltInt a i d) := by rw [Sort.insOuter, if_pos h]
theorem outer_end {a b i : Nat} {d : Array Int} (h : ¬ i < b) : Sort.insOuter Sort.ltInt a b i d = d := by rw [Sort.insOuter, if_neg h]

end Go.Proofs.Ytiaolelkabbnmaa
