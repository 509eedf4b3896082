/-
  Boxes: a block of memory and the values in it, as a list; what leaves it as it was, what a store makes of it.
-/
import Derived.Test.YtacophekhknbpaaRows
import Derived.WalkKit
import Derived.Below
namespace Go.Proofs.Ytacophekhknbpaa
open Go.RowKit

/-- in block b lie these values, and they may be written over -/
structure Cells (w : World) (b : Nat) (vs : List Value) : Prop where
  lt : b < w.heap.size
  cell : ∀ j v, vs[j]? = some v → w.cell? ⟨b, j, none⟩ = some v
  froz : ∀ j v, vs[j]? = some v → w.frozen? ⟨b, j, none⟩ = false

theorem Cells.later {w w' : World} {b K : Nat} {vs : List Value} (h : Cells w b vs) (hb : Below K w w') (hK : b < K) : Cells w' b vs :=
  ⟨Nat.lt_of_lt_of_le h.lt hb.size, fun j v hj => (hb.cell (p := ⟨b, j, none⟩) hK).trans (h.cell j v hj), fun j v hj => (hb.frozen (p := ⟨b, j, none⟩) hK).trans (h.froz j v hj)⟩
theorem Cells.step {w w' : World} {b : Nat} {vs : List Value} (h : Cells w b vs) (hb : Below w.heap.size w w') : Cells w' b vs := h.later hb h.lt
theorem Cells.alloc {w : World} {b : Nat} {vs : List Value} (h : Cells w b vs) (x : Obj) : Cells (w.alloc x) b vs := h.step ((Below.refl _ w).alloc (Nat.le_refl _) _)
theorem Cells.drew {w : World} {b : Nat} {vs : List Value} (h : Cells w b vs) : Cells w.drew b vs := h.step (Below.refl _ w).drew
theorem Cells.other {w : World} {b q j : Nat} {vs : List Value} (h : Cells w b vs) (hq : q ≠ b) (v : Value) : Cells (w.setCell ⟨q, j, none⟩ v) b vs :=
  ⟨by simp [World.setCell]; exact h.lt, fun i u hi => by rw [World.cell?_setCell_other _ _ _ _ (by simp <;> omega)]; exact h.cell i u hi, fun i u hi => by rw [World.frozen?_setCell]; exact h.froz i u hi⟩
theorem Cells.set {w : World} {b j : Nat} {vs : List Value} (h : Cells w b vs) (hj : j < vs.length) (v : Value) : Cells (w.setCell ⟨b, j, none⟩ v) b (vs.set j v) := by
  refine ⟨by simp [World.setCell]; exact h.lt, fun i u hi => ?_, fun i u hi => ?_⟩
  · rw [List.getElem?_set] at hi
    split at hi
    · rename_i e
      subst e
      cases hi
      exact World.cell?_setCell_same _ _ _ (h.cell j _ (List.getElem?_eq_getElem hj))
    · rename_i e
      rw [World.cell?_setCell_other _ _ _ _ (by simp <;> omega)]
      exact h.cell i u hi
  · have hl : i < vs.length := by
      have := (List.getElem?_eq_some_iff.1 hi).1
      simpa using this
    rw [World.frozen?_setCell]
    exact h.froz i _ (List.getElem?_eq_getElem hl)
theorem cells_new (w : World) (vs : Array Value) (t : TypeId) : Cells (w.alloc (.cells vs t)) w.heap.size vs.toList := by
  refine ⟨by simp, fun j v hj => ?_, fun j v hj => ?_⟩
  · rw [Array.getElem?_toList] at hj
    go_simp
  · go_simp

end Go.Proofs.Ytacophekhknbpaa
