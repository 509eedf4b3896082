/-
  Boxes: five at once; two, four cells stored into one of them.
-/
import Derived.Test.YtihcioghbidblaaBxs
namespace Go.Proofs.Ytihcioghbidblaa
open Go.RowKit

theorem bxsV (w : World) (a b c d e : Array Value) (t1 t2 t3 t4 t5 : TypeId) : Bxs w [(w.heap.size, a.toList), (w.heap.size + 1, b.toList), (w.heap.size + 1 + 1, c.toList), (w.heap.size + 1 + 1 + 1, d.toList), (w.heap.size + 1 + 1 + 1 + 1, e.toList)] (((((w.alloc (.cells a t1)).alloc (.cells b t2)).alloc (.cells c t3)).alloc (.cells d t4)).alloc (.cells e t5)) := by
  have := (((((bxs_nil w).push a t1).push b t2).push c t3).push d t4).push e t5
  simp only [lay_size] at this
  exact this
theorem bxsII (w : World) (a b : Array Value) (t1 t2 : TypeId) : Bxs w [(w.heap.size, a.toList), (w.heap.size + 1, b.toList)] ((w.alloc (.cells a t1)).alloc (.cells b t2)) := by
  have := ((bxs_nil w).push a t1).push b t2
  simp only [lay_size] at this
  exact this
theorem bxsIII (w : World) (a b c : Array Value) (t1 t2 t3 : TypeId) : Bxs w [(w.heap.size, a.toList), (w.heap.size + 1, b.toList), (w.heap.size + 1 + 1, c.toList)] (((w.alloc (.cells a t1)).alloc (.cells b t2)).alloc (.cells c t3)) := by
  have := (((bxs_nil w).push a t1).push b t2).push c t3
  simp only [lay_size] at this
  exact this
theorem Bxs.to2 {w : World} {L : List (Nat × List Value)} {W : World} (h : Bxs w L W) (i b : Nat) {a0 a1 : Value} (v0 v1 : Value) (hi : L[i]? = some (b, [a0, a1])) :
    ∃ w3, ((W.setCell ⟨b, 0, none⟩ v0).setCell ⟨b, 1, none⟩ v1) = w3 ∧ Bxs w (L.set i (b, [v0, v1])) w3 :=
  ⟨_, rfl, (h.set i b 0 [a0, a1] v0 hi (by simp)).again (j := 1) v1 hi (by simp)⟩
theorem Bxs.to4 {w : World} {L : List (Nat × List Value)} {W : World} (h : Bxs w L W) (i b : Nat) {a0 a1 a2 a3 : Value} (v0 v1 v2 v3 : Value) (hi : L[i]? = some (b, [a0, a1, a2, a3])) :
    ∃ w3, ((((W.setCell ⟨b, 0, none⟩ v0).setCell ⟨b, 1, none⟩ v1).setCell ⟨b, 2, none⟩ v2).setCell ⟨b, 3, none⟩ v3) = w3 ∧ Bxs w (L.set i (b, [v0, v1, v2, v3])) w3 :=
  ⟨_, rfl, (((h.set i b 0 [a0, a1, a2, a3] v0 hi (by simp)).again (j := 1) v1 hi (by simp)).again (j := 2) v2 hi (by simp)).again (j := 3) v3 hi (by simp)⟩

end Go.Proofs.Ytihcioghbidblaa
