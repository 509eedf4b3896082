/-
  Blocks that a function laid one after another: what lies in each, as a list of lists; what leaves them as they were, what a store makes of one.
-/
import Derived.Test.YtacophekhknbpaaBoxes
namespace Go.Proofs.Ytacophekhknbpaa
open Go.RowKit

theorem below_seq {w w1 w2 : World} (h : Below w.heap.size w w1) (h2 : Below w1.heap.size w1 w2) : Below w.heap.size w w2 := h.trans (h2.mono h.size)
/-- since w nothing that was there has turned; the i-th block that was laid since holds the i-th list -/
structure Lay (w : World) (L : List (List Value)) (W : World) : Prop where
  bel : Below w.heap.size w W
  blk : ∀ (i b : Nat) (vs : List Value), b = w.heap.size + i → L[i]? = some vs → Cells W b vs
theorem Lay.step {w : World} {L : List (List Value)} {W W' : World} (h : Lay w L W) (hb : Below W.heap.size W W') : Lay w L W' :=
  ⟨below_seq h.bel hb, fun i b vs e hi => (h.blk i b vs e hi).step hb⟩
theorem Lay.drew {w : World} {L : List (List Value)} {W : World} (h : Lay w L W) : Lay w L W.drew := h.step (Below.refl _ W).drew
theorem Lay.alloc {w : World} {L : List (List Value)} {W : World} (h : Lay w L W) (x : Obj) : Lay w L (W.alloc x) := h.step ((Below.refl _ W).alloc (Nat.le_refl _) _)
theorem lay_nil (w : World) : Lay w [] w := ⟨Below.refl _ w, fun i b vs e hi => by simp at hi⟩
theorem Lay.push {w : World} {L : List (List Value)} {W : World} (h : Lay w L W) (hs : W.heap.size = w.heap.size + L.length) (vs : Array Value) (t : TypeId) : Lay w (L ++ [vs.toList]) (W.alloc (.cells vs t)) := by
  refine ⟨h.bel.alloc (by omega) _, fun i b us e hi => ?_⟩
  by_cases q : i < L.length
  · rw [List.getElem?_append_left q] at hi
    exact (h.blk i b us e hi).alloc _
  · have z : i = L.length := by
      have := (List.getElem?_eq_some_iff.1 hi).1
      simp at this
      omega
    subst z
    rw [List.getElem?_append_right (Nat.le_refl _)] at hi
    simp at hi
    subst hi
    have := cells_new W vs t
    rw [hs, ← e] at this
    exact this
theorem Lay.other {w : World} {L : List (List Value)} {W : World} (h : Lay w L W) {b j : Nat} (hb : w.heap.size + L.length ≤ b) (v : Value) : Lay w L (W.setCell ⟨b, j, none⟩ v) := by
  refine ⟨h.bel.setCell (p := ⟨b, j, none⟩) (by simp; omega) _, fun i c us e hi => ?_⟩
  have := (List.getElem?_eq_some_iff.1 hi).1
  exact (h.blk i c us e hi).other (by omega) _
/-- a store into one of them -/
theorem Lay.set {w : World} {L : List (List Value)} {W : World} (h : Lay w L W) (i b j : Nat) (vs : List Value) (v : Value) (e : b = w.heap.size + i) (hi : L[i]? = some vs) (hj : j < vs.length) : Lay w (L.set i (vs.set j v)) (W.setCell ⟨b, j, none⟩ v) := by
  refine ⟨h.bel.setCell (p := ⟨b, j, none⟩) (by simp; omega) _, fun k c us ec hk => ?_⟩
  rw [List.getElem?_set] at hk
  split at hk
  · rename_i q
    subst q
    split at hk
    · cases hk
      rw [ec, ← e]
      exact (h.blk i b vs e hi).set hj v
    · cases hk
  · rename_i q
    exact (h.blk k c us ec hk).other (by omega) v
/-- two stores into one of them, one after another, are one list -/
theorem Lay.again {w : World} {L : List (List Value)} {W : World} {i b j : Nat} {us vs : List Value} (h : Lay w (L.set i us) W) (v : Value) (e : b = w.heap.size + i) (hi : L[i]? = some vs) (hj : j < us.length) : Lay w (L.set i (us.set j v)) (W.setCell ⟨b, j, none⟩ v) := by
  have hl := (List.getElem?_eq_some_iff.1 hi).1
  have := h.set i b j us v e (by rw [List.getElem?_set]; simp [hl]) hj
  rw [List.set_set] at this
  exact this
theorem Lay.put2 {w : World} {L : List (List Value)} {W : World} (h : Lay w L W) (i b : Nat) {a0 a1 : Value} (v0 v1 : Value) (e : b = w.heap.size + i) (hi : L[i]? = some [a0, a1]) :
    ∃ w3, ((W.setCell ⟨b, 0, none⟩ v0).setCell ⟨b, 1, none⟩ v1) = w3 ∧ Lay w (L.set i [v0, v1]) w3 :=
  ⟨_, rfl, (h.set i b 0 [a0, a1] v0 e hi (by simp)).again (j := 1) v1 e hi (by simp)⟩
theorem Lay.put5 {w : World} {L : List (List Value)} {W : World} (h : Lay w L W) (i b : Nat) {a0 a1 a2 a3 a4 : Value} (v0 v1 v2 v3 v4 : Value) (e : b = w.heap.size + i) (hi : L[i]? = some [a0, a1, a2, a3, a4]) :
    ∃ w3, (((((W.setCell ⟨b, 0, none⟩ v0).setCell ⟨b, 1, none⟩ v1).setCell ⟨b, 2, none⟩ v2).setCell ⟨b, 3, none⟩ v3).setCell ⟨b, 4, none⟩ v4) = w3 ∧ Lay w (L.set i [v0, v1, v2, v3, v4]) w3 :=
  ⟨_, rfl, ((((h.set i b 0 [a0, a1, a2, a3, a4] v0 e hi (by simp)).again (j := 1) v1 e hi (by simp)).again (j := 2) v2 e hi (by simp)).again (j := 3) v3 e hi (by simp)).again (j := 4) v4 e hi (by simp)⟩
theorem Lay.put10 {w : World} {L : List (List Value)} {W : World} (h : Lay w L W) (i b : Nat) {a0 a1 a2 a3 a4 a5 a6 a7 a8 a9 : Value} (v0 v1 v2 v3 v4 v5 v6 v7 v8 v9 : Value) (e : b = w.heap.size + i) (hi : L[i]? = some [a0, a1, a2, a3, a4, a5, a6, a7, a8, a9]) :
    ∃ w3, ((((((((((W.setCell ⟨b, 0, none⟩ v0).setCell ⟨b, 1, none⟩ v1).setCell ⟨b, 2, none⟩ v2).setCell ⟨b, 3, none⟩ v3).setCell ⟨b, 4, none⟩ v4).setCell ⟨b, 5, none⟩ v5).setCell ⟨b, 6, none⟩ v6).setCell ⟨b, 7, none⟩ v7).setCell ⟨b, 8, none⟩ v8).setCell ⟨b, 9, none⟩ v9) = w3 ∧ Lay w (L.set i [v0, v1, v2, v3, v4, v5, v6, v7, v8, v9]) w3 :=
  ⟨_, rfl, (((((((((h.set i b 0 [a0, a1, a2, a3, a4, a5, a6, a7, a8, a9] v0 e hi (by simp)).again (j := 1) v1 e hi (by simp)).again (j := 2) v2 e hi (by simp)).again (j := 3) v3 e hi (by simp)).again (j := 4) v4 e hi (by simp)).again (j := 5) v5 e hi (by simp)).again (j := 6) v6 e hi (by simp)).again (j := 7) v7 e hi (by simp)).again (j := 8) v8 e hi (by simp)).again (j := 9) v9 e hi (by simp)⟩
/-- one store, the world behind it under a letter -/
theorem Lay.put1 {w : World} {L : List (List Value)} {W : World} (h : Lay w L W) (i b j : Nat) (vs : List Value) (v : Value) (e : b = w.heap.size + i) (hi : L[i]? = some vs) (hj : j < vs.length) :
    ∃ w3, W.setCell ⟨b, j, none⟩ v = w3 ∧ Lay w (L.set i (vs.set j v)) w3 ∧ w3.heap.size = W.heap.size :=
  ⟨_, rfl, h.set i b j vs v e hi hj, by simp [World.setCell]⟩
/-- one block more, the world behind it under a letter -/
theorem Lay.new1 {w : World} {L : List (List Value)} {W : World} (h : Lay w L W) (hs : W.heap.size = w.heap.size + L.length) (vs : Array Value) (t : TypeId) :
    ∃ w3, W.alloc (.cells vs t) = w3 ∧ Lay w (L ++ [vs.toList]) w3 ∧ w3.heap.size = w.heap.size + (L ++ [vs.toList]).length :=
  ⟨_, rfl, h.push hs vs t, by simp [hs]; omega⟩
theorem lay_size (w : World) (x : Obj) : (w.alloc x).heap.size = w.heap.size + 1 := by simp
theorem lay1 (w : World) (a : Array Value) (t1 : TypeId) : Lay w [a.toList] (w.alloc (.cells a t1)) := (lay_nil w).push rfl a t1
theorem lay2 (w : World) (a b : Array Value) (t1 t2 : TypeId) : Lay w [a.toList, b.toList] ((w.alloc (.cells a t1)).alloc (.cells b t2)) := (lay1 w a t1).push (by simp) b t2
theorem lay3 (w : World) (a b c : Array Value) (t1 t2 t3 : TypeId) : Lay w [a.toList, b.toList, c.toList] (((w.alloc (.cells a t1)).alloc (.cells b t2)).alloc (.cells c t3)) := (lay2 w a b t1 t2).push (by simp) c t3
theorem lay4 (w : World) (a b c d : Array Value) (t1 t2 t3 t4 : TypeId) : Lay w [a.toList, b.toList, c.toList, d.toList] ((((w.alloc (.cells a t1)).alloc (.cells b t2)).alloc (.cells c t3)).alloc (.cells d t4)) := (lay3 w a b c t1 t2 t3).push (by simp) d t4
theorem lay5 (w : World) (a b c d e : Array Value) (t1 t2 t3 t4 t5 : TypeId) : Lay w [a.toList, b.toList, c.toList, d.toList, e.toList] (((((w.alloc (.cells a t1)).alloc (.cells b t2)).alloc (.cells c t3)).alloc (.cells d t4)).alloc (.cells e t5)) := (lay4 w a b c d t1 t2 t3 t4).push (by simp) e t5
theorem lay1n (w : World) (a : Array Value) (t1 : TypeId) : ∃ W, (w.alloc (.cells a t1)) = W ∧ Lay w [a.toList] W ∧ W.heap.size = w.heap.size + 1 := ⟨_, rfl, lay1 w a t1, by simp⟩
theorem lay2n (w : World) (a b : Array Value) (t1 t2 : TypeId) : ∃ W, ((w.alloc (.cells a t1)).alloc (.cells b t2)) = W ∧ Lay w [a.toList, b.toList] W ∧ W.heap.size = w.heap.size + 1 + 1 := ⟨_, rfl, lay2 w a b t1 t2, by simp⟩
theorem lay3n (w : World) (a b c : Array Value) (t1 t2 t3 : TypeId) : ∃ W, (((w.alloc (.cells a t1)).alloc (.cells b t2)).alloc (.cells c t3)) = W ∧ Lay w [a.toList, b.toList, c.toList] W ∧ W.heap.size = w.heap.size + 1 + 1 + 1 := ⟨_, rfl, lay3 w a b c t1 t2 t3, by simp⟩
theorem lay4n (w : World) (a b c d : Array Value) (t1 t2 t3 t4 : TypeId) : ∃ W, ((((w.alloc (.cells a t1)).alloc (.cells b t2)).alloc (.cells c t3)).alloc (.cells d t4)) = W ∧ Lay w [a.toList, b.toList, c.toList, d.toList] W ∧ W.heap.size = w.heap.size + 1 + 1 + 1 + 1 := ⟨_, rfl, lay4 w a b c d t1 t2 t3 t4, by simp⟩
theorem lay5n (w : World) (a b c d e : Array Value) (t1 t2 t3 t4 t5 : TypeId) : ∃ W, (((((w.alloc (.cells a t1)).alloc (.cells b t2)).alloc (.cells c t3)).alloc (.cells d t4)).alloc (.cells e t5)) = W ∧ Lay w [a.toList, b.toList, c.toList, d.toList, e.toList] W ∧ W.heap.size = w.heap.size + 1 + 1 + 1 + 1 + 1 := ⟨_, rfl, lay5 w a b c d e t1 t2 t3 t4 t5, by simp⟩

end Go.Proofs.Ytacophekhknbpaa
