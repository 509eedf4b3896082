/-
  Boxes that a function made since w, wherever they lie (calls that make memory between them): the block and the values of each, as a list; what leaves them as they were, one box more, a store into one.
-/
import Derived.Test.YtacophekhknbpaaBoxes
import Derived.Test.YtacophekhknbpaaLay
namespace Go.Proofs.Ytacophekhknbpaa
open Go.RowKit

/-- since w nothing that was there has turned; in the i-th block lies the i-th list -/
structure Bxs (w : World) (L : List (Nat × List Value)) (W : World) : Prop where
  bel : Below w.heap.size w W
  box : ∀ (i b : Nat) (vs : List Value), L[i]? = some (b, vs) → Cells W b vs
  own : ∀ (i b : Nat) (vs : List Value), L[i]? = some (b, vs) → w.heap.size ≤ b
  nd : ∀ (i j b c : Nat) (vs us : List Value), L[i]? = some (b, vs) → L[j]? = some (c, us) → i ≠ j → b ≠ c
theorem bxs_nil (w : World) : Bxs w [] w := ⟨Below.refl _ w, fun i b vs h => by simp at h, fun i b vs h => by simp at h, fun i j b c vs us h => by simp at h⟩
theorem Bxs.step {w : World} {L : List (Nat × List Value)} {W W' : World} (h : Bxs w L W) (hb : Below W.heap.size W W') : Bxs w L W' :=
  ⟨below_seq h.bel hb, fun i b vs hi => (h.box i b vs hi).step hb, h.own, h.nd⟩
theorem Bxs.drew {w : World} {L : List (Nat × List Value)} {W : World} (h : Bxs w L W) : Bxs w L W.drew := h.step (Below.refl _ W).drew
theorem Bxs.alloc {w : World} {L : List (Nat × List Value)} {W : World} (h : Bxs w L W) (x : Obj) : Bxs w L (W.alloc x) := h.step ((Below.refl _ W).alloc (Nat.le_refl _) _)
/-- one box more -/
theorem Bxs.push {w : World} {L : List (Nat × List Value)} {W : World} (h : Bxs w L W) (vs : Array Value) (t : TypeId) : Bxs w (L ++ [(W.heap.size, vs.toList)]) (W.alloc (.cells vs t)) := by
  have key : ∀ (i b : Nat) (us : List Value), (L ++ [(W.heap.size, vs.toList)])[i]? = some (b, us) → (i < L.length ∧ L[i]? = some (b, us)) ∨ (i = L.length ∧ b = W.heap.size ∧ us = vs.toList) := by
    intro i b us hi
    by_cases q : i < L.length
    · rw [List.getElem?_append_left q] at hi
      exact Or.inl ⟨q, hi⟩
    · have z : i = L.length := by
        have := (List.getElem?_eq_some_iff.1 hi).1
        simp at this
        omega
      subst z
      rw [List.getElem?_append_right (Nat.le_refl _)] at hi
      simp at hi
      exact Or.inr ⟨rfl, hi.1.symm, hi.2.symm⟩
  refine ⟨h.bel.alloc h.bel.size _, fun i b us hi => ?_, fun i b us hi => ?_, fun i j b c us zs hi hj hne => ?_⟩
  · rcases key i b us hi with ⟨_, g⟩ | ⟨_, rfl, rfl⟩
    · exact (h.box i b us g).alloc _
    · exact cells_new W vs t
  · rcases key i b us hi with ⟨_, g⟩ | ⟨_, rfl, rfl⟩
    · exact h.own i b us g
    · exact h.bel.size
  · rcases key i b us hi with ⟨_, g⟩ | ⟨e1, rfl, rfl⟩ <;> rcases key j c zs hj with ⟨_, g2⟩ | ⟨e2, rfl, rfl⟩
    · exact h.nd i j b c us zs g g2 hne
    · have := (h.box i b us g).lt
      omega
    · have := (h.box j c zs g2).lt
      omega
    · omega
/-- one box more: its block and the world behind it under letters -/
theorem Bxs.new {w : World} {L : List (Nat × List Value)} {W : World} (h : Bxs w L W) (vs : Array Value) (t : TypeId) : ∃ N W', W.alloc (.cells vs t) = W' ∧ W.heap.size = N ∧ Bxs w (L ++ [(N, vs.toList)]) W' ∧ N < W'.heap.size :=
  ⟨_, _, rfl, rfl, h.push vs t, by simp⟩
/-- a store into one of them -/
theorem Bxs.set {w : World} {L : List (Nat × List Value)} {W : World} (h : Bxs w L W) (i b j : Nat) (vs : List Value) (v : Value) (hi : L[i]? = some (b, vs)) (hj : j < vs.length) : Bxs w (L.set i (b, vs.set j v)) (W.setCell ⟨b, j, none⟩ v) := by
  have key : ∀ (k c : Nat) (us : List Value), (L.set i (b, vs.set j v))[k]? = some (c, us) → (k = i ∧ c = b ∧ us = vs.set j v) ∨ (k ≠ i ∧ L[k]? = some (c, us)) := by
    intro k c us hk
    rw [List.getElem?_set] at hk
    split at hk
    · rename_i q
      subst q
      split at hk
      · simp only [Option.some.injEq, Prod.mk.injEq] at hk
        exact Or.inl ⟨rfl, hk.1.symm, hk.2.symm⟩
      · cases hk
    · rename_i q
      exact Or.inr ⟨fun e => q e.symm, hk⟩
  refine ⟨h.bel.setCell (p := ⟨b, j, none⟩) (h.own i b vs hi) _, fun k c us hk => ?_, fun k c us hk => ?_, fun k l c d us zs hk hl hne => ?_⟩
  · rcases key k c us hk with ⟨rfl, rfl, rfl⟩ | ⟨q, g⟩
    · exact (h.box k c vs hi).set hj v
    · exact (h.box k c us g).other (h.nd i k b c vs us hi g (Ne.symm q)) v
  · rcases key k c us hk with ⟨rfl, rfl, rfl⟩ | ⟨q, g⟩
    · exact h.own k c vs hi
    · exact h.own k c us g
  · rcases key k c us hk with ⟨rfl, rfl, rfl⟩ | ⟨q, g⟩ <;> rcases key l d zs hl with ⟨rfl, rfl, rfl⟩ | ⟨q2, g2⟩
    · exact absurd rfl hne
    · exact h.nd k l c d vs zs hi g2 hne
    · exact h.nd k l c d us vs g hi hne
    · exact h.nd k l c d us zs g g2 hne
theorem Bxs.again {w : World} {L : List (Nat × List Value)} {W : World} {i b j : Nat} {us vs : List Value} (h : Bxs w (L.set i (b, us)) W) (v : Value) (hi : L[i]? = some (b, vs)) (hj : j < us.length) : Bxs w (L.set i (b, us.set j v)) (W.setCell ⟨b, j, none⟩ v) := by
  have hl := (List.getElem?_eq_some_iff.1 hi).1
  have := h.set i b j us v (by rw [List.getElem?_set]; simp [hl]) hj
  rw [List.set_set] at this
  exact this
theorem Bxs.put1 {w : World} {L : List (Nat × List Value)} {W : World} (h : Bxs w L W) (i b j : Nat) (vs : List Value) (v : Value) (hi : L[i]? = some (b, vs)) (hj : j < vs.length) :
    ∃ w3, W.setCell ⟨b, j, none⟩ v = w3 ∧ Bxs w (L.set i (b, vs.set j v)) w3 := ⟨_, rfl, h.set i b j vs v hi hj⟩
theorem Bxs.put3 {w : World} {L : List (Nat × List Value)} {W : World} (h : Bxs w L W) (i b : Nat) {a0 a1 a2 : Value} (v0 v1 v2 : Value) (hi : L[i]? = some (b, [a0, a1, a2])) :
    ∃ w3, (((W.setCell ⟨b, 0, none⟩ v0).setCell ⟨b, 1, none⟩ v1).setCell ⟨b, 2, none⟩ v2) = w3 ∧ Bxs w (L.set i (b, [v0, v1, v2])) w3 :=
  ⟨_, rfl, ((h.set i b 0 [a0, a1, a2] v0 hi (by simp)).again (j := 1) v1 hi (by simp)).again (j := 2) v2 hi (by simp)⟩

end Go.Proofs.Ytacophekhknbpaa
