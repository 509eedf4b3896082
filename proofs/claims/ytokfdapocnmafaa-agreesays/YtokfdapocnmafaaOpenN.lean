/-
  What comes in, opened, where all of it are numbers of one kind (arrays and structs of these, however many): a row.
-/
import Derived.Test.YtokfdapocnmafaaOpen
namespace Go.Proofs.Ytokfdapocnmafaa
open Go.ChangeShapes Go.WideShapes Go.ChangeAt Go.RowKit

/-- n numbers of a kind as values -/
def rowA (k : IntKind) (n : Nat) (T : Nat → Int) : Array Value := ((List.range n).map fun j => Value.int k (T j)).toArray

section
variable {H : Type} {enc : TypeId × Value → H} {P : Program} {w : World} {base : Nat} {spare : Nat → Bool} {held : Bool}
/-- whatever reads as t is numbers of kind k -/
def AllNum (enc : TypeId × Value → H) (P : Program) (w : World) (base : Nat) (spare : Nat → Bool) (held : Bool) (k : IntKind) (t : TypeId) (n : Nat) : Prop :=
  ∀ (fuel : Nat) (cs : List Value) (x : DataW H × List MemPlace), DataW.trod enc P w base spare held fuel t cs = some x → cs.length = n ∧ ∀ j, j < n → ∃ y : Int, cs[j]? = some (.int k y) ∧ (Lit.int k y).wf = true
theorem allNum_int {k : IntKind} {t : TypeId} (ht : P.underlying t = some (.int k)) : AllNum enc P w base spare held k t 1 := fun fuel cs x h => by
  obtain ⟨y, rfl, _, hw⟩ := DataW.trod_int ht h
  refine ⟨rfl, fun j hj => ?_⟩
  obtain rfl : j = 0 := by omega
  exact ⟨y, rfl, hw⟩
theorem allNum_array {k : IntKind} {t e : TypeId} {m n : Nat} (ht : P.underlying t = some (.array m e)) (hc : P.cellsOf e = n) (hct : P.cellsOf t = m * n) (he : AllNum enc P w base spare held k e n) : AllNum enc P w base spare held k t (m * n) := fun fuel cs x h => by
  obtain ⟨hl, hf⟩ := trod_elem ht h
  rw [hct] at hl
  refine ⟨hl, fun j hj => ?_⟩
  have hn : 0 < n := by
    rcases Nat.eq_zero_or_pos n with q | q
    · rw [q] at hj; omega
    · exact q
  have hi : j / n < m := Nat.div_lt_of_lt_mul (by rw [Nat.mul_comm]; exact hj)
  obtain ⟨q, y, hy⟩ := hf (j / n) hi
  rw [hc] at hy
  obtain ⟨_, h2⟩ := he q _ y hy
  have hm : j % n < n := Nat.mod_lt _ hn
  obtain ⟨z, h3, h4⟩ := h2 (j % n) hm
  refine ⟨z, ?_, h4⟩
  rw [List.getElem?_take, if_pos hm, List.getElem?_drop] at h3
  have e : j / n * n + j % n = j := by rw [Nat.mul_comm]; exact Nat.div_add_mod j n
  rw [e] at h3
  exact h3
theorem allNum_struct {k : IntKind} {t : TypeId} {fs : Array Field} {n : Nat} (ht : P.underlying t = some (.struct fs)) (hct : P.cellsOf t = n)
    (hf : ∀ j, j < n → ∃ (i : Nat) (f : Field) (m : Nat), fs[i]? = some f ∧ P.cellsOf f.type = m ∧ f.offset ≤ j ∧ j < f.offset + m ∧ AllNum enc P w base spare held k f.type m) : AllNum enc P w base spare held k t n := fun fuel cs x h => by
  obtain ⟨hl, hg⟩ := trod_field ht h
  rw [hct] at hl
  refine ⟨hl, fun j hj => ?_⟩
  obtain ⟨i, f, m, h1, h2, h3, h4, h5⟩ := hf j hj
  obtain ⟨q, y, hy⟩ := hg i f h1
  rw [h2] at hy
  obtain ⟨_, h6⟩ := h5 q _ y hy
  obtain ⟨z, h7, h8⟩ := h6 (j - f.offset) (by omega)
  refine ⟨z, ?_, h8⟩
  rw [List.getElem?_take, if_pos (by omega), List.getElem?_drop] at h7
  have e : f.offset + (j - f.offset) = j := by omega
  rw [e] at h7
  exact h7
theorem allNum_row {k : IntKind} {t : TypeId} {n fuel : Nat} {cs : List Value} {x : DataW H × List MemPlace} (ha : AllNum enc P w base spare held k t n) (h : DataW.trod enc P w base spare held fuel t cs = some x) :
    ∃ T : Nat → Int, cs = (rowA k n T).toList ∧ ∀ j, (Lit.int k (T j)).wf = true := by
  obtain ⟨hl, hj⟩ := ha fuel cs x h
  have hy : ∀ j, ∃ y : Int, (j < n → cs[j]? = some (.int k y)) ∧ (Lit.int k y).wf = true := fun j => by
    by_cases q : j < n
    · obtain ⟨y, h1, h2⟩ := hj j q
      exact ⟨y, fun _ => h1, h2⟩
    · exact ⟨0, fun h => absurd h q, zero_wf k⟩
  refine ⟨fun j => Classical.choose (hy j), ?_, fun j => (Classical.choose_spec (hy j)).2⟩
  apply List.ext_getElem?
  intro j
  unfold rowA
  rcases Nat.lt_or_ge j n with q | q
  · rw [(Classical.choose_spec (hy j)).1 q, List.getElem?_map, List.getElem?_range q]; rfl
  · rw [List.getElem?_eq_none (by omega), List.getElem?_eq_none (by simp; omega)]
end

end Go.Proofs.Ytokfdapocnmafaa
