/-
  What comes in, opened: a slice of bools, with its size.
-/
import Derived.Test.YtohmejfjmpnadaaOpenZ
namespace Go.Proofs.Ytohmejfjmpnadaa
open Go.ChangeShapes Go.WideShapes Go.ChangeAt Go.RowKit

/-- n bools that came in, one behind another in memory that is there; or none at all -/
def RowB (w : World) (a : Option Addr) (n c : Nat) (l : Nat → Bool) : Prop :=
  n ≤ c ∧ c ≤ maxLen ∧ n ≤ 140737488351232 ∧ (a = none → c = 0) ∧ (0 < n → ∃ b off, a = some ⟨b, off, none⟩ ∧ b < w.heap.size ∧ ∀ j : Nat, j < n → w.cell? ⟨b, off + j, none⟩ = some (.bool (l j)))
/-- the bool in a datum that is one -/
def boolOf {H : Type} (y : DataW H × List MemPlace) : Bool := match y.1 with | .lit (.bool b) => b | _ => false

section
variable {H : Type} {enc : TypeId × Value → H} {P : Program} {w : World} {base : Nat} {spare : Nat → Bool} {held : Bool}
theorem cells_at {a : Addr} {g : Nat → Value} {n : Nat} (h : ∀ i, i < n → w.cell? (a.add i) = some (g i)) (hn : 0 < n) :
    ∃ b off, a = ⟨b, off, none⟩ ∧ ∀ j, j < n → w.cell? ⟨b, off + j, none⟩ = some (g j) := by
  obtain ⟨b, off, spot⟩ := a
  have hspot : spot = none := by simpa [Addr.add] using World.cell?_spot (h 0 hn)
  subst hspot
  exact ⟨b, off, rfl, fun j hj => by rw [← Go.WideShapes.add_plain]; exact h j hj⟩
theorem rowB_of {t e : TypeId} {fuel : Nat} {cs : List Value} {x : DataW H × List MemPlace} (ht : P.underlying t = some (.slice e)) (he : P.underlying e = some .bool) (hc : P.cellsOf e = 1) (hby : P.bytesOf e = 1)
    (h : DataW.trod enc P w base spare held fuel t cs = some x) (hz : Light P t x.1) : ∃ a n c l, cs = [.slice a n c] ∧ RowB w a n c l := by
  rcases DataW.trod_slice ht h with ⟨hcs, _⟩ | ⟨a, len, cap, elems, rest, n, _, hcs, hx, hb, hl, hm, hlen, hel, hsp, hns⟩
  · exact ⟨none, 0, 0, fun _ => false, hcs, by omega, by unfold maxLen; omega, by omega, fun _ => rfl, fun h => absurd h (by omega)⟩
  · have key : ∀ i, i < len → w.cell? (a.add i) = some (.bool ((elems.map boolOf).getD i false)) := by
      intro i hi
      have h1 := hel i hi
      rw [List.getElem?_eq_getElem (by omega), hc, Nat.mul_one, Option.bind_eq_some_iff] at h1
      obtain ⟨cs', h2, h3⟩ := h1
      obtain ⟨b, rfl, h4⟩ := DataW.trod_bool he h3
      have h5 : (elems.map boolOf).getD i false = b := by
        have : i < elems.length := by omega
        simp [this, h4, boolOf]
      rw [h5]
      exact cell_of_cells?_one h2
    refine ⟨some a, len, cap, fun j => (elems.map boolOf).getD j false, hcs, hl, hm, ?_, fun q => (by cases q), fun hpos => ?_⟩
    · have := hz (((elems.map (·.1)).length + (rest.map (·.1)).length) * P.bytesOf e) (by rw [hx]; simp [DataW.weights, ht])
      rw [hby] at this
      simp only [List.length_map] at this
      unfold reachBytes at this
      omega
    · obtain ⟨b, off, rfl, hc⟩ := cells_at key hpos
      exact ⟨b, off, rfl, lt_of_cell (hc 0 hpos), hc⟩
end

end Go.Proofs.Ytohmejfjmpnadaa
