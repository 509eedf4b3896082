/-
  What comes in, opened with its size: no slice that came in takes more bytes than the statement allows.
-/
import Derived.Test.YtacophekhknbpaaOpen
import Derived.SizedLaws
namespace Go.Proofs.Ytacophekhknbpaa
open Go.ChangeShapes Go.WideShapes Go.ChangeAt Go.RowKit

/-- n numbers that came in, of so many bytes each -/
def RowZ (k : IntKind) (by1 : Nat) (w : World) (a : Option Addr) (n c : Nat) (l : Nat → Int) : Prop := RowK k w a n c l ∧ n * by1 ≤ 140737488351232 ∧ (a = none → c = 0)
/-- none of its slices takes more -/
def Light {H : Type} (P : Program) (t : TypeId) (d : DataW H) : Prop := ∀ m ∈ d.weights P t, m ≤ reachBytes

section
variable {H : Type} {enc : TypeId × Value → H} {P : Program} {w : World} {base : Nat} {spare : Nat → Bool} {held : Bool}
theorem rowZ_of {t e : TypeId} {k : IntKind} {by1 fuel : Nat} {cs : List Value} {x : DataW H × List MemPlace} (ht : P.underlying t = some (.slice e)) (he : P.underlying e = some (.int k)) (hc : P.cellsOf e = 1) (hby : P.bytesOf e = by1)
    (h : DataW.trod enc P w base spare held fuel t cs = some x) (hz : Light P t x.1) : ∃ a n c l, cs = [.slice a n c] ∧ RowZ k by1 w a n c l := by
  rcases open_ints ht he hc h with ⟨hcs, hx⟩ | ⟨a, len, cap, zs, hcs, hb, hl, hm, hzl, hx, hcell, hwz⟩
  · obtain ⟨a, n, c, l, e1, hr⟩ := rowK_of ht he hc h
    rw [hcs] at e1
    simp only [List.cons.injEq, Value.slice.injEq, and_true] at e1
    obtain ⟨rfl, rfl, rfl⟩ := e1
    exact ⟨none, 0, 0, l, hcs, hr, by omega, fun _ => rfl⟩
  · obtain ⟨a', n, c, l, e1, hr⟩ := rowK_of ht he hc h
    rw [hcs] at e1
    simp only [List.cons.injEq, Value.slice.injEq, and_true] at e1
    obtain ⟨rfl, rfl, rfl⟩ := e1
    refine ⟨some a, len, cap, l, hcs, hr, ?_, fun q => by cases q⟩
    have := hz (((lits (H := H) k (zs.take len)).length + (lits (H := H) k (zs.drop len)).length) * P.bytesOf e) (by rw [hx]; simp [DataW.weights, ht])
    have hl2 : len ≤ zs.length := by rw [hzl]; split <;> omega
    have e2 : (lits (H := H) k (zs.take len)).length + (lits (H := H) k (zs.drop len)).length = zs.length := by simp [lits]; omega
    rw [e2, hby] at this
    have h3 : len * by1 ≤ zs.length * by1 := Nat.mul_le_mul_right _ hl2
    unfold reachBytes at this
    omega
theorem trod_field_z {t : TypeId} {fs : Array Field} {fuel : Nat} {cs : List Value} {x : DataW H × List MemPlace} (ht : P.underlying t = some (.struct fs)) (h : DataW.trod enc P w base spare held fuel t cs = some x) (hz : Light P t x.1) :
    cs.length = P.cellsOf t ∧ ∀ (i : Nat) (f : Field), fs[i]? = some f → ∃ (n : Nat) (y : DataW H × List MemPlace), DataW.trod enc P w base spare held n f.type ((cs.drop f.offset).take (P.cellsOf f.type)) = some y ∧ Light P f.type y.1 := by
  obtain ⟨xs, n, _, hx, hl, hlen, hf⟩ := DataW.trod_struct ht h
  refine ⟨hl, fun i f hi => ?_⟩
  have hlt : i < xs.length := by
    rw [hlen]
    exact (Array.getElem?_eq_some_iff.1 hi).1
  refine ⟨n, xs[i], by rw [hf i f hi]; simp [hlt], fun m hm => hz m ?_⟩
  rw [hx]
  show m ∈ DataW.weights P t (.agg (xs.map (·.1)))
  rw [DataW.weights, ht]
  refine DataW.weights_mem_each (j := i) (t := f.type) (d := xs[i].1) ?_ ?_ m hm
  · rw [List.getElem?_map, Array.getElem?_toList, hi]; rfl
  · rw [List.getElem?_map, List.getElem?_eq_getElem hlt]; rfl
theorem weights_mem_all {e : TypeId} : ∀ {ds : List (DataW H)} {j : Nat} {d : DataW H}, ds[j]? = some d → ∀ n ∈ d.weights P e, n ∈ DataW.weightsAll P e ds
  | [], _, _, hd, _, _ => by simp at hd
  | d0 :: ds, 0, d, hd, n, hn => by
    simp only [List.getElem?_cons_zero, Option.some.injEq] at hd
    subst hd
    simp only [DataW.weightsAll, List.mem_append]
    exact Or.inl hn
  | d0 :: ds, j + 1, d, hd, n, hn => by
    simp only [DataW.weightsAll, List.mem_append]
    exact Or.inr (weights_mem_all (by simpa using hd) n hn)
theorem trod_elem_z {t e : TypeId} {m fuel : Nat} {cs : List Value} {x : DataW H × List MemPlace} (ht : P.underlying t = some (.array m e)) (h : DataW.trod enc P w base spare held fuel t cs = some x) (hz : Light P t x.1) :
    cs.length = P.cellsOf t ∧ ∀ i : Nat, i < m → ∃ (n : Nat) (y : DataW H × List MemPlace), DataW.trod enc P w base spare held n e ((cs.drop (i * P.cellsOf e)).take (P.cellsOf e)) = some y ∧ Light P e y.1 := by
  obtain ⟨xs, n, _, hx, hl, hlen, hf⟩ := DataW.trod_array ht h
  refine ⟨hl, fun i hi => ?_⟩
  have hlt : i < xs.length := by omega
  refine ⟨n, xs[i], by rw [hf i hi]; simp [hlt], fun q hq => hz q ?_⟩
  rw [hx]
  show q ∈ DataW.weights P t (.agg (xs.map (·.1)))
  rw [DataW.weights, ht]
  refine weights_mem_all (j := i) (d := xs[i].1) ?_ q hq
  rw [List.getElem?_map, List.getElem?_eq_getElem hlt]; rfl
theorem light_of {ts : List TypeId} {ds : List (DataW H)} (h : (DataW.weightsEach P ts ds).all (· ≤ reachBytes) = true) {j : Nat} {t : TypeId} {d : DataW H} (ht : ts[j]? = some t) (hd : ds[j]? = some d) : Light P t d := fun m hm => by
  have := List.all_eq_true.1 h _ (DataW.weights_mem_each ht hd m hm)
  simpa using this
theorem light_string {t : TypeId} {s : ByteArray} (h : Light (H := H) P t (.lit (.string s.data.toList))) : s.size ≤ 140737488351232 := by
  have := h s.data.toList.length (by simp [DataW.weights])
  unfold reachBytes at this
  rw [Array.length_toList] at this
  exact this
end

end Go.Proofs.Ytacophekhknbpaa
