/-
  What comes in, opened: a slice of entries, with its size.
-/
import Derived.Test.YtkklinjamcfppaaDoorOpenZ
import Derived.Test.YtkklinjamcfppaaDoorLogPut
namespace Go.Proofs.YtkklinjamcfppaaDoor
open Go.ChangeShapes Go.WideShapes Go.ChangeAt Go.RowKit

/-- n entries that came in, one behind another in memory that is there; or none at all -/
structure RowI (w : World) (a : Option Addr) (n c : Nat) (l : Nat → En) : Prop where
  rf : RowF w a n c l
  small : n * 32 ≤ 140737488351232
  zero : a = none → c = 0
  i64 : ∀ j, (Lit.int .i64 (l j).f).wf = true ∧ (Lit.int .i64 (l j).l).wf = true ∧ (Lit.int .i64 (l j).c).wf = true ∧ (Lit.int .i64 (l j).m).wf = true

section
variable {H : Type} {enc : TypeId × Value → H} {w : World} {base : Nat} {spare : Nat → Bool} {held : Bool}
theorem list4e {l : List Value} (h : l.length = 4) : ∃ c0 c1 c2 c3, l = [c0, c1, c2, c3] := by
  match l, h with
  | [c0, c1, c2, c3], _ => exact ⟨c0, c1, c2, c3, rfl⟩
theorem entry_of {fuel : Nat} {cs : List Value} {x : DataW H × List MemPlace} (h : DataW.trod enc Tryd.prog w base spare held fuel 33 cs = some x) :
    ∃ e : En, cs = [.int .i64 e.f, .int .i64 e.l, .int .i64 e.c, .int .i64 e.m] ∧ (Lit.int .i64 e.f).wf = true ∧ (Lit.int .i64 e.l).wf = true ∧ (Lit.int .i64 e.c).wf = true ∧ (Lit.int .i64 e.m).wf = true := by
  obtain ⟨hl, hf⟩ := trod_field Tryd.underlying33 h
  rw [show Tryd.prog.cellsOf 33 = 4 from by kernel_rfl] at hl
  obtain ⟨c0, c1, c2, c3, rfl⟩ := list4e hl
  obtain ⟨n0, y0, h0⟩ := hf 0 _ rfl
  replace h0 : DataW.trod enc Tryd.prog w base spare held n0 3 (([c0, c1, c2, c3] : List Value).drop 0 |>.take (Tryd.prog.cellsOf 3)) = some y0 := h0
  obtain ⟨n1, y1, h1⟩ := hf 1 _ rfl
  replace h1 : DataW.trod enc Tryd.prog w base spare held n1 3 (([c0, c1, c2, c3] : List Value).drop 1 |>.take (Tryd.prog.cellsOf 3)) = some y1 := h1
  obtain ⟨n2, y2, h2⟩ := hf 2 _ rfl
  replace h2 : DataW.trod enc Tryd.prog w base spare held n2 3 (([c0, c1, c2, c3] : List Value).drop 2 |>.take (Tryd.prog.cellsOf 3)) = some y2 := h2
  obtain ⟨n3, y3, h3⟩ := hf 3 _ rfl
  replace h3 : DataW.trod enc Tryd.prog w base spare held n3 3 (([c0, c1, c2, c3] : List Value).drop 3 |>.take (Tryd.prog.cellsOf 3)) = some y3 := h3
  rw [show Tryd.prog.cellsOf 3 = 1 from by kernel_rfl] at h0 h1 h2 h3
  replace h0 : DataW.trod enc Tryd.prog w base spare held n0 3 [c0] = some y0 := h0
  replace h1 : DataW.trod enc Tryd.prog w base spare held n1 3 [c1] = some y1 := h1
  replace h2 : DataW.trod enc Tryd.prog w base spare held n2 3 [c2] = some y2 := h2
  replace h3 : DataW.trod enc Tryd.prog w base spare held n3 3 [c3] = some y3 := h3
  obtain ⟨x0, e0, _, f0⟩ := DataW.trod_int Tryd.underlying3 h0
  obtain ⟨x1, e1, _, f1⟩ := DataW.trod_int Tryd.underlying3 h1
  obtain ⟨x2, e2, _, f2⟩ := DataW.trod_int Tryd.underlying3 h2
  obtain ⟨x3, e3, _, f3⟩ := DataW.trod_int Tryd.underlying3 h3
  simp only [List.cons.injEq, and_true] at e0 e1 e2 e3
  subst e0 e1 e2 e3
  exact ⟨⟨x0, x1, x2, x3⟩, rfl, f0, f1, f2, f3⟩
theorem rowI_of {fuel : Nat} {cs : List Value} {x : DataW H × List MemPlace} (h : DataW.trod enc Tryd.prog w base spare held fuel 22 cs = some x) (hz : Light Tryd.prog 22 x.1) : ∃ a n c l, cs = [.slice a n c] ∧ RowI w a n c l := by
  rcases DataW.trod_slice Tryd.underlying22 h with ⟨hcs, _⟩ | ⟨a, len, cap, elems, rest, n, _, hcs, hx, hb, hl, hm, hlen, hel, hsp, hns⟩
  · exact ⟨none, 0, 0, fun _ => ⟨0, 0, 0, 0⟩, hcs, ⟨by omega, by unfold maxLen; omega, fun h => absurd h (by omega)⟩, by omega, fun _ => rfl, fun _ => ⟨by decide, by decide, by decide, by decide⟩⟩
  · have key : ∀ i, i < len → ∃ e : En, (∀ k v, [.int .i64 e.f, .int .i64 e.l, .int .i64 e.c, .int .i64 e.m][k]? = some v → w.cell? ((a.add (i * 4)).add k) = some v) ∧ (Lit.int .i64 e.f).wf = true ∧ (Lit.int .i64 e.l).wf = true ∧ (Lit.int .i64 e.c).wf = true ∧ (Lit.int .i64 e.m).wf = true := by
      intro i hi
      have h1 := hel i hi
      rw [List.getElem?_eq_getElem (by omega), show Tryd.prog.cellsOf 33 = 4 from by kernel_rfl, Option.bind_eq_some_iff] at h1
      obtain ⟨cs', h2, h3⟩ := h1
      obtain ⟨e, rfl, hw⟩ := entry_of h3
      obtain ⟨_, h4, h5⟩ := World.cells?_some h2
      refine ⟨e, fun k v hk => ?_, hw⟩
      have hk4 : k < 4 := by
        have := (List.getElem?_eq_some_iff.1 hk).1
        simpa using this
      exact (h5 k hk4).trans hk
    have key2 : ∀ i, ∃ e : En, (i < len → ∀ k v, [.int .i64 e.f, .int .i64 e.l, .int .i64 e.c, .int .i64 e.m][k]? = some v → w.cell? ((a.add (i * 4)).add k) = some v) ∧ (Lit.int .i64 e.f).wf = true ∧ (Lit.int .i64 e.l).wf = true ∧ (Lit.int .i64 e.c).wf = true ∧ (Lit.int .i64 e.m).wf = true := fun i => by
      by_cases hi : i < len
      · obtain ⟨e, h1, h2⟩ := key i hi
        exact ⟨e, fun _ => h1, h2⟩
      · exact ⟨⟨0, 0, 0, 0⟩, fun q => absurd q hi, by decide, by decide, by decide, by decide⟩
    obtain ⟨l, hk⟩ := Classical.skolem.1 key2
    refine ⟨some a, len, cap, l, hcs, ⟨hl, hm, fun hpos => ?_⟩, ?_, fun q => (by cases q), fun j => (hk j).2⟩
    · obtain ⟨b, off, spot⟩ := a
      have hspot : spot = none := by simpa [Addr.add] using World.cell?_spot ((hk 0).1 hpos 0 _ rfl)
      subst hspot
      have at4 : ∀ j, j < len → ∀ k v, [.int .i64 (l j).f, .int .i64 (l j).l, .int .i64 (l j).c, .int .i64 (l j).m][k]? = some v → w.cell? ⟨b, off + j * 4 + k, none⟩ = some v := fun j hj k v hv => by
        have := (hk j).1 hj k v hv
        rw [Addr.add_lit, Addr.add_lit] at this
        exact this
      exact ⟨b, off, rfl, lt_of_cell (at4 0 hpos 0 _ rfl), fun j hj => ⟨at4 j hj 0 _ rfl, at4 j hj 1 _ rfl, at4 j hj 2 _ rfl, at4 j hj 3 _ rfl⟩⟩
    · have := hz (((elems.map (·.1)).length + (rest.map (·.1)).length) * Tryd.prog.bytesOf 33) (by rw [hx]; simp [DataW.weights, Tryd.underlying22])
      rw [show Tryd.prog.bytesOf 33 = 32 from by kernel_rfl] at this
      simp only [List.length_map] at this
      unfold reachBytes at this
      omega
end

end Go.Proofs.YtkklinjamcfppaaDoor
