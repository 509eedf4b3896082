/-
  What comes in, opened: a slice of gates, each with its row of numbers, with the sizes.
-/
import Derived.Test.YtacophekhknbpaaOpenZ
import Derived.Test.YtacophekhknbpaaGat
import Derived.Test.YtacophekhknbpaaSetRow
namespace Go.Proofs.Ytacophekhknbpaa
open Go.ChangeShapes Go.WideShapes Go.ChangeAt Go.RowKit

/-- n gates that came in, one behind another in memory that is there; or none at all -/
structure RowGJ (w : World) (a : Option Addr) (n c : Nat) (t : Nat → Gt) : Prop where
  le : n ≤ c
  max : c ≤ maxLen
  row : RowG w a n t
  small : n * 40 ≤ 140737488351232
  zero : a = none → c = 0
  of : ∀ j, j < n → RowZ .i64 8 w (t j).a (t j).n (t j).c (t j).of

section
variable {H : Type} {enc : TypeId × Value → H} {w : World} {base : Nat} {spare : Nat → Bool} {held : Bool}
theorem list3g {l : List Value} (h : l.length = 3) : ∃ c0 c1 c2, l = [c0, c1, c2] := by
  match l, h with
  | [c0, c1, c2], _ => exact ⟨c0, c1, c2, rfl⟩
theorem i64_of {x : Int} (h : (Lit.int .i64 x).wf = true) : -9223372036854775808 ≤ x ∧ x ≤ 9223372036854775807 := by
  simp [Lit.wf, IntKind.min, IntKind.max, IntKind.bits, IntKind.signed] at h
  omega
theorem light_elem {x : DataW H × List MemPlace} {es rs : List (DataW H)} {ps : List MemPlace} (hz : Light Try.prog 22 x.1) (hx : x = (.slice es rs, ps)) {i : Nat} {d : DataW H} (hd : es[i]? = some d) : Light Try.prog 41 d := fun m hm => by
  subst hx
  refine hz m ?_
  show m ∈ DataW.weights Try.prog 22 (.slice es rs)
  rw [DataW.weights, Try.underlying22]
  exact List.mem_cons_of_mem _ (List.mem_append_left _ (weights_mem_all hd m hm))
theorem gate_of {fuel : Nat} {cs : List Value} {x : DataW H × List MemPlace} (h : DataW.trod enc Try.prog w base spare held fuel 41 cs = some x) (hz : Light Try.prog 41 x.1) :
    ∃ g : Gt, cs = [.int .i64 g.k, .int .i64 g.v, .slice g.a g.n g.c] ∧ RowZ .i64 8 w g.a g.n g.c g.of ∧ (Lit.int .i64 g.v).wf = true := by
  obtain ⟨hl, hf⟩ := trod_field_z Try.underlying41 h hz
  rw [show Try.prog.cellsOf 41 = 3 from by kernel_rfl] at hl
  obtain ⟨c0, c1, c2, rfl⟩ := list3g hl
  obtain ⟨n0, y0, h0, _⟩ := hf 0 _ rfl
  replace h0 : DataW.trod enc Try.prog w base spare held n0 3 (([c0, c1, c2] : List Value).drop 0 |>.take (Try.prog.cellsOf 3)) = some y0 := h0
  obtain ⟨n1, y1, h1, _⟩ := hf 1 _ rfl
  replace h1 : DataW.trod enc Try.prog w base spare held n1 3 (([c0, c1, c2] : List Value).drop 1 |>.take (Try.prog.cellsOf 3)) = some y1 := h1
  obtain ⟨n2, y2, h2, z2⟩ := hf 2 _ rfl
  replace h2 : DataW.trod enc Try.prog w base spare held n2 39 (([c0, c1, c2] : List Value).drop 2 |>.take (Try.prog.cellsOf 39)) = some y2 := h2
  rw [show Try.prog.cellsOf 3 = 1 from by kernel_rfl] at h0 h1
  rw [show Try.prog.cellsOf 39 = 1 from by kernel_rfl] at h2
  replace h0 : DataW.trod enc Try.prog w base spare held n0 3 [c0] = some y0 := h0
  replace h1 : DataW.trod enc Try.prog w base spare held n1 3 [c1] = some y1 := h1
  replace h2 : DataW.trod enc Try.prog w base spare held n2 39 [c2] = some y2 := h2
  obtain ⟨x0, e0, _, f0⟩ := DataW.trod_int Try.underlying3 h0
  obtain ⟨x1, e1, _, f1⟩ := DataW.trod_int Try.underlying3 h1
  obtain ⟨a, n, c, l, e2, hr⟩ := rowZ_of Try.underlying39 Try.underlying3 (by kernel_rfl) (by kernel_rfl) h2 z2
  simp only [List.cons.injEq, and_true] at e0 e1 e2
  subst e0 e1 e2
  exact ⟨⟨x0, x1, a, n, c, l⟩, rfl, hr, f1⟩
theorem rowGJ_of {fuel : Nat} {cs : List Value} {x : DataW H × List MemPlace} (h : DataW.trod enc Try.prog w base spare held fuel 22 cs = some x) (hz : Light Try.prog 22 x.1) : ∃ a n c t, cs = [.slice a n c] ∧ RowGJ w a n c t := by
  rcases DataW.trod_slice Try.underlying22 h with ⟨hcs, _⟩ | ⟨a, len, cap, elems, rest, n, _, hcs, hx, hb, hl, hm, hlen, hel, hsp, hns⟩
  · exact ⟨none, 0, 0, fun _ => ⟨0, 0, none, 0, 0, fun _ => 0⟩, hcs, by omega, by unfold maxLen; omega, ⟨fun h => absurd h (by omega), fun j hj => absurd hj (by omega), fun j hj => absurd hj (by omega)⟩, by omega, fun _ => rfl, fun j hj => absurd hj (by omega)⟩
  · have key : ∀ i, i < len → ∃ g : Gt, (∀ k v, [.int .i64 g.k, .int .i64 g.v, .slice g.a g.n g.c][k]? = some v → w.cell? ((a.add (i * 3)).add k) = some v) ∧ RowZ .i64 8 w g.a g.n g.c g.of ∧ (Lit.int .i64 g.v).wf = true := by
      intro i hi
      have h1 := hel i hi
      rw [List.getElem?_eq_getElem (by omega), show Try.prog.cellsOf 41 = 3 from by kernel_rfl, Option.bind_eq_some_iff] at h1
      obtain ⟨cs', h2, h3⟩ := h1
      have hil : i < elems.length := by omega
      have hmap : (elems.map (·.1))[i]? = some (elems[i]'hil).1 := by
        rw [List.getElem?_map, List.getElem?_eq_getElem hil]
        rfl
      have hzi : Light Try.prog 41 (elems[i]'hil).1 := light_elem hz hx hmap
      obtain ⟨g, rfl, hw⟩ := gate_of h3 hzi
      obtain ⟨_, h4, h5⟩ := World.cells?_some h2
      refine ⟨g, fun k v hk => ?_, hw⟩
      have hk3 : k < 3 := by
        have := (List.getElem?_eq_some_iff.1 hk).1
        simpa using this
      exact (h5 k hk3).trans hk
    have key2 : ∀ i, ∃ g : Gt, (i < len → (∀ k v, [.int .i64 g.k, .int .i64 g.v, .slice g.a g.n g.c][k]? = some v → w.cell? ((a.add (i * 3)).add k) = some v) ∧ RowZ .i64 8 w g.a g.n g.c g.of ∧ (Lit.int .i64 g.v).wf = true) := fun i => by
      by_cases hi : i < len
      · obtain ⟨g, h1⟩ := key i hi
        exact ⟨g, fun _ => h1⟩
      · exact ⟨⟨0, 0, none, 0, 0, fun _ => 0⟩, fun q => absurd q hi⟩
    obtain ⟨t, hk⟩ := Classical.skolem.1 key2
    refine ⟨some a, len, cap, t, hcs, hl, hm, ⟨fun hpos => ?_, fun j hj => ?_, fun j hj => ?_⟩, ?_, fun q => (by cases q), fun j hj => (hk j hj).2.1⟩
    · obtain ⟨b, off, spot⟩ := a
      have hspot : spot = none := by simpa [Addr.add] using World.cell?_spot ((hk 0 hpos).1 0 _ rfl)
      subst hspot
      have at3 : ∀ j, j < len → ∀ k v, [.int .i64 (t j).k, .int .i64 (t j).v, .slice (t j).a (t j).n (t j).c][k]? = some v → w.cell? ⟨b, off + j * 3 + k, none⟩ = some v := fun j hj k v hv => by
        have := (hk j hj).1 k v hv
        rw [Addr.add_lit, Addr.add_lit] at this
        exact this
      exact ⟨b, off, rfl, lt_of_cell (at3 0 hpos 0 _ rfl), fun j hj => ⟨at3 j hj 0 _ rfl, at3 j hj 1 _ rfl, at3 j hj 2 _ rfl⟩⟩
    · exact (hk j hj).2.1.1.2.2.2
    · have := i64_of (hk j hj).2.2
      exact ⟨(hk j hj).2.1.2.1, this.1, this.2⟩
    · have := hz (((elems.map (·.1)).length + (rest.map (·.1)).length) * Try.prog.bytesOf 41) (by rw [hx]; simp [DataW.weights, Try.underlying22])
      rw [show Try.prog.bytesOf 41 = 40 from by kernel_rfl] at this
      simp only [List.length_map] at this
      unfold reachBytes at this
      omega
end

/-- sets that came in -/
theorem u16_of {x : Int} (h : (Lit.int .u16 x).wf = true) : 0 ≤ x ∧ x < 65536 := by
  simp [Lit.wf, IntKind.min, IntKind.max, IntKind.bits, IntKind.signed] at h
  omega
theorem rs_of {w : World} {a : Option Addr} {n c : Nat} {l : Nat → Int} (h : RowZ .u16 2 w a n c l) : RS w a n (fun j => (l j).toNat) ∧ (∀ j, (l j).toNat < 65536) := by
  have hw : ∀ j, 0 ≤ l j ∧ l j < 65536 := fun j => u16_of (h.1.2.2.1 j)
  refine ⟨fun hn => ?_, fun j => by have := hw j; omega⟩
  obtain ⟨b, o, rfl, h1, h2⟩ := h.1.2.2.2 hn
  refine ⟨b, o, rfl, h1, fun j hj => ?_⟩
  rw [h2 j hj, Int.toNat_of_nonneg (hw j).1]

end Go.Proofs.Ytacophekhknbpaa
