/-
  What comes in, opened: a slice of points, with its size.
-/
import Derived.Test.YtihcioghbidblaaOpenZ
import Derived.Test.YtihcioghbidblaaPts
namespace Go.Proofs.Ytihcioghbidblaa
open Go.ChangeShapes Go.WideShapes Go.ChangeAt Go.RowKit

/-- n points that came in, one behind another in memory that is there; or none at all -/
structure RowJ (w : World) (a : Option Addr) (n c : Nat) (l : Nat → Pt) : Prop where
  le : n ≤ c
  max : c ≤ maxLen
  row : RowP w a n l
  small : n * 24 ≤ 140737488351232
  zero : a = none → c = 0
  wf : ∀ j, (Lit.int .i32 (l j).w).wf = true ∧ (Lit.int .i64 (l j).f).wf = true ∧ (Lit.int .i32 (l j).d).wf = true

section
variable {H : Type} {enc : TypeId × Value → H} {w : World} {base : Nat} {spare : Nat → Bool} {held : Bool}
theorem list3p {l : List Value} (h : l.length = 3) : ∃ c0 c1 c2, l = [c0, c1, c2] := by
  match l, h with
  | [c0, c1, c2], _ => exact ⟨c0, c1, c2, rfl⟩
theorem point_of {fuel : Nat} {cs : List Value} {x : DataW H × List MemPlace} (h : DataW.trod enc Try.prog w base spare held fuel 40 cs = some x) :
    ∃ e : Pt, cs = [.int .i32 e.w, .int .i64 e.f, .int .i32 e.d] ∧ (Lit.int .i32 e.w).wf = true ∧ (Lit.int .i64 e.f).wf = true ∧ (Lit.int .i32 e.d).wf = true := by
  obtain ⟨hl, hf⟩ := trod_field Try.underlying40 h
  rw [show Try.prog.cellsOf 40 = 3 from by kernel_rfl] at hl
  obtain ⟨c0, c1, c2, rfl⟩ := list3p hl
  obtain ⟨n0, y0, h0⟩ := hf 0 _ rfl
  replace h0 : DataW.trod enc Try.prog w base spare held n0 21 (([c0, c1, c2] : List Value).drop 0 |>.take (Try.prog.cellsOf 21)) = some y0 := h0
  obtain ⟨n1, y1, h1⟩ := hf 1 _ rfl
  replace h1 : DataW.trod enc Try.prog w base spare held n1 3 (([c0, c1, c2] : List Value).drop 1 |>.take (Try.prog.cellsOf 3)) = some y1 := h1
  obtain ⟨n2, y2, h2⟩ := hf 2 _ rfl
  replace h2 : DataW.trod enc Try.prog w base spare held n2 21 (([c0, c1, c2] : List Value).drop 2 |>.take (Try.prog.cellsOf 21)) = some y2 := h2
  rw [show Try.prog.cellsOf 3 = 1 from by kernel_rfl] at h1
  rw [show Try.prog.cellsOf 21 = 1 from by kernel_rfl] at h0 h2
  replace h0 : DataW.trod enc Try.prog w base spare held n0 21 [c0] = some y0 := h0
  replace h1 : DataW.trod enc Try.prog w base spare held n1 3 [c1] = some y1 := h1
  replace h2 : DataW.trod enc Try.prog w base spare held n2 21 [c2] = some y2 := h2
  obtain ⟨x0, e0, _, f0⟩ := DataW.trod_int Try.underlying21 h0
  obtain ⟨x1, e1, _, f1⟩ := DataW.trod_int Try.underlying3 h1
  obtain ⟨x2, e2, _, f2⟩ := DataW.trod_int Try.underlying21 h2
  simp only [List.cons.injEq, and_true] at e0 e1 e2
  subst e0 e1 e2
  exact ⟨⟨x0, x1, x2⟩, rfl, f0, f1, f2⟩
theorem rowJ_of {fuel : Nat} {cs : List Value} {x : DataW H × List MemPlace} (h : DataW.trod enc Try.prog w base spare held fuel 32 cs = some x) (hz : Light Try.prog 32 x.1) : ∃ a n c l, cs = [.slice a n c] ∧ RowJ w a n c l := by
  rcases DataW.trod_slice Try.underlying32 h with ⟨hcs, _⟩ | ⟨a, len, cap, elems, rest, n, _, hcs, hx, hb, hl, hm, hlen, hel, hsp, hns⟩
  · exact ⟨none, 0, 0, fun _ => ⟨0, 0, 0⟩, hcs, by omega, by unfold maxLen; omega, fun h => absurd h (by omega), by omega, fun _ => rfl, fun _ => ⟨by decide, by decide, by decide⟩⟩
  · have key : ∀ i, i < len → ∃ e : Pt, (∀ k v, [.int .i32 e.w, .int .i64 e.f, .int .i32 e.d][k]? = some v → w.cell? ((a.add (i * 3)).add k) = some v) ∧ (Lit.int .i32 e.w).wf = true ∧ (Lit.int .i64 e.f).wf = true ∧ (Lit.int .i32 e.d).wf = true := by
      intro i hi
      have h1 := hel i hi
      rw [List.getElem?_eq_getElem (by omega), show Try.prog.cellsOf 40 = 3 from by kernel_rfl, Option.bind_eq_some_iff] at h1
      obtain ⟨cs', h2, h3⟩ := h1
      obtain ⟨e, rfl, hw⟩ := point_of h3
      obtain ⟨_, h4, h5⟩ := World.cells?_some h2
      refine ⟨e, fun k v hk => ?_, hw⟩
      have hk3 : k < 3 := by
        have := (List.getElem?_eq_some_iff.1 hk).1
        simpa using this
      exact (h5 k hk3).trans hk
    have key2 : ∀ i, ∃ e : Pt, (i < len → ∀ k v, [.int .i32 e.w, .int .i64 e.f, .int .i32 e.d][k]? = some v → w.cell? ((a.add (i * 3)).add k) = some v) ∧ (Lit.int .i32 e.w).wf = true ∧ (Lit.int .i64 e.f).wf = true ∧ (Lit.int .i32 e.d).wf = true := fun i => by
      by_cases hi : i < len
      · obtain ⟨e, h1, h2⟩ := key i hi
        exact ⟨e, fun _ => h1, h2⟩
      · exact ⟨⟨0, 0, 0⟩, fun q => absurd q hi, by decide, by decide, by decide⟩
    obtain ⟨l, hk⟩ := Classical.skolem.1 key2
    refine ⟨some a, len, cap, l, hcs, hl, hm, fun hpos => ?_, ?_, fun q => (by cases q), fun j => (hk j).2⟩
    · obtain ⟨b, off, spot⟩ := a
      have hspot : spot = none := by simpa [Addr.add] using World.cell?_spot ((hk 0).1 hpos 0 _ rfl)
      subst hspot
      have at3 : ∀ j, j < len → ∀ k v, [.int .i32 (l j).w, .int .i64 (l j).f, .int .i32 (l j).d][k]? = some v → w.cell? ⟨b, off + j * 3 + k, none⟩ = some v := fun j hj k v hv => by
        have := (hk j).1 hj k v hv
        rw [Addr.add_lit, Addr.add_lit] at this
        exact this
      exact ⟨b, off, rfl, lt_of_cell (at3 0 hpos 0 _ rfl), fun j hj => ⟨at3 j hj 0 _ rfl, at3 j hj 1 _ rfl, at3 j hj 2 _ rfl⟩⟩
    · have := hz (((elems.map (·.1)).length + (rest.map (·.1)).length) * Try.prog.bytesOf 40) (by rw [hx]; simp [DataW.weights, Try.underlying32])
      rw [show Try.prog.bytesOf 40 = 24 from by kernel_rfl] at this
      simp only [List.length_map] at this
      unfold reachBytes at this
      omega
end

end Go.Proofs.Ytihcioghbidblaa
