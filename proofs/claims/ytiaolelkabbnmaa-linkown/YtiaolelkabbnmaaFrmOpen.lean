/-
  A frame that came in: its words; what lies in a box.
-/
import Derived.Test.YtiaolelkabbnmaaFrmAll
import Derived.Test.YtiaolelkabbnmaaOpenZ
namespace Go.Proofs.Ytiaolelkabbnmaa
open Go.RowKit
set_option linter.unusedVariables false

theorem wds_of {w : World} {a : Option Addr} {n c : Nat} {l : Nat → Int} (h : RowZ .i32 4 w a n c l) : Wds w a n l ∧ In32 l ∧ n ≤ 35184372087808 := by
  obtain ⟨⟨_, _, h3, h4⟩, h5, _⟩ := h
  refine ⟨fun h0 => ?_, fun j => bounds_i32 (h3 j), by omega⟩
  obtain ⟨b, o, e, hlt, hr⟩ := h4 h0
  exact ⟨b, o, e, hlt, hr⟩
/-- a frame in a box -/
theorem frame_cells {w : World} {b : Nat} {v0 v1 v2 v3 : Value} (h : Cells w b [v0, v1, v2, v3]) : b < w.heap.size ∧ w.cell? ⟨b, 0, none⟩ = some v0 ∧ w.cell? ⟨b, 1, none⟩ = some v1 ∧ w.cell? ⟨b, 2, none⟩ = some v2 ∧ w.cell? ⟨b, 3, none⟩ = some v3 :=
  ⟨h.lt, h.cell 0 _ rfl, h.cell 1 _ rfl, h.cell 2 _ rfl, h.cell 3 _ rfl⟩

end Go.Proofs.Ytiaolelkabbnmaa
