/-
  Whatever is handed in, the law WatchQuiet returns true: of a lane where nothing is off no count goes up, and none is Set that wasn't. No condition.
-/
import Derived.Test.YthfbdnhhmnehaaaWatStp
import Derived.Test.YthfbdnhhmnehaaaWatEq
import Derived.Test.YthfbdnhhmnehaaaOpenZ
import Derived.ProofKit
namespace Go.Proofs.Ythfbdnhhmnehaaa.watchQuiet
open Go.ChangeShapes Go.WideShapes Go.ChangeAt Go.RowKit
set_option linter.unusedVariables false

theorem own : ownKnob Try.prog.godebug = none := by kernel_rfl
theorem laidOut : laidOutB Try.prog = true := by kernel_rfl

theorem list2 {l : List Value} (h : l.length = 2) : ∃ c0 c1, l = [c0, c1] := by
  match l, h with
  | [c0, c1], _ => exact ⟨c0, c1, rfl⟩

theorem list3 {l : List Value} (h : l.length = 3) : ∃ c0 c1 c2, l = [c0, c1, c2] := by
  match l, h with
  | [c0, c1, c2], _ => exact ⟨c0, c1, c2, rfl⟩

theorem list5 {l : List Value} (h : l.length = 5) : ∃ c0 c1 c2 c3 c4, l = [c0, c1, c2, c3, c4] := by
  match l, h with
  | [c0, c1, c2, c3, c4], _ => exact ⟨c0, c1, c2, c3, c4, rfl⟩

theorem list8 {l : List Value} (h : l.length = 8) : ∃ c0 c1 c2 c3 c4 c5 c6 c7, l = [c0, c1, c2, c3, c4, c5, c6, c7] := by
  match l, h with
  | [c0, c1, c2, c3, c4, c5, c6, c7], _ => exact ⟨c0, c1, c2, c3, c4, c5, c6, c7, rfl⟩

theorem list10 {l : List Value} (h : l.length = 10) : ∃ c0 c1 c2 c3 c4 c5 c6 c7 c8 c9, l = [c0, c1, c2, c3, c4, c5, c6, c7, c8, c9] := by
  match l, h with
  | [c0, c1, c2, c3, c4, c5, c6, c7, c8, c9], _ => exact ⟨c0, c1, c2, c3, c4, c5, c6, c7, c8, c9, rfl⟩

theorem open22 {H : Type} {enc : TypeId × Value → H} {w : World} {base : Nat} {spare : Nat → Bool} {held : Bool} {fuel : Nat} {cs : List Value} {x : DataW H × List MemPlace} (h : DataW.trod enc Try.prog w base spare held fuel 22 cs = some x) (hz : Light Try.prog 22 x.1) :
    ∃ v0 : Int, ∃ v1 : Int, ∃ v2 : Int, ∃ v3 : Int, ∃ v4 : Int, cs = [.int .i32 v0, .int .i32 v1, .int .i32 v2, .int .i32 v3, .int .i32 v4] ∧ (Lit.int .i32 v0).wf = true ∧ (Lit.int .i32 v1).wf = true ∧ (Lit.int .i32 v2).wf = true ∧ (Lit.int .i32 v3).wf = true ∧ (Lit.int .i32 v4).wf = true := by
  obtain ⟨hl, hf⟩ := trod_elem_z Try.underlying22 h hz
  rw [show Try.prog.cellsOf 22 = 5 from by kernel_rfl] at hl
  obtain ⟨c0, c1, c2, c3, c4, rfl⟩ := list5 hl
  obtain ⟨n0, y0, h0, z0⟩ := hf 0 (by decide)
  replace h0 : DataW.trod enc Try.prog w base spare held n0 21 (([c0, c1, c2, c3, c4] : List Value).drop (0 * Try.prog.cellsOf 21) |>.take (Try.prog.cellsOf 21)) = some y0 := h0
  rw [show Try.prog.cellsOf 21 = 1 from by kernel_rfl] at h0
  replace h0 : DataW.trod enc Try.prog w base spare held n0 21 [c0] = some y0 := h0
  obtain ⟨n1, y1, h1, z1⟩ := hf 1 (by decide)
  replace h1 : DataW.trod enc Try.prog w base spare held n1 21 (([c0, c1, c2, c3, c4] : List Value).drop (1 * Try.prog.cellsOf 21) |>.take (Try.prog.cellsOf 21)) = some y1 := h1
  rw [show Try.prog.cellsOf 21 = 1 from by kernel_rfl] at h1
  replace h1 : DataW.trod enc Try.prog w base spare held n1 21 [c1] = some y1 := h1
  obtain ⟨n2, y2, h2, z2⟩ := hf 2 (by decide)
  replace h2 : DataW.trod enc Try.prog w base spare held n2 21 (([c0, c1, c2, c3, c4] : List Value).drop (2 * Try.prog.cellsOf 21) |>.take (Try.prog.cellsOf 21)) = some y2 := h2
  rw [show Try.prog.cellsOf 21 = 1 from by kernel_rfl] at h2
  replace h2 : DataW.trod enc Try.prog w base spare held n2 21 [c2] = some y2 := h2
  obtain ⟨n3, y3, h3, z3⟩ := hf 3 (by decide)
  replace h3 : DataW.trod enc Try.prog w base spare held n3 21 (([c0, c1, c2, c3, c4] : List Value).drop (3 * Try.prog.cellsOf 21) |>.take (Try.prog.cellsOf 21)) = some y3 := h3
  rw [show Try.prog.cellsOf 21 = 1 from by kernel_rfl] at h3
  replace h3 : DataW.trod enc Try.prog w base spare held n3 21 [c3] = some y3 := h3
  obtain ⟨n4, y4, h4, z4⟩ := hf 4 (by decide)
  replace h4 : DataW.trod enc Try.prog w base spare held n4 21 (([c0, c1, c2, c3, c4] : List Value).drop (4 * Try.prog.cellsOf 21) |>.take (Try.prog.cellsOf 21)) = some y4 := h4
  rw [show Try.prog.cellsOf 21 = 1 from by kernel_rfl] at h4
  replace h4 : DataW.trod enc Try.prog w base spare held n4 21 [c4] = some y4 := h4
  obtain ⟨x0, e0, _, f0_0⟩ := DataW.trod_int Try.underlying21 h0
  simp only [List.cons.injEq, and_true] at e0
  obtain rfl := e0
  obtain ⟨x1, e1, _, f1_0⟩ := DataW.trod_int Try.underlying21 h1
  simp only [List.cons.injEq, and_true] at e1
  obtain rfl := e1
  obtain ⟨x2, e2, _, f2_0⟩ := DataW.trod_int Try.underlying21 h2
  simp only [List.cons.injEq, and_true] at e2
  obtain rfl := e2
  obtain ⟨x3, e3, _, f3_0⟩ := DataW.trod_int Try.underlying21 h3
  simp only [List.cons.injEq, and_true] at e3
  obtain rfl := e3
  obtain ⟨x4, e4, _, f4_0⟩ := DataW.trod_int Try.underlying21 h4
  simp only [List.cons.injEq, and_true] at e4
  obtain rfl := e4
  exact ⟨x0, x1, x2, x3, x4, rfl, f0_0, f1_0, f2_0, f3_0, f4_0⟩

theorem open24 {H : Type} {enc : TypeId × Value → H} {w : World} {base : Nat} {spare : Nat → Bool} {held : Bool} {fuel : Nat} {cs : List Value} {x : DataW H × List MemPlace} (h : DataW.trod enc Try.prog w base spare held fuel 24 cs = some x) (hz : Light Try.prog 24 x.1) :
    ∃ vUp : Int, ∃ vDown : Int, ∃ vMost : Int, cs = [.int .i64 vUp, .int .i64 vDown, .int .i64 vMost] ∧ (Lit.int .i64 vUp).wf = true ∧ (Lit.int .i64 vDown).wf = true ∧ (Lit.int .i64 vMost).wf = true := by
  obtain ⟨hl, hf⟩ := trod_field_z Try.underlying24 h hz
  rw [show Try.prog.cellsOf 24 = 3 from by kernel_rfl] at hl
  obtain ⟨c0, c1, c2, rfl⟩ := list3 hl
  obtain ⟨n0, y0, h0, z0⟩ := hf 0 _ rfl
  replace h0 : DataW.trod enc Try.prog w base spare held n0 3 (([c0, c1, c2] : List Value).drop 0 |>.take (Try.prog.cellsOf 3)) = some y0 := h0
  rw [show Try.prog.cellsOf 3 = 1 from by kernel_rfl] at h0
  replace h0 : DataW.trod enc Try.prog w base spare held n0 3 [c0] = some y0 := h0
  obtain ⟨n1, y1, h1, z1⟩ := hf 1 _ rfl
  replace h1 : DataW.trod enc Try.prog w base spare held n1 3 (([c0, c1, c2] : List Value).drop 1 |>.take (Try.prog.cellsOf 3)) = some y1 := h1
  rw [show Try.prog.cellsOf 3 = 1 from by kernel_rfl] at h1
  replace h1 : DataW.trod enc Try.prog w base spare held n1 3 [c1] = some y1 := h1
  obtain ⟨n2, y2, h2, z2⟩ := hf 2 _ rfl
  replace h2 : DataW.trod enc Try.prog w base spare held n2 3 (([c0, c1, c2] : List Value).drop 2 |>.take (Try.prog.cellsOf 3)) = some y2 := h2
  rw [show Try.prog.cellsOf 3 = 1 from by kernel_rfl] at h2
  replace h2 : DataW.trod enc Try.prog w base spare held n2 3 [c2] = some y2 := h2
  obtain ⟨x0, e0, _, f0_0⟩ := DataW.trod_int Try.underlying3 h0
  simp only [List.cons.injEq, and_true] at e0
  obtain rfl := e0
  obtain ⟨x1, e1, _, f1_0⟩ := DataW.trod_int Try.underlying3 h1
  simp only [List.cons.injEq, and_true] at e1
  obtain rfl := e1
  obtain ⟨x2, e2, _, f2_0⟩ := DataW.trod_int Try.underlying3 h2
  simp only [List.cons.injEq, and_true] at e2
  obtain rfl := e2
  exact ⟨x0, x1, x2, rfl, f0_0, f1_0, f2_0⟩

theorem open26 {H : Type} {enc : TypeId × Value → H} {w : World} {base : Nat} {spare : Nat → Bool} {held : Bool} {fuel : Nat} {cs : List Value} {x : DataW H × List MemPlace} (h : DataW.trod enc Try.prog w base spare held fuel 26 cs = some x) (hz : Light Try.prog 26 x.1) :
    ∃ vMost0 : Int, ∃ vMost1 : Int, ∃ vMost2 : Int, ∃ vMost3 : Int, ∃ vMost4 : Int, ∃ vPersistUp : Int, ∃ vPersistDown : Int, ∃ vPersistMost : Int, cs = [.int .i32 vMost0, .int .i32 vMost1, .int .i32 vMost2, .int .i32 vMost3, .int .i32 vMost4, .int .i64 vPersistUp, .int .i64 vPersistDown, .int .i64 vPersistMost] ∧ (Lit.int .i32 vMost0).wf = true ∧ (Lit.int .i32 vMost1).wf = true ∧ (Lit.int .i32 vMost2).wf = true ∧ (Lit.int .i32 vMost3).wf = true ∧ (Lit.int .i32 vMost4).wf = true ∧ (Lit.int .i64 vPersistUp).wf = true ∧ (Lit.int .i64 vPersistDown).wf = true ∧ (Lit.int .i64 vPersistMost).wf = true := by
  obtain ⟨hl, hf⟩ := trod_field_z Try.underlying26 h hz
  rw [show Try.prog.cellsOf 26 = 8 from by kernel_rfl] at hl
  obtain ⟨c0, c1, c2, c3, c4, c5, c6, c7, rfl⟩ := list8 hl
  obtain ⟨n0, y0, h0, z0⟩ := hf 0 _ rfl
  replace h0 : DataW.trod enc Try.prog w base spare held n0 22 (([c0, c1, c2, c3, c4, c5, c6, c7] : List Value).drop 0 |>.take (Try.prog.cellsOf 22)) = some y0 := h0
  rw [show Try.prog.cellsOf 22 = 5 from by kernel_rfl] at h0
  replace h0 : DataW.trod enc Try.prog w base spare held n0 22 [c0, c1, c2, c3, c4] = some y0 := h0
  obtain ⟨n1, y1, h1, z1⟩ := hf 1 _ rfl
  replace h1 : DataW.trod enc Try.prog w base spare held n1 24 (([c0, c1, c2, c3, c4, c5, c6, c7] : List Value).drop 5 |>.take (Try.prog.cellsOf 24)) = some y1 := h1
  rw [show Try.prog.cellsOf 24 = 3 from by kernel_rfl] at h1
  replace h1 : DataW.trod enc Try.prog w base spare held n1 24 [c5, c6, c7] = some y1 := h1
  obtain ⟨x00, x01, x02, x03, x04, e0, f0_0, f0_1, f0_2, f0_3, f0_4⟩ := open22 h0 z0
  simp only [List.cons.injEq, and_true] at e0
  obtain ⟨rfl, rfl, rfl, rfl, rfl⟩ := e0
  obtain ⟨x1Up, x1Down, x1Most, e1, f1_0, f1_1, f1_2⟩ := open24 h1 z1
  simp only [List.cons.injEq, and_true] at e1
  obtain ⟨rfl, rfl, rfl⟩ := e1
  exact ⟨x00, x01, x02, x03, x04, x1Up, x1Down, x1Most, rfl, f0_0, f0_1, f0_2, f0_3, f0_4, f1_0, f1_1, f1_2⟩

theorem open28 {H : Type} {enc : TypeId × Value → H} {w : World} {base : Nat} {spare : Nat → Bool} {held : Bool} {fuel : Nat} {cs : List Value} {x : DataW H × List MemPlace} (h : DataW.trod enc Try.prog w base spare held fuel 28 cs = some x) (hz : Light Try.prog 28 x.1) :
    ∃ vN : Int, ∃ vSet : Bool, cs = [.int .i64 vN, .bool vSet] ∧ (Lit.int .i64 vN).wf = true := by
  obtain ⟨hl, hf⟩ := trod_field_z Try.underlying28 h hz
  rw [show Try.prog.cellsOf 28 = 2 from by kernel_rfl] at hl
  obtain ⟨c0, c1, rfl⟩ := list2 hl
  obtain ⟨n0, y0, h0, z0⟩ := hf 0 _ rfl
  replace h0 : DataW.trod enc Try.prog w base spare held n0 3 (([c0, c1] : List Value).drop 0 |>.take (Try.prog.cellsOf 3)) = some y0 := h0
  rw [show Try.prog.cellsOf 3 = 1 from by kernel_rfl] at h0
  replace h0 : DataW.trod enc Try.prog w base spare held n0 3 [c0] = some y0 := h0
  obtain ⟨n1, y1, h1, z1⟩ := hf 1 _ rfl
  replace h1 : DataW.trod enc Try.prog w base spare held n1 4 (([c0, c1] : List Value).drop 1 |>.take (Try.prog.cellsOf 4)) = some y1 := h1
  rw [show Try.prog.cellsOf 4 = 1 from by kernel_rfl] at h1
  replace h1 : DataW.trod enc Try.prog w base spare held n1 4 [c1] = some y1 := h1
  obtain ⟨x0, e0, _, f0_0⟩ := DataW.trod_int Try.underlying3 h0
  simp only [List.cons.injEq, and_true] at e0
  obtain rfl := e0
  obtain ⟨x1, e1, _⟩ := DataW.trod_bool Try.underlying4 h1
  simp only [List.cons.injEq, and_true] at e1
  obtain rfl := e1
  exact ⟨x0, x1, rfl, f0_0⟩

theorem open29 {H : Type} {enc : TypeId × Value → H} {w : World} {base : Nat} {spare : Nat → Bool} {held : Bool} {fuel : Nat} {cs : List Value} {x : DataW H × List MemPlace} (h : DataW.trod enc Try.prog w base spare held fuel 29 cs = some x) (hz : Light Try.prog 29 x.1) :
    ∃ v0N : Int, ∃ v0Set : Bool, ∃ v1N : Int, ∃ v1Set : Bool, ∃ v2N : Int, ∃ v2Set : Bool, ∃ v3N : Int, ∃ v3Set : Bool, ∃ v4N : Int, ∃ v4Set : Bool, cs = [.int .i64 v0N, .bool v0Set, .int .i64 v1N, .bool v1Set, .int .i64 v2N, .bool v2Set, .int .i64 v3N, .bool v3Set, .int .i64 v4N, .bool v4Set] ∧ (Lit.int .i64 v0N).wf = true ∧ (Lit.int .i64 v1N).wf = true ∧ (Lit.int .i64 v2N).wf = true ∧ (Lit.int .i64 v3N).wf = true ∧ (Lit.int .i64 v4N).wf = true := by
  obtain ⟨hl, hf⟩ := trod_elem_z Try.underlying29 h hz
  rw [show Try.prog.cellsOf 29 = 10 from by kernel_rfl] at hl
  obtain ⟨c0, c1, c2, c3, c4, c5, c6, c7, c8, c9, rfl⟩ := list10 hl
  obtain ⟨n0, y0, h0, z0⟩ := hf 0 (by decide)
  replace h0 : DataW.trod enc Try.prog w base spare held n0 28 (([c0, c1, c2, c3, c4, c5, c6, c7, c8, c9] : List Value).drop (0 * Try.prog.cellsOf 28) |>.take (Try.prog.cellsOf 28)) = some y0 := h0
  rw [show Try.prog.cellsOf 28 = 2 from by kernel_rfl] at h0
  replace h0 : DataW.trod enc Try.prog w base spare held n0 28 [c0, c1] = some y0 := h0
  obtain ⟨n1, y1, h1, z1⟩ := hf 1 (by decide)
  replace h1 : DataW.trod enc Try.prog w base spare held n1 28 (([c0, c1, c2, c3, c4, c5, c6, c7, c8, c9] : List Value).drop (1 * Try.prog.cellsOf 28) |>.take (Try.prog.cellsOf 28)) = some y1 := h1
  rw [show Try.prog.cellsOf 28 = 2 from by kernel_rfl] at h1
  replace h1 : DataW.trod enc Try.prog w base spare held n1 28 [c2, c3] = some y1 := h1
  obtain ⟨n2, y2, h2, z2⟩ := hf 2 (by decide)
  replace h2 : DataW.trod enc Try.prog w base spare held n2 28 (([c0, c1, c2, c3, c4, c5, c6, c7, c8, c9] : List Value).drop (2 * Try.prog.cellsOf 28) |>.take (Try.prog.cellsOf 28)) = some y2 := h2
  rw [show Try.prog.cellsOf 28 = 2 from by kernel_rfl] at h2
  replace h2 : DataW.trod enc Try.prog w base spare held n2 28 [c4, c5] = some y2 := h2
  obtain ⟨n3, y3, h3, z3⟩ := hf 3 (by decide)
  replace h3 : DataW.trod enc Try.prog w base spare held n3 28 (([c0, c1, c2, c3, c4, c5, c6, c7, c8, c9] : List Value).drop (3 * Try.prog.cellsOf 28) |>.take (Try.prog.cellsOf 28)) = some y3 := h3
  rw [show Try.prog.cellsOf 28 = 2 from by kernel_rfl] at h3
  replace h3 : DataW.trod enc Try.prog w base spare held n3 28 [c6, c7] = some y3 := h3
  obtain ⟨n4, y4, h4, z4⟩ := hf 4 (by decide)
  replace h4 : DataW.trod enc Try.prog w base spare held n4 28 (([c0, c1, c2, c3, c4, c5, c6, c7, c8, c9] : List Value).drop (4 * Try.prog.cellsOf 28) |>.take (Try.prog.cellsOf 28)) = some y4 := h4
  rw [show Try.prog.cellsOf 28 = 2 from by kernel_rfl] at h4
  replace h4 : DataW.trod enc Try.prog w base spare held n4 28 [c8, c9] = some y4 := h4
  obtain ⟨x0N, x0Set, e0, f0_0⟩ := open28 h0 z0
  simp only [List.cons.injEq, and_true] at e0
  obtain ⟨rfl, rfl⟩ := e0
  obtain ⟨x1N, x1Set, e1, f1_0⟩ := open28 h1 z1
  simp only [List.cons.injEq, and_true] at e1
  obtain ⟨rfl, rfl⟩ := e1
  obtain ⟨x2N, x2Set, e2, f2_0⟩ := open28 h2 z2
  simp only [List.cons.injEq, and_true] at e2
  obtain ⟨rfl, rfl⟩ := e2
  obtain ⟨x3N, x3Set, e3, f3_0⟩ := open28 h3 z3
  simp only [List.cons.injEq, and_true] at e3
  obtain ⟨rfl, rfl⟩ := e3
  obtain ⟨x4N, x4Set, e4, f4_0⟩ := open28 h4 z4
  simp only [List.cons.injEq, and_true] at e4
  obtain ⟨rfl, rfl⟩ := e4
  exact ⟨x0N, x0Set, x1N, x1Set, x2N, x2Set, x3N, x3Set, x4N, x4Set, rfl, f0_0, f1_0, f2_0, f3_0, f4_0⟩


/-- five bools by their place -/
def p5 (a b c d e : Bool) (j : Nat) : Bool := if j = 0 then a else if j = 1 then b else if j = 2 then c else if j = 3 then d else e

set_option maxHeartbeats 8000000 in
set_option maxRecDepth 100000 in
theorem walk_bad (M N : Nat → Int) (S : Nat → Bool) (u d m x : Int) (w : World) (CZ : Hid (∀ W, Calls Try.prog 7 #[.agg #[.int .i32 0, .int .i32 0, .int .i32 0, .int .i32 0, .int .i32 0, .int .i64 1, .int .i64 1, .int .i64 1], .agg #[.int .i64 0, .bool false, .int .i64 0, .bool false, .int .i64 0, .bool false, .int .i64 0, .bool false, .int .i64 0, .bool false], .agg #[.int .i32 1, .int .i32 0, .int .i32 0, .int .i32 0, .int .i32 0, .int .i32 0, .bool true]] W fun r w' => r = .returned (.tuple #[.agg #[.int .i64 1, .bool true, .int .i64 0, .bool false, .int .i64 0, .bool false, .int .i64 0, .bool false, .int .i64 0, .bool false], .bool true, .int .i64 0]) ∧ Below W.heap.size W w')) (CS : Hid (∀ W, Calls Try.prog 7 #[.agg #[.int .i32 (M 0), .int .i32 (M 1), .int .i32 (M 2), .int .i32 (M 3), .int .i32 (M 4), .int .i64 u, .int .i64 d, .int .i64 m], .agg #[.int .i64 (N 0), .bool (S 0), .int .i64 (N 1), .bool (S 1), .int .i64 (N 2), .bool (S 2), .int .i64 (N 3), .bool (S 3), .int .i64 (N 4), .bool (S 4)], .agg #[.int .i32 x, .int .i32 x, .int .i32 x, .int .i32 x, .int .i32 x, .int .i32 0, .bool true]] W fun r w' => r = .returned (.tuple #[.agg #[.int .i64 0, .bool false, .int .i64 0, .bool false, .int .i64 0, .bool false, .int .i64 0, .bool false, .int .i64 0, .bool false], .bool false, .int .i64 1]) ∧ Below W.heap.size W w')) :
    Calls Try.prog 4 #[.agg #[.int .i32 (M 0), .int .i32 (M 1), .int .i32 (M 2), .int .i32 (M 3), .int .i32 (M 4), .int .i64 u, .int .i64 d, .int .i64 m], .agg #[.int .i64 (N 0), .bool (S 0), .int .i64 (N 1), .bool (S 1), .int .i64 (N 2), .bool (S 2), .int .i64 (N 3), .bool (S 3), .int .i64 (N 4), .bool (S 4)], .int .i32 x] w fun r w' => r = .returned (.bool true) ∧ Below w.heap.size w w' := by
  obtain ⟨W0, hW0, B0', Z0'⟩ := lay3n w #[.int .i32 (M 0), .int .i32 (M 1), .int .i32 (M 2), .int .i32 (M 3), .int .i32 (M 4), .int .i64 u, .int .i64 d, .int .i64 m] #[.int .i64 (N 0), .bool (S 0), .int .i64 (N 1), .bool (S 1), .int .i64 (N 2), .bool (S 2), .int .i64 (N 3), .bool (S 3), .int .i64 (N 4), .bool (S 4)] #[.int .i32 0, .int .i32 0, .int .i32 0, .int .i32 0, .int .i32 0, .int .i64 1, .int .i64 1, .int .i64 1] 26 29 26
  have HW : Hid (_) := hW0
  have B0 : Hid (_) := B0'
  clear hW0 B0' Z0'
  go_enter Try.func4, Try.ntmps4
  go_wp2_with fail
  rw [HW.out]
  clear HW
  refine (CZ.out _).mono ?_
  rintro e w1 ⟨rfl, hb⟩
  have B1 : Hid (_) := B0.out.step hb
  clear hb B0 CZ
  have pl := (B1.out.blk 0 (w.heap.size) _ rfl rfl).lt
  have p0 := (B1.out.blk 0 (w.heap.size) _ rfl rfl).cell 0 _ rfl
  have p1 := (B1.out.blk 0 (w.heap.size) _ rfl rfl).cell 1 _ rfl
  have p2 := (B1.out.blk 0 (w.heap.size) _ rfl rfl).cell 2 _ rfl
  have p3 := (B1.out.blk 0 (w.heap.size) _ rfl rfl).cell 3 _ rfl
  have p4 := (B1.out.blk 0 (w.heap.size) _ rfl rfl).cell 4 _ rfl
  have p5 := (B1.out.blk 0 (w.heap.size) _ rfl rfl).cell 5 _ rfl
  have p6 := (B1.out.blk 0 (w.heap.size) _ rfl rfl).cell 6 _ rfl
  have p7 := (B1.out.blk 0 (w.heap.size) _ rfl rfl).cell 7 _ rfl
  have ql := (B1.out.blk 1 (w.heap.size + 1) _ rfl rfl).lt
  have q0 := (B1.out.blk 1 (w.heap.size + 1) _ rfl rfl).cell 0 _ rfl
  have q1 := (B1.out.blk 1 (w.heap.size + 1) _ rfl rfl).cell 1 _ rfl
  have q2 := (B1.out.blk 1 (w.heap.size + 1) _ rfl rfl).cell 2 _ rfl
  have q3 := (B1.out.blk 1 (w.heap.size + 1) _ rfl rfl).cell 3 _ rfl
  have q4 := (B1.out.blk 1 (w.heap.size + 1) _ rfl rfl).cell 4 _ rfl
  have q5 := (B1.out.blk 1 (w.heap.size + 1) _ rfl rfl).cell 5 _ rfl
  have q6 := (B1.out.blk 1 (w.heap.size + 1) _ rfl rfl).cell 6 _ rfl
  have q7 := (B1.out.blk 1 (w.heap.size + 1) _ rfl rfl).cell 7 _ rfl
  have q8 := (B1.out.blk 1 (w.heap.size + 1) _ rfl rfl).cell 8 _ rfl
  have q9 := (B1.out.blk 1 (w.heap.size + 1) _ rfl rfl).cell 9 _ rfl
  go_wp2_with fail
  refine (CS.out _).mono ?_
  rintro e w2 ⟨rfl, hb⟩
  have B2 : Hid (_) := ((B1.out.alloc (.cells #[.int .i64 1, .bool true, .int .i64 0, .bool false, .int .i64 0, .bool false, .int .i64 0, .bool false, .int .i64 0, .bool false] 29)).step hb).alloc (.cells #[.int .i64 0, .bool false, .int .i64 0, .bool false, .int .i64 0, .bool false, .int .i64 0, .bool false, .int .i64 0, .bool false] 29)
  have X2 : Hid (_) := cells_new w2 #[.int .i64 0, .bool false, .int .i64 0, .bool false, .int .i64 0, .bool false, .int .i64 0, .bool false, .int .i64 0, .bool false] 29
  clear hb B1 CS
  clear pl p0 p1 p2 p3 p4 p5 p6 p7
  clear ql q0 q1 q2 q3 q4 q5 q6 q7 q8 q9
  have Q2 := fun W => eq5c 0 0 0 0 0 false false false false false W
  go_wp2_with fail
  go_ret
  exact ⟨rfl, B2.out.bel⟩

set_option maxHeartbeats 8000000 in
set_option maxRecDepth 100000 in
theorem walk_ok (M N nn : Nat → Int) (S ss : Nat → Bool) (g : Bool) (u d m x : Int) (w : World) (CZ : Hid (∀ W, Calls Try.prog 7 #[.agg #[.int .i32 0, .int .i32 0, .int .i32 0, .int .i32 0, .int .i32 0, .int .i64 1, .int .i64 1, .int .i64 1], .agg #[.int .i64 0, .bool false, .int .i64 0, .bool false, .int .i64 0, .bool false, .int .i64 0, .bool false, .int .i64 0, .bool false], .agg #[.int .i32 1, .int .i32 0, .int .i32 0, .int .i32 0, .int .i32 0, .int .i32 0, .bool true]] W fun r w' => r = .returned (.tuple #[.agg #[.int .i64 1, .bool true, .int .i64 0, .bool false, .int .i64 0, .bool false, .int .i64 0, .bool false, .int .i64 0, .bool false], .bool true, .int .i64 0]) ∧ Below W.heap.size W w')) (CS : Hid (∀ W, Calls Try.prog 7 #[.agg #[.int .i32 (M 0), .int .i32 (M 1), .int .i32 (M 2), .int .i32 (M 3), .int .i32 (M 4), .int .i64 u, .int .i64 d, .int .i64 m], .agg #[.int .i64 (N 0), .bool (S 0), .int .i64 (N 1), .bool (S 1), .int .i64 (N 2), .bool (S 2), .int .i64 (N 3), .bool (S 3), .int .i64 (N 4), .bool (S 4)], .agg #[.int .i32 x, .int .i32 x, .int .i32 x, .int .i32 x, .int .i32 x, .int .i32 0, .bool true]] W fun r w' => r = .returned (.tuple #[.agg #[.int .i64 (nn 0), .bool (ss 0), .int .i64 (nn 1), .bool (ss 1), .int .i64 (nn 2), .bool (ss 2), .int .i64 (nn 3), .bool (ss 3), .int .i64 (nn 4), .bool (ss 4)], .bool g, .int .i64 0]) ∧ Below W.heap.size W w')) (HN : Hid (∀ j, j < 5 → nn j ≤ N j)) (HS : Hid (∀ j, j < 5 → ss j = true → S j = false → nn j = m)) :
    Calls Try.prog 4 #[.agg #[.int .i32 (M 0), .int .i32 (M 1), .int .i32 (M 2), .int .i32 (M 3), .int .i32 (M 4), .int .i64 u, .int .i64 d, .int .i64 m], .agg #[.int .i64 (N 0), .bool (S 0), .int .i64 (N 1), .bool (S 1), .int .i64 (N 2), .bool (S 2), .int .i64 (N 3), .bool (S 3), .int .i64 (N 4), .bool (S 4)], .int .i32 x] w fun r w' => r = .returned (.bool true) ∧ Below w.heap.size w w' := by
  obtain ⟨W0, hW0, B0', Z0'⟩ := lay3n w #[.int .i32 (M 0), .int .i32 (M 1), .int .i32 (M 2), .int .i32 (M 3), .int .i32 (M 4), .int .i64 u, .int .i64 d, .int .i64 m] #[.int .i64 (N 0), .bool (S 0), .int .i64 (N 1), .bool (S 1), .int .i64 (N 2), .bool (S 2), .int .i64 (N 3), .bool (S 3), .int .i64 (N 4), .bool (S 4)] #[.int .i32 0, .int .i32 0, .int .i32 0, .int .i32 0, .int .i32 0, .int .i64 1, .int .i64 1, .int .i64 1] 26 29 26
  have HW : Hid (_) := hW0
  have B0 : Hid (_) := B0'
  clear hW0 B0' Z0'
  go_enter Try.func4, Try.ntmps4
  go_wp2_with fail
  rw [HW.out]
  clear HW
  refine (CZ.out _).mono ?_
  rintro e w1 ⟨rfl, hb⟩
  have B1 : Hid (_) := B0.out.step hb
  clear hb B0 CZ
  have pl := (B1.out.blk 0 (w.heap.size) _ rfl rfl).lt
  have p0 := (B1.out.blk 0 (w.heap.size) _ rfl rfl).cell 0 _ rfl
  have p1 := (B1.out.blk 0 (w.heap.size) _ rfl rfl).cell 1 _ rfl
  have p2 := (B1.out.blk 0 (w.heap.size) _ rfl rfl).cell 2 _ rfl
  have p3 := (B1.out.blk 0 (w.heap.size) _ rfl rfl).cell 3 _ rfl
  have p4 := (B1.out.blk 0 (w.heap.size) _ rfl rfl).cell 4 _ rfl
  have p5 := (B1.out.blk 0 (w.heap.size) _ rfl rfl).cell 5 _ rfl
  have p6 := (B1.out.blk 0 (w.heap.size) _ rfl rfl).cell 6 _ rfl
  have p7 := (B1.out.blk 0 (w.heap.size) _ rfl rfl).cell 7 _ rfl
  have ql := (B1.out.blk 1 (w.heap.size + 1) _ rfl rfl).lt
  have q0 := (B1.out.blk 1 (w.heap.size + 1) _ rfl rfl).cell 0 _ rfl
  have q1 := (B1.out.blk 1 (w.heap.size + 1) _ rfl rfl).cell 1 _ rfl
  have q2 := (B1.out.blk 1 (w.heap.size + 1) _ rfl rfl).cell 2 _ rfl
  have q3 := (B1.out.blk 1 (w.heap.size + 1) _ rfl rfl).cell 3 _ rfl
  have q4 := (B1.out.blk 1 (w.heap.size + 1) _ rfl rfl).cell 4 _ rfl
  have q5 := (B1.out.blk 1 (w.heap.size + 1) _ rfl rfl).cell 5 _ rfl
  have q6 := (B1.out.blk 1 (w.heap.size + 1) _ rfl rfl).cell 6 _ rfl
  have q7 := (B1.out.blk 1 (w.heap.size + 1) _ rfl rfl).cell 7 _ rfl
  have q8 := (B1.out.blk 1 (w.heap.size + 1) _ rfl rfl).cell 8 _ rfl
  have q9 := (B1.out.blk 1 (w.heap.size + 1) _ rfl rfl).cell 9 _ rfl
  go_wp2_with fail
  refine (CS.out _).mono ?_
  rintro e w2 ⟨rfl, hb⟩
  have B2 : Hid (_) := ((B1.out.alloc (.cells #[.int .i64 1, .bool true, .int .i64 0, .bool false, .int .i64 0, .bool false, .int .i64 0, .bool false, .int .i64 0, .bool false] 29)).step hb).alloc (.cells #[.int .i64 (nn 0), .bool (ss 0), .int .i64 (nn 1), .bool (ss 1), .int .i64 (nn 2), .bool (ss 2), .int .i64 (nn 3), .bool (ss 3), .int .i64 (nn 4), .bool (ss 4)] 29)
  have X2 : Hid (_) := cells_new w2 #[.int .i64 (nn 0), .bool (ss 0), .int .i64 (nn 1), .bool (ss 1), .int .i64 (nn 2), .bool (ss 2), .int .i64 (nn 3), .bool (ss 3), .int .i64 (nn 4), .bool (ss 4)] 29
  clear hb B1 CS
  clear pl p0 p1 p2 p3 p4 p5 p6 p7
  clear ql q0 q1 q2 q3 q4 q5 q6 q7 q8 q9
  go_wp2_with fail
  generalize w2.alloc (.cells #[.int .i64 (nn 0), .bool (ss 0), .int .i64 (nn 1), .bool (ss 1), .int .i64 (nn 2), .bool (ss 2), .int .i64 (nn 3), .bool (ss 3), .int .i64 (nn 4), .bool (ss 4)] 29) = w3 at *
  generalize w2.heap.size = b at *
  go_loopg [64] (6) (fun gk q wr => ∃ j : Nat, q = .int .i64 j ∧ 5 - j < gk ∧ j ≤ 5 ∧ Hid (Lay w [[.int .i32 (M 0), .int .i32 (M 1), .int .i32 (M 2), .int .i32 (M 3), .int .i32 (M 4), .int .i64 u, .int .i64 d, .int .i64 m], [.int .i64 (N 0), .bool (S 0), .int .i64 (N 1), .bool (S 1), .int .i64 (N 2), .bool (S 2), .int .i64 (N 3), .bool (S 3), .int .i64 (N 4), .bool (S 4)], [.int .i32 0, .int .i32 0, .int .i32 0, .int .i32 0, .int .i32 0, .int .i64 1, .int .i64 1, .int .i64 1]] wr) ∧ Hid (Cells wr b [.int .i64 (nn 0), .bool (ss 0), .int .i64 (nn 1), .bool (ss 1), .int .i64 (nn 2), .bool (ss 2), .int .i64 (nn 3), .bool (ss 3), .int .i64 (nn 4), .bool (ss 4)]))
  case atStart => exact ⟨0, rfl, by omega, by omega, B2, X2⟩
  case round =>
    obtain ⟨j, rfl, hg, hj, D1, D2⟩ := hrel
    clear B2 X2
    have p7 := (D1.out.blk 0 (w.heap.size) _ rfl rfl).cell 7 _ rfl
    have pl := (D1.out.blk 0 (w.heap.size) _ rfl rfl).lt
    by_cases hlt : j < 5
    · obtain rfl | rfl | rfl | rfl | rfl := cases5 hlt
      · have q0 := (D1.out.blk 1 (w.heap.size + 1) _ rfl rfl).cell 0 _ rfl
        have q1 := (D1.out.blk 1 (w.heap.size + 1) _ rfl rfl).cell 1 _ rfl
        have ql := (D1.out.blk 1 (w.heap.size + 1) _ rfl rfl).lt
        have y0 := D2.out.cell 0 _ rfl
        have y1 := D2.out.cell 1 _ rfl
        have yl := D2.out.lt
        have hd : decide (N 0 < nn 0) = false := decide_eq_false (by have := HN.out 0 (by omega); omega)
        rcases Bool.eq_false_or_eq_true (ss 0) with hf | hf
        rotate_left
        · rw [hf] at y1
          clear hf
          go_wp2_with fail
          go_quiet (fail)
          go_wp2_with fail
          go_roundg (5 - (0 + 1) + 1)
          case measure => omega
          case rel => exact ⟨1, rfl, by omega, by omega, D1.out.step ⟨rfl, rfl, rfl, Nat.le_refl _, fun _ _ => rfl⟩, D2.out.step ⟨rfl, rfl, rfl, Nat.le_refl _, fun _ _ => rfl⟩⟩
        · rcases Bool.eq_false_or_eq_true (S 0) with hs | hs
          rotate_left
          · have hm : decide (nn 0 < m) = false := decide_eq_false (by have := HS.out 0 (by omega) hf hs; omega)
            rw [hf] at y1
            rw [hs] at q1
            clear hf hs
            go_wp2_with fail
            go_quiet (fail)
            go_wp2_with fail
            go_roundg (5 - (0 + 1) + 1)
            case measure => omega
            case rel => exact ⟨1, rfl, by omega, by omega, D1.out.step ⟨rfl, rfl, rfl, Nat.le_refl _, fun _ _ => rfl⟩, D2.out.step ⟨rfl, rfl, rfl, Nat.le_refl _, fun _ _ => rfl⟩⟩
          · rw [hf] at y1
            rw [hs] at q1
            clear hf hs
            go_wp2_with fail
            go_quiet (fail)
            go_wp2_with fail
            go_roundg (5 - (0 + 1) + 1)
            case measure => omega
            case rel => exact ⟨1, rfl, by omega, by omega, D1.out.step ⟨rfl, rfl, rfl, Nat.le_refl _, fun _ _ => rfl⟩, D2.out.step ⟨rfl, rfl, rfl, Nat.le_refl _, fun _ _ => rfl⟩⟩
      · have q0 := (D1.out.blk 1 (w.heap.size + 1) _ rfl rfl).cell 2 _ rfl
        have q1 := (D1.out.blk 1 (w.heap.size + 1) _ rfl rfl).cell 3 _ rfl
        have ql := (D1.out.blk 1 (w.heap.size + 1) _ rfl rfl).lt
        have y0 := D2.out.cell 2 _ rfl
        have y1 := D2.out.cell 3 _ rfl
        have yl := D2.out.lt
        have hd : decide (N 1 < nn 1) = false := decide_eq_false (by have := HN.out 1 (by omega); omega)
        rcases Bool.eq_false_or_eq_true (ss 1) with hf | hf
        rotate_left
        · rw [hf] at y1
          clear hf
          go_wp2_with fail
          go_quiet (fail)
          go_wp2_with fail
          go_roundg (5 - (1 + 1) + 1)
          case measure => omega
          case rel => exact ⟨2, rfl, by omega, by omega, D1.out.step ⟨rfl, rfl, rfl, Nat.le_refl _, fun _ _ => rfl⟩, D2.out.step ⟨rfl, rfl, rfl, Nat.le_refl _, fun _ _ => rfl⟩⟩
        · rcases Bool.eq_false_or_eq_true (S 1) with hs | hs
          rotate_left
          · have hm : decide (nn 1 < m) = false := decide_eq_false (by have := HS.out 1 (by omega) hf hs; omega)
            rw [hf] at y1
            rw [hs] at q1
            clear hf hs
            go_wp2_with fail
            go_quiet (fail)
            go_wp2_with fail
            go_roundg (5 - (1 + 1) + 1)
            case measure => omega
            case rel => exact ⟨2, rfl, by omega, by omega, D1.out.step ⟨rfl, rfl, rfl, Nat.le_refl _, fun _ _ => rfl⟩, D2.out.step ⟨rfl, rfl, rfl, Nat.le_refl _, fun _ _ => rfl⟩⟩
          · rw [hf] at y1
            rw [hs] at q1
            clear hf hs
            go_wp2_with fail
            go_quiet (fail)
            go_wp2_with fail
            go_roundg (5 - (1 + 1) + 1)
            case measure => omega
            case rel => exact ⟨2, rfl, by omega, by omega, D1.out.step ⟨rfl, rfl, rfl, Nat.le_refl _, fun _ _ => rfl⟩, D2.out.step ⟨rfl, rfl, rfl, Nat.le_refl _, fun _ _ => rfl⟩⟩
      · have q0 := (D1.out.blk 1 (w.heap.size + 1) _ rfl rfl).cell 4 _ rfl
        have q1 := (D1.out.blk 1 (w.heap.size + 1) _ rfl rfl).cell 5 _ rfl
        have ql := (D1.out.blk 1 (w.heap.size + 1) _ rfl rfl).lt
        have y0 := D2.out.cell 4 _ rfl
        have y1 := D2.out.cell 5 _ rfl
        have yl := D2.out.lt
        have hd : decide (N 2 < nn 2) = false := decide_eq_false (by have := HN.out 2 (by omega); omega)
        rcases Bool.eq_false_or_eq_true (ss 2) with hf | hf
        rotate_left
        · rw [hf] at y1
          clear hf
          go_wp2_with fail
          go_quiet (fail)
          go_wp2_with fail
          go_roundg (5 - (2 + 1) + 1)
          case measure => omega
          case rel => exact ⟨3, rfl, by omega, by omega, D1.out.step ⟨rfl, rfl, rfl, Nat.le_refl _, fun _ _ => rfl⟩, D2.out.step ⟨rfl, rfl, rfl, Nat.le_refl _, fun _ _ => rfl⟩⟩
        · rcases Bool.eq_false_or_eq_true (S 2) with hs | hs
          rotate_left
          · have hm : decide (nn 2 < m) = false := decide_eq_false (by have := HS.out 2 (by omega) hf hs; omega)
            rw [hf] at y1
            rw [hs] at q1
            clear hf hs
            go_wp2_with fail
            go_quiet (fail)
            go_wp2_with fail
            go_roundg (5 - (2 + 1) + 1)
            case measure => omega
            case rel => exact ⟨3, rfl, by omega, by omega, D1.out.step ⟨rfl, rfl, rfl, Nat.le_refl _, fun _ _ => rfl⟩, D2.out.step ⟨rfl, rfl, rfl, Nat.le_refl _, fun _ _ => rfl⟩⟩
          · rw [hf] at y1
            rw [hs] at q1
            clear hf hs
            go_wp2_with fail
            go_quiet (fail)
            go_wp2_with fail
            go_roundg (5 - (2 + 1) + 1)
            case measure => omega
            case rel => exact ⟨3, rfl, by omega, by omega, D1.out.step ⟨rfl, rfl, rfl, Nat.le_refl _, fun _ _ => rfl⟩, D2.out.step ⟨rfl, rfl, rfl, Nat.le_refl _, fun _ _ => rfl⟩⟩
      · have q0 := (D1.out.blk 1 (w.heap.size + 1) _ rfl rfl).cell 6 _ rfl
        have q1 := (D1.out.blk 1 (w.heap.size + 1) _ rfl rfl).cell 7 _ rfl
        have ql := (D1.out.blk 1 (w.heap.size + 1) _ rfl rfl).lt
        have y0 := D2.out.cell 6 _ rfl
        have y1 := D2.out.cell 7 _ rfl
        have yl := D2.out.lt
        have hd : decide (N 3 < nn 3) = false := decide_eq_false (by have := HN.out 3 (by omega); omega)
        rcases Bool.eq_false_or_eq_true (ss 3) with hf | hf
        rotate_left
        · rw [hf] at y1
          clear hf
          go_wp2_with fail
          go_quiet (fail)
          go_wp2_with fail
          go_roundg (5 - (3 + 1) + 1)
          case measure => omega
          case rel => exact ⟨4, rfl, by omega, by omega, D1.out.step ⟨rfl, rfl, rfl, Nat.le_refl _, fun _ _ => rfl⟩, D2.out.step ⟨rfl, rfl, rfl, Nat.le_refl _, fun _ _ => rfl⟩⟩
        · rcases Bool.eq_false_or_eq_true (S 3) with hs | hs
          rotate_left
          · have hm : decide (nn 3 < m) = false := decide_eq_false (by have := HS.out 3 (by omega) hf hs; omega)
            rw [hf] at y1
            rw [hs] at q1
            clear hf hs
            go_wp2_with fail
            go_quiet (fail)
            go_wp2_with fail
            go_roundg (5 - (3 + 1) + 1)
            case measure => omega
            case rel => exact ⟨4, rfl, by omega, by omega, D1.out.step ⟨rfl, rfl, rfl, Nat.le_refl _, fun _ _ => rfl⟩, D2.out.step ⟨rfl, rfl, rfl, Nat.le_refl _, fun _ _ => rfl⟩⟩
          · rw [hf] at y1
            rw [hs] at q1
            clear hf hs
            go_wp2_with fail
            go_quiet (fail)
            go_wp2_with fail
            go_roundg (5 - (3 + 1) + 1)
            case measure => omega
            case rel => exact ⟨4, rfl, by omega, by omega, D1.out.step ⟨rfl, rfl, rfl, Nat.le_refl _, fun _ _ => rfl⟩, D2.out.step ⟨rfl, rfl, rfl, Nat.le_refl _, fun _ _ => rfl⟩⟩
      · have q0 := (D1.out.blk 1 (w.heap.size + 1) _ rfl rfl).cell 8 _ rfl
        have q1 := (D1.out.blk 1 (w.heap.size + 1) _ rfl rfl).cell 9 _ rfl
        have ql := (D1.out.blk 1 (w.heap.size + 1) _ rfl rfl).lt
        have y0 := D2.out.cell 8 _ rfl
        have y1 := D2.out.cell 9 _ rfl
        have yl := D2.out.lt
        have hd : decide (N 4 < nn 4) = false := decide_eq_false (by have := HN.out 4 (by omega); omega)
        rcases Bool.eq_false_or_eq_true (ss 4) with hf | hf
        rotate_left
        · rw [hf] at y1
          clear hf
          go_wp2_with fail
          go_quiet (fail)
          go_wp2_with fail
          go_roundg (5 - (4 + 1) + 1)
          case measure => omega
          case rel => exact ⟨5, rfl, by omega, by omega, D1.out.step ⟨rfl, rfl, rfl, Nat.le_refl _, fun _ _ => rfl⟩, D2.out.step ⟨rfl, rfl, rfl, Nat.le_refl _, fun _ _ => rfl⟩⟩
        · rcases Bool.eq_false_or_eq_true (S 4) with hs | hs
          rotate_left
          · have hm : decide (nn 4 < m) = false := decide_eq_false (by have := HS.out 4 (by omega) hf hs; omega)
            rw [hf] at y1
            rw [hs] at q1
            clear hf hs
            go_wp2_with fail
            go_quiet (fail)
            go_wp2_with fail
            go_roundg (5 - (4 + 1) + 1)
            case measure => omega
            case rel => exact ⟨5, rfl, by omega, by omega, D1.out.step ⟨rfl, rfl, rfl, Nat.le_refl _, fun _ _ => rfl⟩, D2.out.step ⟨rfl, rfl, rfl, Nat.le_refl _, fun _ _ => rfl⟩⟩
          · rw [hf] at y1
            rw [hs] at q1
            clear hf hs
            go_wp2_with fail
            go_quiet (fail)
            go_wp2_with fail
            go_roundg (5 - (4 + 1) + 1)
            case measure => omega
            case rel => exact ⟨5, rfl, by omega, by omega, D1.out.step ⟨rfl, rfl, rfl, Nat.le_refl _, fun _ _ => rfl⟩, D2.out.step ⟨rfl, rfl, rfl, Nat.le_refl _, fun _ _ => rfl⟩⟩
    · obtain rfl : j = 5 := by omega
      go_wp2_with fail
      go_ret
      exact ⟨rfl, D1.out.bel⟩

theorem far_self {a x : Int} (h : 0 ≤ a) : farB a x x = false := by
  unfold farB absI
  rw [Int.sub_self]
  exact decide_eq_false (by simp; omega)
theorem above_zero {a : Int} (h : 0 ≤ a) : aboveB a 0 = false := by
  have e : s32 (absI 0) = 0 := by decide
  unfold aboveB
  rw [e]
  exact decide_eq_false (by omega)

set_option maxRecDepth 100000 in
theorem walk (wvMost0 : Int) (wvMost1 : Int) (wvMost2 : Int) (wvMost3 : Int) (wvMost4 : Int) (wvPersistUp : Int) (wvPersistDown : Int) (wvPersistMost : Int) (s0N : Int) (s0Set : Bool) (s1N : Int) (s1Set : Bool) (s2N : Int) (s2Set : Bool) (s3N : Int) (s3Set : Bool) (s4N : Int) (s4Set : Bool) (x : Int) (w : World) (h_wvMost0 : (Lit.int .i32 wvMost0).wf = true) (h_wvMost1 : (Lit.int .i32 wvMost1).wf = true) (h_wvMost2 : (Lit.int .i32 wvMost2).wf = true) (h_wvMost3 : (Lit.int .i32 wvMost3).wf = true) (h_wvMost4 : (Lit.int .i32 wvMost4).wf = true) (h_wvPersistUp : (Lit.int .i64 wvPersistUp).wf = true) (h_wvPersistDown : (Lit.int .i64 wvPersistDown).wf = true) (h_wvPersistMost : (Lit.int .i64 wvPersistMost).wf = true) (h_s0N : (Lit.int .i64 s0N).wf = true) (h_s1N : (Lit.int .i64 s1N).wf = true) (h_s2N : (Lit.int .i64 s2N).wf = true) (h_s3N : (Lit.int .i64 s3N).wf = true) (h_s4N : (Lit.int .i64 s4N).wf = true) (h_x : (Lit.int .i32 x).wf = true) :
    Calls Try.prog 4 #[.agg #[.int .i32 wvMost0, .int .i32 wvMost1, .int .i32 wvMost2, .int .i32 wvMost3, .int .i32 wvMost4, .int .i64 wvPersistUp, .int .i64 wvPersistDown, .int .i64 wvPersistMost], .agg #[.int .i64 s0N, .bool s0Set, .int .i64 s1N, .bool s1Set, .int .i64 s2N, .bool s2Set, .int .i64 s3N, .bool s3Set, .int .i64 s4N, .bool s4Set], .int .i32 x] w fun e w' => e = .returned (.bool true) ∧ Below w.heap.size w w' := by
  have q0 : Q32 0 := ⟨by decide, by decide⟩
  have CZ : Hid (∀ W, Calls Try.prog 7 #[.agg #[.int .i32 0, .int .i32 0, .int .i32 0, .int .i32 0, .int .i32 0, .int .i64 1, .int .i64 1, .int .i64 1], .agg #[.int .i64 0, .bool false, .int .i64 0, .bool false, .int .i64 0, .bool false, .int .i64 0, .bool false, .int .i64 0, .bool false], .agg #[.int .i32 1, .int .i32 0, .int .i32 0, .int .i32 0, .int .i32 0, .int .i32 0, .bool true]] W fun r w' => r = .returned (.tuple #[.agg #[.int .i64 1, .bool true, .int .i64 0, .bool false, .int .i64 0, .bool false, .int .i64 0, .bool false, .int .i64 0, .bool false], .bool true, .int .i64 0]) ∧ Below W.heap.size W w') := fun W => by
    have hl : ∀ W, Calls Try.prog 9 #[.agg #[.int .i32 0, .int .i32 0, .int .i32 0, .int .i32 0, .int .i32 0, .int .i64 1, .int .i64 1, .int .i64 1], .agg #[.int .i32 1, .int .i32 0, .int .i32 0, .int .i32 0, .int .i32 0, .int .i32 0, .bool true]] W fun e w' => e = .returned (.agg #[.bool true, .bool false, .bool false, .bool false, .bool false]) ∧ Below W.heap.size W w' := fun W => by
      have h := look_any 0 0 0 0 0 1 1 1 1 0 0 0 0 0 true W ⟨q0, q0, q0, q0, q0, ⟨by decide, by decide⟩, q0, q0, q0, q0, q0⟩
      rw [show farB 0 1 0 = true from by decide, show farB 0 0 0 = false from by decide, show aboveB 0 0 = false from by decide] at h
      exact h
    have h := wstep_ok 1 1 1 (fun _ => 0) (fun _ => 0) (fun _ => false) (p5 true false false false false) 1 0 0 0 0 0 true (q5 1 0 0 0 0) (p5 true false false false false) (fun j => if j = 0 then false else true) W
      (fun _ _ => ⟨Int.le_refl _, (by decide : OkC 1 1 1 0)⟩) (fun W => hl W)
      (fun j => by unfold p5 q5; repeat' split
                   all_goals rfl)
      (fun j => by unfold p5 q5; repeat' split
                   all_goals rfl) rfl (fun j => by
        unfold p5
        by_cases h : j = 0
        · subst h; rfl
        · rw [if_neg (by omega), if_neg h, Bool.true_or])
    exact h
  by_cases h : OkW wvPersistUp wvPersistDown wvPersistMost (q5 wvMost0 wvMost1 wvMost2 wvMost3 wvMost4) (q5 s0N s1N s2N s3N s4N)
  · obtain ⟨nn, hn⟩ : ∃ nn : Nat → Int, ∀ j, nxI wvPersistUp wvPersistDown wvPersistMost ((q5 s0N s1N s2N s3N s4N) j) ((p5 false false false false false) j) = nn j := ⟨_, fun _ => rfl⟩
    obtain ⟨ss, hs⟩ : ∃ ss : Nat → Bool, ∀ j, nxB wvPersistMost (nn j) ((p5 s0Set s1Set s2Set s3Set s4Set) j) = ss j := ⟨_, fun _ => rfl⟩
    obtain ⟨A, hA0, hA⟩ : ∃ A : Nat → Bool, A 0 = false ∧ ∀ j, A (j + 1) = (A j || ss j) := ⟨fun j => Nat.rec false (fun k r => r || ss k) j, rfl, fun _ => rfl⟩
    have hB : ∀ j, (p5 false false false false false) j = false := fun j => by
      unfold p5
      repeat' split
      all_goals rfl
    have CL : Hid (∀ W, Calls Try.prog 9 #[.agg #[.int .i32 wvMost0, .int .i32 wvMost1, .int .i32 wvMost2, .int .i32 wvMost3, .int .i32 wvMost4, .int .i64 wvPersistUp, .int .i64 wvPersistDown, .int .i64 wvPersistMost], .agg #[.int .i32 x, .int .i32 x, .int .i32 x, .int .i32 x, .int .i32 x, .int .i32 0, .bool true]] W fun e w' => e = .returned (.agg #[.bool false, .bool false, .bool false, .bool false, .bool false]) ∧ Below W.heap.size W w') := fun W => by
      have g := look_any wvMost0 wvMost1 wvMost2 wvMost3 wvMost4 wvPersistUp wvPersistDown wvPersistMost x x x x x 0 true W ⟨i32_of h_wvMost0, i32_of h_wvMost1, i32_of h_wvMost2, i32_of h_wvMost3, i32_of h_wvMost4, i32_of h_x, i32_of h_x, i32_of h_x, i32_of h_x, i32_of h_x, q0⟩
      rw [far_self (a := wvMost0) (h 0 (by omega)).1, far_self (a := wvMost1) (h 1 (by omega)).1, far_self (a := wvMost2) (h 2 (by omega)).1, above_zero (a := wvMost3) (h 3 (by omega)).1] at g
      exact g
    have HN : ∀ j, j < 5 → nn j ≤ (q5 s0N s1N s2N s3N s4N) j := fun j hj => by
      have := (h j hj).2
      obtain ⟨h1, h2, h3, h4, h5⟩ := this
      rw [← hn, hB]
      unfold nxI
      rw [if_neg (by decide)]
      split <;> omega
    have HS : ∀ j, j < 5 → ss j = true → (p5 s0Set s1Set s2Set s3Set s4Set) j = false → nn j = wvPersistMost := fun j hj h1 h2 => by
      rw [← hs, h2] at h1
      unfold nxB at h1
      simpa using h1
    exact walk_ok (q5 wvMost0 wvMost1 wvMost2 wvMost3 wvMost4) (q5 s0N s1N s2N s3N s4N) nn (p5 s0Set s1Set s2Set s3Set s4Set) ss (A 5) wvPersistUp wvPersistDown wvPersistMost x w CZ (fun W => wstep_ok wvPersistUp wvPersistDown wvPersistMost (q5 wvMost0 wvMost1 wvMost2 wvMost3 wvMost4) (q5 s0N s1N s2N s3N s4N) (p5 s0Set s1Set s2Set s3Set s4Set) (p5 false false false false false) x x x x x 0 true nn ss A W h CL hn hs hA0 hA) HN HS
  · exact walk_bad (q5 wvMost0 wvMost1 wvMost2 wvMost3 wvMost4) (q5 s0N s1N s2N s3N s4N) (p5 s0Set s1Set s2Set s3Set s4Set) wvPersistUp wvPersistDown wvPersistMost x w CZ (fun W => wstep_bad wvPersistUp wvPersistDown wvPersistMost (q5 wvMost0 wvMost1 wvMost2 wvMost3 wvMost4) (q5 s0N s1N s2N s3N s4N) (p5 s0Set s1Set s2Set s3Set s4Set) x x x x x 0 true W h)

/-! ### THE ROW's STEP -/
set_option maxRecDepth 100000 in
theorem lifted (os : Os) (started : os.Started) (H : Type) (enc : TypeId × Value → H) :
    ReturnsInHanded {} Try.checked os 4 .any (Rows.watchQuietSpec.pre6 enc Try.prog Try.f4 Rows.watchQuietRow.domain false) (Rows.watchQuietSpec.post enc Try.prog Try.f4 false true false false) := by
  refine returnsInHanded_of_change_sized (C := Try.checked) own started (by kernel_rfl) Try.func4
    (ChangeSpec.witness6 (enc := enc) (C := Try.checked) false ⟨#[], #[.agg #[.int .i32 0, .int .i32 0, .int .i32 0, .int .i32 0, .int .i32 0, .int .i64 0, .int .i64 0, .int .i64 0], .agg #[.int .i64 0, .bool false, .int .i64 0, .bool false, .int .i64 0, .bool false, .int .i64 0, .bool false, .int .i64 0, .bool false], .int .i32 0], []⟩ 8 (by kernel_rfl) (by kernel_rfl) (by kernel_rfl) (by kernel_rfl)) ?_
  intro W base args ds gs before hval0 hW hcnd hsz0 _
  have hval : ∀ (j : Nat) t v, Try.f4.params[j]? = some t → args[j]? = some v → Value.okWide Try.prog W .any base t v := hval0
  have hW' := hW
  obtain ⟨p, q, hA0, hV, rfl, hfz, hnd⟩ := hW
  have hA : DataW.TrodAll enc Try.prog W 0 (fun _ => true) true Try.f4.params.toList args.toList ds p := hA0
  rw [Try.params4] at hA hval
  obtain ⟨v_0, vs_0, d_0, ds_0, p_0, q_0, hargs, rfl, rfl, h_0, r_0⟩ := trodAll_cons hA
  obtain ⟨v_1, vs_1, d_1, ds_1, p_1, q_1, rfl, rfl, rfl, h_1, r_1⟩ := trodAll_cons r_0
  obtain ⟨v_2, vs_2, d_2, ds_2, p_2, q_2, rfl, rfl, rfl, h_2, r_2⟩ := trodAll_cons r_1
  obtain ⟨rfl, rfl, rfl⟩ := trodAll_nil r_2
  obtain rfl : args = #[v_0, v_1, v_2] := by cases args; simp_all
  obtain ⟨rfl, rfl⟩ := trodVars_none hV
  have hz_0 : Light Try.prog 26 d_0 := light_of hsz0 (j := 0) (by first | rfl | (rw [Try.params4]; rfl)) rfl
  have k_0 := h_0
  have lt_0 : ∀ x ∈ p_0, x.block < W.heap.size := by obtain ⟨m, hm⟩ := k_0; exact DataW.trod_lt m _ _ _ hm
  obtain ⟨cs_0, rfl, _⟩ := okWide_struct Try.underlying26 (hval 0 26 v_0 rfl rfl)
  obtain ⟨wvMost0, wvMost1, wvMost2, wvMost3, wvMost4, wvPersistUp, wvPersistDown, wvPersistMost, e_0, h_wvMost0, h_wvMost1, h_wvMost2, h_wvMost3, h_wvMost4, h_wvPersistUp, h_wvPersistDown, h_wvPersistMost⟩ := (by obtain ⟨fuel, hf⟩ := h_0; exact open26 hf hz_0 : ∃ wvMost0 : Int, ∃ wvMost1 : Int, ∃ wvMost2 : Int, ∃ wvMost3 : Int, ∃ wvMost4 : Int, ∃ wvPersistUp : Int, ∃ wvPersistDown : Int, ∃ wvPersistMost : Int, cs_0.toList = [.int .i32 wvMost0, .int .i32 wvMost1, .int .i32 wvMost2, .int .i32 wvMost3, .int .i32 wvMost4, .int .i64 wvPersistUp, .int .i64 wvPersistDown, .int .i64 wvPersistMost] ∧ (Lit.int .i32 wvMost0).wf = true ∧ (Lit.int .i32 wvMost1).wf = true ∧ (Lit.int .i32 wvMost2).wf = true ∧ (Lit.int .i32 wvMost3).wf = true ∧ (Lit.int .i32 wvMost4).wf = true ∧ (Lit.int .i64 wvPersistUp).wf = true ∧ (Lit.int .i64 wvPersistDown).wf = true ∧ (Lit.int .i64 wvPersistMost).wf = true)
  obtain rfl : cs_0 = #[.int .i32 wvMost0, .int .i32 wvMost1, .int .i32 wvMost2, .int .i32 wvMost3, .int .i32 wvMost4, .int .i64 wvPersistUp, .int .i64 wvPersistDown, .int .i64 wvPersistMost] := by cases cs_0; simp_all
  clear e_0
  have hz_1 : Light Try.prog 29 d_1 := light_of hsz0 (j := 1) (by first | rfl | (rw [Try.params4]; rfl)) rfl
  have k_1 := h_1
  have lt_1 : ∀ x ∈ p_1, x.block < W.heap.size := by obtain ⟨m, hm⟩ := k_1; exact DataW.trod_lt m _ _ _ hm
  obtain ⟨cs_1, rfl, _⟩ := okWide_array Try.underlying29 (hval 1 29 v_1 rfl rfl)
  obtain ⟨s0N, s0Set, s1N, s1Set, s2N, s2Set, s3N, s3Set, s4N, s4Set, e_1, h_s0N, h_s1N, h_s2N, h_s3N, h_s4N⟩ := (by obtain ⟨fuel, hf⟩ := h_1; exact open29 hf hz_1 : ∃ s0N : Int, ∃ s0Set : Bool, ∃ s1N : Int, ∃ s1Set : Bool, ∃ s2N : Int, ∃ s2Set : Bool, ∃ s3N : Int, ∃ s3Set : Bool, ∃ s4N : Int, ∃ s4Set : Bool, cs_1.toList = [.int .i64 s0N, .bool s0Set, .int .i64 s1N, .bool s1Set, .int .i64 s2N, .bool s2Set, .int .i64 s3N, .bool s3Set, .int .i64 s4N, .bool s4Set] ∧ (Lit.int .i64 s0N).wf = true ∧ (Lit.int .i64 s1N).wf = true ∧ (Lit.int .i64 s2N).wf = true ∧ (Lit.int .i64 s3N).wf = true ∧ (Lit.int .i64 s4N).wf = true)
  obtain rfl : cs_1 = #[.int .i64 s0N, .bool s0Set, .int .i64 s1N, .bool s1Set, .int .i64 s2N, .bool s2Set, .int .i64 s3N, .bool s3Set, .int .i64 s4N, .bool s4Set] := by cases cs_1; simp_all
  clear e_1
  have hz_2 : Light Try.prog 21 d_2 := light_of hsz0 (j := 2) (by first | rfl | (rw [Try.params4]; rfl)) rfl
  have k_2 := h_2
  have lt_2 : ∀ x ∈ p_2, x.block < W.heap.size := by obtain ⟨m, hm⟩ := k_2; exact DataW.trod_lt m _ _ _ hm
  obtain ⟨x, rfl, rfl, rfl, h_x⟩ := open_int Try.underlying21 (hval 2 21 v_2 rfl rfl) h_2
  clear hA0 hval0
  refine (walk wvMost0 wvMost1 wvMost2 wvMost3 wvMost4 wvPersistUp wvPersistDown wvPersistMost s0N s0Set s1N s1Set s2N s2Set s3N s3Set s4N s4Set x W h_wvMost0 h_wvMost1 h_wvMost2 h_wvMost3 h_wvMost4 h_wvPersistUp h_wvPersistDown h_wvPersistMost h_s0N h_s1N h_s2N h_s3N h_s4N h_x).mono fun e W' ⟨he, bel⟩ => ?_
  subst he
  exact ⟨_, rfl, _, _, _, [], _, [], hW', trodAll_mk1 (shut_bool Try.underlying4 _), (trodAll_cons_mk (Below.trod laidOut (by kernel_rfl) (of_decide_eq_true (by kernel_rfl)) k_0 bel lt_0) (trodAll_cons_mk (Below.trod laidOut (by kernel_rfl) (of_decide_eq_true (by kernel_rfl)) k_1 bel lt_1) (trodAll_cons_mk (Below.trod laidOut (by kernel_rfl) (of_decide_eq_true (by kernel_rfl)) k_2 bel lt_2) trodAll_mk0))), rfl, bel.frame _, fun h => by cases h⟩

theorem over : Rows.watchQuietRow.holds Try.pinned (OpenSpec.ofChange Rows.watchQuietSpec) :=
  OpenClaim.holds_of_wide 4 Try.f4 rfl rfl rfl rfl rfl rfl rfl ⟨rfl, rfl, rfl, rfl, rfl⟩ rfl rfl rfl rfl rfl (by kernel_rfl) Try.func4 (by kernel_rfl)
    (of_decide_eq_true (by kernel_rfl)) (by unfold Func.isWrapper; first | (rw [if_pos (by decide +kernel)]; kernel_rfl) | (rw [if_neg (by decide +kernel)]; exact ⟨rfl, rfl⟩))
    (fun os started H enc _ => lifted os started H enc)


end Go.Proofs.Ythfbdnhhmnehaaa.watchQuiet
namespace Go.Proofs.Ythfbdnhhmnehaaa
/-- THE STATEMENT -/
theorem watchQuiet_holds : Rows.WatchQuietSaid := watchQuiet.over
#print axioms watchQuiet_holds
end Go.Proofs.Ythfbdnhhmnehaaa
