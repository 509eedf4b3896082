/-
  Whatever is handed in, the law WatchSays returns true: all calls of package watch answer what the document says. No condition.
-/
import Derived.Test.YthfbdnhhmnehaaaRWatStp
import Derived.Test.YthfbdnhhmnehaaaRWat
import Derived.Test.YthfbdnhhmnehaaaWatEq
import Derived.Test.YthfbdnhhmnehaaaOpenZ
import Derived.ProofKit
namespace Go.Proofs.Ythfbdnhhmnehaaa.watchSays
open Go.ChangeShapes Go.WideShapes Go.ChangeAt Go.RowKit
set_option linter.unusedVariables false

theorem own : ownKnob Try.prog.godebug = none := by kernel_rfl
theorem laidOut : laidOutB Try.prog = true := by kernel_rfl

theorem list2 {l : List Value} (h : l.length = 2) : ∃ c0 c1, l = [c0, c1] := by
  match l, h with
  | [c0, c1], _ => exact ⟨c0, c1, rfl⟩

theorem list3 {l : List Value} (h : l.length = 3) : ∃ c0 c1 c2, l = [c0, c1, c2] := by
  match l, h with
  | [c0, c1, c2], _ => exact ⟨c0, c1, c2, rfl⟩

theorem list5 {l : List Value} (h : l.length = 5) : ∃ c0 c1 c2 c3 c4, l = [c0, c1, c2, c3, c4] := by
  match l, h with
  | [c0, c1, c2, c3, c4], _ => exact ⟨c0, c1, c2, c3, c4, rfl⟩

theorem list7 {l : List Value} (h : l.length = 7) : ∃ c0 c1 c2 c3 c4 c5 c6, l = [c0, c1, c2, c3, c4, c5, c6] := by
  match l, h with
  | [c0, c1, c2, c3, c4, c5, c6], _ => exact ⟨c0, c1, c2, c3, c4, c5, c6, rfl⟩

theorem list8 {l : List Value} (h : l.length = 8) : ∃ c0 c1 c2 c3 c4 c5 c6 c7, l = [c0, c1, c2, c3, c4, c5, c6, c7] := by
  match l, h with
  | [c0, c1, c2, c3, c4, c5, c6, c7], _ => exact ⟨c0, c1, c2, c3, c4, c5, c6, c7, rfl⟩

theorem list10 {l : List Value} (h : l.length = 10) : ∃ c0 c1 c2 c3 c4 c5 c6 c7 c8 c9, l = [c0, c1, c2, c3, c4, c5, c6, c7, c8, c9] := by
  match l, h with
  | [c0, c1, c2, c3, c4, c5, c6, c7, c8, c9], _ => exact ⟨c0, c1, c2, c3, c4, c5, c6, c7, c8, c9, rfl⟩

theorem open22 {H : Type} {enc : TypeId × Value → H} {w : World} {base : Nat} {spare : Nat → Bool} {held : Bool} {fuel : Nat} {cs : List Value} {x : DataW H × List MemPlace} (h : DataW.trod enc Try.prog w base spare held fuel 22 cs = some x) (hz : Light Try.prog 22 x.1) :
    ∃ v0 : Int, ∃ v1 : Int, ∃ v2 : Int, ∃ v3 : Int, ∃ v4 : Int, cs = [.int .i32 v0, .int .i32 v1, .int .i32 v2, .int .i32 v3, .int .i32 v4] ∧ (Lit.int .i32 v0).wf = true ∧ (Lit.int .i32 v1).wf = true ∧ (Lit.int .i32 v2).wf = true ∧ (Lit.int .i32 v3).wf = true ∧ (Lit.int .i32 v4).wf = true := by
  obtain ⟨hl, hf⟩ := trod_elem_z Try.underlying22 h hz
  rw [show Try.prog.cellsOf 22 = 5 from by kernel_rfl] at hl
  obtain ⟨c0, c1, c2, c3, c4, rfl⟩ := list5 hl
  obtain ⟨n0, y0, h0, z0⟩ := hf 0 (by decide)
  replace h0 : DataW.trod enc Try.prog w base spare held n0 21 (([c0, c1, c2, c3, c4] : List Value).drop (0 * Try.prog.cellsOf 21) |>.take (Try.prog.cellsOf 21)) = some y0 := h0
  rw [show Try.prog.cellsOf 21 = 1 from by kernel_rfl] at h0
  replace h0 : DataW.trod enc Try.prog w base spare held n0 21 [c0] = some y0 := h0
  obtain ⟨n1, y1, h1, z1⟩ := hf 1 (by decide)
  replace h1 : DataW.trod enc Try.prog w base spare held n1 21 (([c0, c1, c2, c3, c4] : List Value).drop (1 * Try.prog.cellsOf 21) |>.take (Try.prog.cellsOf 21)) = some y1 := h1
  rw [show Try.prog.cellsOf 21 = 1 from by kernel_rfl] at h1
  replace h1 : DataW.trod enc Try.prog w base spare held n1 21 [c1] = some y1 := h1
  obtain ⟨n2, y2, h2, z2⟩ := hf 2 (by decide)
  replace h2 : DataW.trod enc Try.prog w base spare held n2 21 (([c0, c1, c2, c3, c4] : List Value).drop (2 * Try.prog.cellsOf 21) |>.take (Try.prog.cellsOf 21)) = some y2 := h2
  rw [show Try.prog.cellsOf 21 = 1 from by kernel_rfl] at h2
  replace h2 : DataW.trod enc Try.prog w base spare held n2 21 [c2] = some y2 := h2
  obtain ⟨n3, y3, h3, z3⟩ := hf 3 (by decide)
  replace h3 : DataW.trod enc Try.prog w base spare held n3 21 (([c0, c1, c2, c3, c4] : List Value).drop (3 * Try.prog.cellsOf 21) |>.take (Try.prog.cellsOf 21)) = some y3 := h3
  rw [show Try.prog.cellsOf 21 = 1 from by kernel_rfl] at h3
  replace h3 : DataW.trod enc Try.prog w base spare held n3 21 [c3] = some y3 := h3
  obtain ⟨n4, y4, h4, z4⟩ := hf 4 (by decide)
  replace h4 : DataW.trod enc Try.prog w base spare held n4 21 (([c0, c1, c2, c3, c4] : List Value).drop (4 * Try.prog.cellsOf 21) |>.take (Try.prog.cellsOf 21)) = some y4 := h4
  rw [show Try.prog.cellsOf 21 = 1 from by kernel_rfl] at h4
  replace h4 : DataW.trod enc Try.prog w base spare held n4 21 [c4] = some y4 := h4
  obtain ⟨x0, e0, _, f0_0⟩ := DataW.trod_int Try.underlying21 h0
  simp only [List.cons.injEq, and_true] at e0
  obtain rfl := e0
  obtain ⟨x1, e1, _, f1_0⟩ := DataW.trod_int Try.underlying21 h1
  simp only [List.cons.injEq, and_true] at e1
  obtain rfl := e1
  obtain ⟨x2, e2, _, f2_0⟩ := DataW.trod_int Try.underlying21 h2
  simp only [List.cons.injEq, and_true] at e2
  obtain rfl := e2
  obtain ⟨x3, e3, _, f3_0⟩ := DataW.trod_int Try.underlying21 h3
  simp only [List.cons.injEq, and_true] at e3
  obtain rfl := e3
  obtain ⟨x4, e4, _, f4_0⟩ := DataW.trod_int Try.underlying21 h4
  simp only [List.cons.injEq, and_true] at e4
  obtain rfl := e4
  exact ⟨x0, x1, x2, x3, x4, rfl, f0_0, f1_0, f2_0, f3_0, f4_0⟩

theorem open24 {H : Type} {enc : TypeId × Value → H} {w : World} {base : Nat} {spare : Nat → Bool} {held : Bool} {fuel : Nat} {cs : List Value} {x : DataW H × List MemPlace} (h : DataW.trod enc Try.prog w base spare held fuel 24 cs = some x) (hz : Light Try.prog 24 x.1) :
    ∃ vUp : Int, ∃ vDown : Int, ∃ vMost : Int, cs = [.int .i64 vUp, .int .i64 vDown, .int .i64 vMost] ∧ (Lit.int .i64 vUp).wf = true ∧ (Lit.int .i64 vDown).wf = true ∧ (Lit.int .i64 vMost).wf = true := by
  obtain ⟨hl, hf⟩ := trod_field_z Try.underlying24 h hz
  rw [show Try.prog.cellsOf 24 = 3 from by kernel_rfl] at hl
  obtain ⟨c0, c1, c2, rfl⟩ := list3 hl
  obtain ⟨n0, y0, h0, z0⟩ := hf 0 _ rfl
  replace h0 : DataW.trod enc Try.prog w base spare held n0 3 (([c0, c1, c2] : List Value).drop 0 |>.take (Try.prog.cellsOf 3)) = some y0 := h0
  rw [show Try.prog.cellsOf 3 = 1 from by kernel_rfl] at h0
  replace h0 : DataW.trod enc Try.prog w base spare held n0 3 [c0] = some y0 := h0
  obtain ⟨n1, y1, h1, z1⟩ := hf 1 _ rfl
  replace h1 : DataW.trod enc Try.prog w base spare held n1 3 (([c0, c1, c2] : List Value).drop 1 |>.take (Try.prog.cellsOf 3)) = some y1 := h1
  rw [show Try.prog.cellsOf 3 = 1 from by kernel_rfl] at h1
  replace h1 : DataW.trod enc Try.prog w base spare held n1 3 [c1] = some y1 := h1
  obtain ⟨n2, y2, h2, z2⟩ := hf 2 _ rfl
  replace h2 : DataW.trod enc Try.prog w base spare held n2 3 (([c0, c1, c2] : List Value).drop 2 |>.take (Try.prog.cellsOf 3)) = some y2 := h2
  rw [show Try.prog.cellsOf 3 = 1 from by kernel_rfl] at h2
  replace h2 : DataW.trod enc Try.prog w base spare held n2 3 [c2] = some y2 := h2
  obtain ⟨x0, e0, _, f0_0⟩ := DataW.trod_int Try.underlying3 h0
  simp only [List.cons.injEq, and_true] at e0
  obtain rfl := e0
  obtain ⟨x1, e1, _, f1_0⟩ := DataW.trod_int Try.underlying3 h1
  simp only [List.cons.injEq, and_true] at e1
  obtain rfl := e1
  obtain ⟨x2, e2, _, f2_0⟩ := DataW.trod_int Try.underlying3 h2
  simp only [List.cons.injEq, and_true] at e2
  obtain rfl := e2
  exact ⟨x0, x1, x2, rfl, f0_0, f1_0, f2_0⟩

theorem open26 {H : Type} {enc : TypeId × Value → H} {w : World} {base : Nat} {spare : Nat → Bool} {held : Bool} {fuel : Nat} {cs : List Value} {x : DataW H × List MemPlace} (h : DataW.trod enc Try.prog w base spare held fuel 26 cs = some x) (hz : Light Try.prog 26 x.1) :
    ∃ vMost0 : Int, ∃ vMost1 : Int, ∃ vMost2 : Int, ∃ vMost3 : Int, ∃ vMost4 : Int, ∃ vPersistUp : Int, ∃ vPersistDown : Int, ∃ vPersistMost : Int, cs = [.int .i32 vMost0, .int .i32 vMost1, .int .i32 vMost2, .int .i32 vMost3, .int .i32 vMost4, .int .i64 vPersistUp, .int .i64 vPersistDown, .int .i64 vPersistMost] ∧ (Lit.int .i32 vMost0).wf = true ∧ (Lit.int .i32 vMost1).wf = true ∧ (Lit.int .i32 vMost2).wf = true ∧ (Lit.int .i32 vMost3).wf = true ∧ (Lit.int .i32 vMost4).wf = true ∧ (Lit.int .i64 vPersistUp).wf = true ∧ (Lit.int .i64 vPersistDown).wf = true ∧ (Lit.int .i64 vPersistMost).wf = true := by
  obtain ⟨hl, hf⟩ := trod_field_z Try.underlying26 h hz
  rw [show Try.prog.cellsOf 26 = 8 from by kernel_rfl] at hl
  obtain ⟨c0, c1, c2, c3, c4, c5, c6, c7, rfl⟩ := list8 hl
  obtain ⟨n0, y0, h0, z0⟩ := hf 0 _ rfl
  replace h0 : DataW.trod enc Try.prog w base spare held n0 22 (([c0, c1, c2, c3, c4, c5, c6, c7] : List Value).drop 0 |>.take (Try.prog.cellsOf 22)) = some y0 := h0
  rw [show Try.prog.cellsOf 22 = 5 from by kernel_rfl] at h0
  replace h0 : DataW.trod enc Try.prog w base spare held n0 22 [c0, c1, c2, c3, c4] = some y0 := h0
  obtain ⟨n1, y1, h1, z1⟩ := hf 1 _ rfl
  replace h1 : DataW.trod enc Try.prog w base spare held n1 24 (([c0, c1, c2, c3, c4, c5, c6, c7] : List Value).drop 5 |>.take (Try.prog.cellsOf 24)) = some y1 := h1
  rw [show Try.prog.cellsOf 24 = 3 from by kernel_rfl] at h1
  replace h1 : DataW.trod enc Try.prog w base spare held n1 24 [c5, c6, c7] = some y1 := h1
  obtain ⟨x00, x01, x02, x03, x04, e0, f0_0, f0_1, f0_2, f0_3, f0_4⟩ := open22 h0 z0
  simp only [List.cons.injEq, and_true] at e0
  obtain ⟨rfl, rfl, rfl, rfl, rfl⟩ := e0
  obtain ⟨x1Up, x1Down, x1Most, e1, f1_0, f1_1, f1_2⟩ := open24 h1 z1
  simp only [List.cons.injEq, and_true] at e1
  obtain ⟨rfl, rfl, rfl⟩ := e1
  exact ⟨x00, x01, x02, x03, x04, x1Up, x1Down, x1Most, rfl, f0_0, f0_1, f0_2, f0_3, f0_4, f1_0, f1_1, f1_2⟩

theorem open28 {H : Type} {enc : TypeId × Value → H} {w : World} {base : Nat} {spare : Nat → Bool} {held : Bool} {fuel : Nat} {cs : List Value} {x : DataW H × List MemPlace} (h : DataW.trod enc Try.prog w base spare held fuel 28 cs = some x) (hz : Light Try.prog 28 x.1) :
    ∃ vN : Int, ∃ vSet : Bool, cs = [.int .i64 vN, .bool vSet] ∧ (Lit.int .i64 vN).wf = true := by
  obtain ⟨hl, hf⟩ := trod_field_z Try.underlying28 h hz
  rw [show Try.prog.cellsOf 28 = 2 from by kernel_rfl] at hl
  obtain ⟨c0, c1, rfl⟩ := list2 hl
  obtain ⟨n0, y0, h0, z0⟩ := hf 0 _ rfl
  replace h0 : DataW.trod enc Try.prog w base spare held n0 3 (([c0, c1] : List Value).drop 0 |>.take (Try.prog.cellsOf 3)) = some y0 := h0
  rw [show Try.prog.cellsOf 3 = 1 from by kernel_rfl] at h0
  replace h0 : DataW.trod enc Try.prog w base spare held n0 3 [c0] = some y0 := h0
  obtain ⟨n1, y1, h1, z1⟩ := hf 1 _ rfl
  replace h1 : DataW.trod enc Try.prog w base spare held n1 4 (([c0, c1] : List Value).drop 1 |>.take (Try.prog.cellsOf 4)) = some y1 := h1
  rw [show Try.prog.cellsOf 4 = 1 from by kernel_rfl] at h1
  replace h1 : DataW.trod enc Try.prog w base spare held n1 4 [c1] = some y1 := h1
  obtain ⟨x0, e0, _, f0_0⟩ := DataW.trod_int Try.underlying3 h0
  simp only [List.cons.injEq, and_true] at e0
  obtain rfl := e0
  obtain ⟨x1, e1, _⟩ := DataW.trod_bool Try.underlying4 h1
  simp only [List.cons.injEq, and_true] at e1
  obtain rfl := e1
  exact ⟨x0, x1, rfl, f0_0⟩

theorem open29 {H : Type} {enc : TypeId × Value → H} {w : World} {base : Nat} {spare : Nat → Bool} {held : Bool} {fuel : Nat} {cs : List Value} {x : DataW H × List MemPlace} (h : DataW.trod enc Try.prog w base spare held fuel 29 cs = some x) (hz : Light Try.prog 29 x.1) :
    ∃ v0N : Int, ∃ v0Set : Bool, ∃ v1N : Int, ∃ v1Set : Bool, ∃ v2N : Int, ∃ v2Set : Bool, ∃ v3N : Int, ∃ v3Set : Bool, ∃ v4N : Int, ∃ v4Set : Bool, cs = [.int .i64 v0N, .bool v0Set, .int .i64 v1N, .bool v1Set, .int .i64 v2N, .bool v2Set, .int .i64 v3N, .bool v3Set, .int .i64 v4N, .bool v4Set] ∧ (Lit.int .i64 v0N).wf = true ∧ (Lit.int .i64 v1N).wf = true ∧ (Lit.int .i64 v2N).wf = true ∧ (Lit.int .i64 v3N).wf = true ∧ (Lit.int .i64 v4N).wf = true := by
  obtain ⟨hl, hf⟩ := trod_elem_z Try.underlying29 h hz
  rw [show Try.prog.cellsOf 29 = 10 from by kernel_rfl] at hl
  obtain ⟨c0, c1, c2, c3, c4, c5, c6, c7, c8, c9, rfl⟩ := list10 hl
  obtain ⟨n0, y0, h0, z0⟩ := hf 0 (by decide)
  replace h0 : DataW.trod enc Try.prog w base spare held n0 28 (([c0, c1, c2, c3, c4, c5, c6, c7, c8, c9] : List Value).drop (0 * Try.prog.cellsOf 28) |>.take (Try.prog.cellsOf 28)) = some y0 := h0
  rw [show Try.prog.cellsOf 28 = 2 from by kernel_rfl] at h0
  replace h0 : DataW.trod enc Try.prog w base spare held n0 28 [c0, c1] = some y0 := h0
  obtain ⟨n1, y1, h1, z1⟩ := hf 1 (by decide)
  replace h1 : DataW.trod enc Try.prog w base spare held n1 28 (([c0, c1, c2, c3, c4, c5, c6, c7, c8, c9] : List Value).drop (1 * Try.prog.cellsOf 28) |>.take (Try.prog.cellsOf 28)) = some y1 := h1
  rw [show Try.prog.cellsOf 28 = 2 from by kernel_rfl] at h1
  replace h1 : DataW.trod enc Try.prog w base spare held n1 28 [c2, c3] = some y1 := h1
  obtain ⟨n2, y2, h2, z2⟩ := hf 2 (by decide)
  replace h2 : DataW.trod enc Try.prog w base spare held n2 28 (([c0, c1, c2, c3, c4, c5, c6, c7, c8, c9] : List Value).drop (2 * Try.prog.cellsOf 28) |>.take (Try.prog.cellsOf 28)) = some y2 := h2
  rw [show Try.prog.cellsOf 28 = 2 from by kernel_rfl] at h2
  replace h2 : DataW.trod enc Try.prog w base spare held n2 28 [c4, c5] = some y2 := h2
  obtain ⟨n3, y3, h3, z3⟩ := hf 3 (by decide)
  replace h3 : DataW.trod enc Try.prog w base spare held n3 28 (([c0, c1, c2, c3, c4, c5, c6, c7, c8, c9] : List Value).drop (3 * Try.prog.cellsOf 28) |>.take (Try.prog.cellsOf 28)) = some y3 := h3
  rw [show Try.prog.cellsOf 28 = 2 from by kernel_rfl] at h3
  replace h3 : DataW.trod enc Try.prog w base spare held n3 28 [c6, c7] = some y3 := h3
  obtain ⟨n4, y4, h4, z4⟩ := hf 4 (by decide)
  replace h4 : DataW.trod enc Try.prog w base spare held n4 28 (([c0, c1, c2, c3, c4, c5, c6, c7, c8, c9] : List Value).drop (4 * Try.prog.cellsOf 28) |>.take (Try.prog.cellsOf 28)) = some y4 := h4
  rw [show Try.prog.cellsOf 28 = 2 from by kernel_rfl] at h4
  replace h4 : DataW.trod enc Try.prog w base spare held n4 28 [c8, c9] = some y4 := h4
  obtain ⟨x0N, x0Set, e0, f0_0⟩ := open28 h0 z0
  simp only [List.cons.injEq, and_true] at e0
  obtain ⟨rfl, rfl⟩ := e0
  obtain ⟨x1N, x1Set, e1, f1_0⟩ := open28 h1 z1
  simp only [List.cons.injEq, and_true] at e1
  obtain ⟨rfl, rfl⟩ := e1
  obtain ⟨x2N, x2Set, e2, f2_0⟩ := open28 h2 z2
  simp only [List.cons.injEq, and_true] at e2
  obtain ⟨rfl, rfl⟩ := e2
  obtain ⟨x3N, x3Set, e3, f3_0⟩ := open28 h3 z3
  simp only [List.cons.injEq, and_true] at e3
  obtain ⟨rfl, rfl⟩ := e3
  obtain ⟨x4N, x4Set, e4, f4_0⟩ := open28 h4 z4
  simp only [List.cons.injEq, and_true] at e4
  obtain ⟨rfl, rfl⟩ := e4
  exact ⟨x0N, x0Set, x1N, x1Set, x2N, x2Set, x3N, x3Set, x4N, x4Set, rfl, f0_0, f1_0, f2_0, f3_0, f4_0⟩

theorem open31 {H : Type} {enc : TypeId × Value → H} {w : World} {base : Nat} {spare : Nat → Bool} {held : Bool} {fuel : Nat} {cs : List Value} {x : DataW H × List MemPlace} (h : DataW.trod enc Try.prog w base spare held fuel 31 cs = some x) (hz : Light Try.prog 31 x.1) :
    ∃ vValve : Int, ∃ vSpool : Int, ∃ vPos : Int, ∃ vMid : Int, ∃ vTrack : Int, ∃ vFight : Int, ∃ vValid : Bool, cs = [.int .i32 vValve, .int .i32 vSpool, .int .i32 vPos, .int .i32 vMid, .int .i32 vTrack, .int .i32 vFight, .bool vValid] ∧ (Lit.int .i32 vValve).wf = true ∧ (Lit.int .i32 vSpool).wf = true ∧ (Lit.int .i32 vPos).wf = true ∧ (Lit.int .i32 vMid).wf = true ∧ (Lit.int .i32 vTrack).wf = true ∧ (Lit.int .i32 vFight).wf = true := by
  obtain ⟨hl, hf⟩ := trod_field_z Try.underlying31 h hz
  rw [show Try.prog.cellsOf 31 = 7 from by kernel_rfl] at hl
  obtain ⟨c0, c1, c2, c3, c4, c5, c6, rfl⟩ := list7 hl
  obtain ⟨n0, y0, h0, z0⟩ := hf 0 _ rfl
  replace h0 : DataW.trod enc Try.prog w base spare held n0 21 (([c0, c1, c2, c3, c4, c5, c6] : List Value).drop 0 |>.take (Try.prog.cellsOf 21)) = some y0 := h0
  rw [show Try.prog.cellsOf 21 = 1 from by kernel_rfl] at h0
  replace h0 : DataW.trod enc Try.prog w base spare held n0 21 [c0] = some y0 := h0
  obtain ⟨n1, y1, h1, z1⟩ := hf 1 _ rfl
  replace h1 : DataW.trod enc Try.prog w base spare held n1 21 (([c0, c1, c2, c3, c4, c5, c6] : List Value).drop 1 |>.take (Try.prog.cellsOf 21)) = some y1 := h1
  rw [show Try.prog.cellsOf 21 = 1 from by kernel_rfl] at h1
  replace h1 : DataW.trod enc Try.prog w base spare held n1 21 [c1] = some y1 := h1
  obtain ⟨n2, y2, h2, z2⟩ := hf 2 _ rfl
  replace h2 : DataW.trod enc Try.prog w base spare held n2 21 (([c0, c1, c2, c3, c4, c5, c6] : List Value).drop 2 |>.take (Try.prog.cellsOf 21)) = some y2 := h2
  rw [show Try.prog.cellsOf 21 = 1 from by kernel_rfl] at h2
  replace h2 : DataW.trod enc Try.prog w base spare held n2 21 [c2] = some y2 := h2
  obtain ⟨n3, y3, h3, z3⟩ := hf 3 _ rfl
  replace h3 : DataW.trod enc Try.prog w base spare held n3 21 (([c0, c1, c2, c3, c4, c5, c6] : List Value).drop 3 |>.take (Try.prog.cellsOf 21)) = some y3 := h3
  rw [show Try.prog.cellsOf 21 = 1 from by kernel_rfl] at h3
  replace h3 : DataW.trod enc Try.prog w base spare held n3 21 [c3] = some y3 := h3
  obtain ⟨n4, y4, h4, z4⟩ := hf 4 _ rfl
  replace h4 : DataW.trod enc Try.prog w base spare held n4 21 (([c0, c1, c2, c3, c4, c5, c6] : List Value).drop 4 |>.take (Try.prog.cellsOf 21)) = some y4 := h4
  rw [show Try.prog.cellsOf 21 = 1 from by kernel_rfl] at h4
  replace h4 : DataW.trod enc Try.prog w base spare held n4 21 [c4] = some y4 := h4
  obtain ⟨n5, y5, h5, z5⟩ := hf 5 _ rfl
  replace h5 : DataW.trod enc Try.prog w base spare held n5 21 (([c0, c1, c2, c3, c4, c5, c6] : List Value).drop 5 |>.take (Try.prog.cellsOf 21)) = some y5 := h5
  rw [show Try.prog.cellsOf 21 = 1 from by kernel_rfl] at h5
  replace h5 : DataW.trod enc Try.prog w base spare held n5 21 [c5] = some y5 := h5
  obtain ⟨n6, y6, h6, z6⟩ := hf 6 _ rfl
  replace h6 : DataW.trod enc Try.prog w base spare held n6 4 (([c0, c1, c2, c3, c4, c5, c6] : List Value).drop 6 |>.take (Try.prog.cellsOf 4)) = some y6 := h6
  rw [show Try.prog.cellsOf 4 = 1 from by kernel_rfl] at h6
  replace h6 : DataW.trod enc Try.prog w base spare held n6 4 [c6] = some y6 := h6
  obtain ⟨x0, e0, _, f0_0⟩ := DataW.trod_int Try.underlying21 h0
  simp only [List.cons.injEq, and_true] at e0
  obtain rfl := e0
  obtain ⟨x1, e1, _, f1_0⟩ := DataW.trod_int Try.underlying21 h1
  simp only [List.cons.injEq, and_true] at e1
  obtain rfl := e1
  obtain ⟨x2, e2, _, f2_0⟩ := DataW.trod_int Try.underlying21 h2
  simp only [List.cons.injEq, and_true] at e2
  obtain rfl := e2
  obtain ⟨x3, e3, _, f3_0⟩ := DataW.trod_int Try.underlying21 h3
  simp only [List.cons.injEq, and_true] at e3
  obtain rfl := e3
  obtain ⟨x4, e4, _, f4_0⟩ := DataW.trod_int Try.underlying21 h4
  simp only [List.cons.injEq, and_true] at e4
  obtain rfl := e4
  obtain ⟨x5, e5, _, f5_0⟩ := DataW.trod_int Try.underlying21 h5
  simp only [List.cons.injEq, and_true] at e5
  obtain rfl := e5
  obtain ⟨x6, e6, _⟩ := DataW.trod_bool Try.underlying4 h6
  simp only [List.cons.injEq, and_true] at e6
  obtain rfl := e6
  exact ⟨x0, x1, x2, x3, x4, x5, x6, rfl, f0_0, f1_0, f2_0, f3_0, f4_0, f5_0⟩


/-- five bools by their place -/
def p5 (a b c d e : Bool) (j : Nat) : Bool := if j = 0 then a else if j = 1 then b else if j = 2 then c else if j = 3 then d else e

set_option maxHeartbeats 8000000 in
set_option maxRecDepth 100000 in
theorem walk_bad (m0 m1 m2 m3 m4 u d m n0 : Int) (s0 : Bool) (n1 : Int) (s1 : Bool) (n2 : Int) (s2 : Bool) (n3 : Int) (s3 : Bool) (n4 : Int) (s4 : Bool) (x0 x1 x2 x3 x4 x5 : Int) (v b0 b1 b2 b3 b4 : Bool) (w : World) (CE : Hid (∀ W, Calls Try.prog 6 #[.agg #[.int .i32 m0, .int .i32 m1, .int .i32 m2, .int .i32 m3, .int .i32 m4, .int .i64 u, .int .i64 d, .int .i64 m], .agg #[.int .i64 n0, .bool s0, .int .i64 n1, .bool s1, .int .i64 n2, .bool s2, .int .i64 n3, .bool s3, .int .i64 n4, .bool s4]] W fun r w' => r = .returned (.int .i64 1) ∧ Below W.heap.size W w')) (CK : Hid (∀ W, Calls Try.prog 8 #[.agg #[.int .i32 m0, .int .i32 m1, .int .i32 m2, .int .i32 m3, .int .i32 m4, .int .i64 u, .int .i64 d, .int .i64 m], .agg #[.int .i64 n0, .bool s0, .int .i64 n1, .bool s1, .int .i64 n2, .bool s2, .int .i64 n3, .bool s3, .int .i64 n4, .bool s4]] W fun r w' => r = .returned (.int .i64 1) ∧ Below W.heap.size W w')) (CL : Hid (∀ W, Calls Try.prog 9 #[.agg #[.int .i32 m0, .int .i32 m1, .int .i32 m2, .int .i32 m3, .int .i32 m4, .int .i64 u, .int .i64 d, .int .i64 m], .agg #[.int .i32 x0, .int .i32 x1, .int .i32 x2, .int .i32 x3, .int .i32 x4, .int .i32 x5, .bool v]] W fun r w' => r = .returned (.agg #[.bool b0, .bool b1, .bool b2, .bool b3, .bool b4]) ∧ Below W.heap.size W w')) (CR : Hid (∀ W, Calls Try.prog 10 #[.agg #[.int .i32 m0, .int .i32 m1, .int .i32 m2, .int .i32 m3, .int .i32 m4, .int .i64 u, .int .i64 d, .int .i64 m], .agg #[.int .i32 x0, .int .i32 x1, .int .i32 x2, .int .i32 x3, .int .i32 x4, .int .i32 x5, .bool v]] W fun r w' => r = .returned (.agg #[.bool b0, .bool b1, .bool b2, .bool b3, .bool b4]) ∧ Below W.heap.size W w')) (CS : Hid (∀ W, Calls Try.prog 7 #[.agg #[.int .i32 m0, .int .i32 m1, .int .i32 m2, .int .i32 m3, .int .i32 m4, .int .i64 u, .int .i64 d, .int .i64 m], .agg #[.int .i64 n0, .bool s0, .int .i64 n1, .bool s1, .int .i64 n2, .bool s2, .int .i64 n3, .bool s3, .int .i64 n4, .bool s4], .agg #[.int .i32 x0, .int .i32 x1, .int .i32 x2, .int .i32 x3, .int .i32 x4, .int .i32 x5, .bool v]] W fun r w' => r = .returned (.tuple #[.agg #[.int .i64 0, .bool false, .int .i64 0, .bool false, .int .i64 0, .bool false, .int .i64 0, .bool false, .int .i64 0, .bool false], .bool false, .int .i64 1]) ∧ Below W.heap.size W w')) :
    Calls Try.prog 3 #[.agg #[.int .i32 m0, .int .i32 m1, .int .i32 m2, .int .i32 m3, .int .i32 m4, .int .i64 u, .int .i64 d, .int .i64 m], .agg #[.int .i64 n0, .bool s0, .int .i64 n1, .bool s1, .int .i64 n2, .bool s2, .int .i64 n3, .bool s3, .int .i64 n4, .bool s4], .agg #[.int .i32 x0, .int .i32 x1, .int .i32 x2, .int .i32 x3, .int .i32 x4, .int .i32 x5, .bool v]] w fun r w' => r = .returned (.bool true) ∧ Below w.heap.size w w' := by
  obtain ⟨W0, hW0, B0', Z0'⟩ := lay3n w #[.int .i32 m0, .int .i32 m1, .int .i32 m2, .int .i32 m3, .int .i32 m4, .int .i64 u, .int .i64 d, .int .i64 m] #[.int .i64 n0, .bool s0, .int .i64 n1, .bool s1, .int .i64 n2, .bool s2, .int .i64 n3, .bool s3, .int .i64 n4, .bool s4] #[.int .i32 x0, .int .i32 x1, .int .i32 x2, .int .i32 x3, .int .i32 x4, .int .i32 x5, .bool v] 26 29 31
  have HW : Hid (_) := hW0
  have B0 : Hid (_) := B0'
  clear hW0 B0' Z0'
  have Q1 : Hid (∀ W, (Op.equalIn 10000 36 (.agg #[.bool b0, .bool b1, .bool b2, .bool b3, .bool b4]) (.agg #[.bool b0, .bool b1, .bool b2, .bool b3, .bool b4])).run Try.prog W = .ok true W) := fun W => eq5b b0 b1 b2 b3 b4 W
  have Q2 : Hid (∀ W, (Op.equalIn 10000 29 (.agg #[.int .i64 0, .bool false, .int .i64 0, .bool false, .int .i64 0, .bool false, .int .i64 0, .bool false, .int .i64 0, .bool false]) (.agg #[.int .i64 0, .bool false, .int .i64 0, .bool false, .int .i64 0, .bool false, .int .i64 0, .bool false, .int .i64 0, .bool false])).run Try.prog W = .ok true W) := fun W => eq5c 0 0 0 0 0 false false false false false W
  go_enter Try.func3, Try.ntmps3
  go_wp2_with fail
  rw [HW.out]
  clear HW
  refine (CE.out _).mono ?_
  rintro e w1 ⟨rfl, hb⟩
  have B1 : Hid (_) := B0.out.step hb
  clear hb B0 CE
  have pl := (B1.out.blk 0 (w.heap.size) _ rfl rfl).lt
  have p0 := (B1.out.blk 0 (w.heap.size) _ rfl rfl).cell 0 _ rfl
  have p1 := (B1.out.blk 0 (w.heap.size) _ rfl rfl).cell 1 _ rfl
  have p2 := (B1.out.blk 0 (w.heap.size) _ rfl rfl).cell 2 _ rfl
  have p3 := (B1.out.blk 0 (w.heap.size) _ rfl rfl).cell 3 _ rfl
  have p4 := (B1.out.blk 0 (w.heap.size) _ rfl rfl).cell 4 _ rfl
  have p5 := (B1.out.blk 0 (w.heap.size) _ rfl rfl).cell 5 _ rfl
  have p6 := (B1.out.blk 0 (w.heap.size) _ rfl rfl).cell 6 _ rfl
  have p7 := (B1.out.blk 0 (w.heap.size) _ rfl rfl).cell 7 _ rfl
  have ql := (B1.out.blk 1 (w.heap.size + 1) _ rfl rfl).lt
  have q0 := (B1.out.blk 1 (w.heap.size + 1) _ rfl rfl).cell 0 _ rfl
  have q1 := (B1.out.blk 1 (w.heap.size + 1) _ rfl rfl).cell 1 _ rfl
  have q2 := (B1.out.blk 1 (w.heap.size + 1) _ rfl rfl).cell 2 _ rfl
  have q3 := (B1.out.blk 1 (w.heap.size + 1) _ rfl rfl).cell 3 _ rfl
  have q4 := (B1.out.blk 1 (w.heap.size + 1) _ rfl rfl).cell 4 _ rfl
  have q5 := (B1.out.blk 1 (w.heap.size + 1) _ rfl rfl).cell 5 _ rfl
  have q6 := (B1.out.blk 1 (w.heap.size + 1) _ rfl rfl).cell 6 _ rfl
  have q7 := (B1.out.blk 1 (w.heap.size + 1) _ rfl rfl).cell 7 _ rfl
  have q8 := (B1.out.blk 1 (w.heap.size + 1) _ rfl rfl).cell 8 _ rfl
  have q9 := (B1.out.blk 1 (w.heap.size + 1) _ rfl rfl).cell 9 _ rfl
  have rl := (B1.out.blk 2 (w.heap.size + 1 + 1) _ rfl rfl).lt
  have r0 := (B1.out.blk 2 (w.heap.size + 1 + 1) _ rfl rfl).cell 0 _ rfl
  have r1 := (B1.out.blk 2 (w.heap.size + 1 + 1) _ rfl rfl).cell 1 _ rfl
  have r2 := (B1.out.blk 2 (w.heap.size + 1 + 1) _ rfl rfl).cell 2 _ rfl
  have r3 := (B1.out.blk 2 (w.heap.size + 1 + 1) _ rfl rfl).cell 3 _ rfl
  have r4 := (B1.out.blk 2 (w.heap.size + 1 + 1) _ rfl rfl).cell 4 _ rfl
  have r5 := (B1.out.blk 2 (w.heap.size + 1 + 1) _ rfl rfl).cell 5 _ rfl
  have r6 := (B1.out.blk 2 (w.heap.size + 1 + 1) _ rfl rfl).cell 6 _ rfl
  go_wp2_with fail
  refine (CS.out _).mono ?_
  rintro e w2 ⟨rfl, hb⟩
  have B2 : Hid (_) := (B1.out.step hb).alloc (.cells #[.int .i64 0, .bool false, .int .i64 0, .bool false, .int .i64 0, .bool false, .int .i64 0, .bool false, .int .i64 0, .bool false] 29)
  have X2 : Hid (_) := cells_new w2 #[.int .i64 0, .bool false, .int .i64 0, .bool false, .int .i64 0, .bool false, .int .i64 0, .bool false, .int .i64 0, .bool false] 29
  clear hb B1 CS
  clear pl p0 p1 p2 p3 p4 p5 p6 p7
  clear ql q0 q1 q2 q3 q4 q5 q6 q7 q8 q9
  clear rl r0 r1 r2 r3 r4 r5 r6
  go_upto_region 3 with (fail)
  generalize w2.alloc (.cells #[.int .i64 0, .bool false, .int .i64 0, .bool false, .int .i64 0, .bool false, .int .i64 0, .bool false, .int .i64 0, .bool false] 29) = w3 at *
  generalize w2.heap.size = N at *
  have pl := (B2.out.blk 0 (w.heap.size) _ rfl rfl).lt
  have p0 := (B2.out.blk 0 (w.heap.size) _ rfl rfl).cell 0 _ rfl
  have p1 := (B2.out.blk 0 (w.heap.size) _ rfl rfl).cell 1 _ rfl
  have p2 := (B2.out.blk 0 (w.heap.size) _ rfl rfl).cell 2 _ rfl
  have p3 := (B2.out.blk 0 (w.heap.size) _ rfl rfl).cell 3 _ rfl
  have p4 := (B2.out.blk 0 (w.heap.size) _ rfl rfl).cell 4 _ rfl
  have p5 := (B2.out.blk 0 (w.heap.size) _ rfl rfl).cell 5 _ rfl
  have p6 := (B2.out.blk 0 (w.heap.size) _ rfl rfl).cell 6 _ rfl
  have p7 := (B2.out.blk 0 (w.heap.size) _ rfl rfl).cell 7 _ rfl
  have ql := (B2.out.blk 1 (w.heap.size + 1) _ rfl rfl).lt
  have q0 := (B2.out.blk 1 (w.heap.size + 1) _ rfl rfl).cell 0 _ rfl
  have q1 := (B2.out.blk 1 (w.heap.size + 1) _ rfl rfl).cell 1 _ rfl
  have q2 := (B2.out.blk 1 (w.heap.size + 1) _ rfl rfl).cell 2 _ rfl
  have q3 := (B2.out.blk 1 (w.heap.size + 1) _ rfl rfl).cell 3 _ rfl
  have q4 := (B2.out.blk 1 (w.heap.size + 1) _ rfl rfl).cell 4 _ rfl
  have q5 := (B2.out.blk 1 (w.heap.size + 1) _ rfl rfl).cell 5 _ rfl
  have q6 := (B2.out.blk 1 (w.heap.size + 1) _ rfl rfl).cell 6 _ rfl
  have q7 := (B2.out.blk 1 (w.heap.size + 1) _ rfl rfl).cell 7 _ rfl
  have q8 := (B2.out.blk 1 (w.heap.size + 1) _ rfl rfl).cell 8 _ rfl
  have q9 := (B2.out.blk 1 (w.heap.size + 1) _ rfl rfl).cell 9 _ rfl
  have rl := (B2.out.blk 2 (w.heap.size + 1 + 1) _ rfl rfl).lt
  have r0 := (B2.out.blk 2 (w.heap.size + 1 + 1) _ rfl rfl).cell 0 _ rfl
  have r1 := (B2.out.blk 2 (w.heap.size + 1 + 1) _ rfl rfl).cell 1 _ rfl
  have r2 := (B2.out.blk 2 (w.heap.size + 1 + 1) _ rfl rfl).cell 2 _ rfl
  have r3 := (B2.out.blk 2 (w.heap.size + 1 + 1) _ rfl rfl).cell 3 _ rfl
  have r4 := (B2.out.blk 2 (w.heap.size + 1 + 1) _ rfl rfl).cell 4 _ rfl
  have r5 := (B2.out.blk 2 (w.heap.size + 1 + 1) _ rfl rfl).cell 5 _ rfl
  have r6 := (B2.out.blk 2 (w.heap.size + 1 + 1) _ rfl rfl).cell 6 _ rfl
  have hq := Q1.out
  go_region_held3 (fun w' => (w'.cell? ⟨w.heap.size, 0, none⟩ = some (.int .i32 m0) ∧ w'.cell? ⟨w.heap.size, 1, none⟩ = some (.int .i32 m1) ∧ w'.cell? ⟨w.heap.size, 2, none⟩ = some (.int .i32 m2) ∧ w'.cell? ⟨w.heap.size, 3, none⟩ = some (.int .i32 m3) ∧ w'.cell? ⟨w.heap.size, 4, none⟩ = some (.int .i32 m4) ∧ w'.cell? ⟨w.heap.size, 5, none⟩ = some (.int .i64 u) ∧ w'.cell? ⟨w.heap.size, 6, none⟩ = some (.int .i64 d) ∧ w'.cell? ⟨w.heap.size, 7, none⟩ = some (.int .i64 m)) ∧ (w'.cell? ⟨w.heap.size + 1, 0, none⟩ = some (.int .i64 n0) ∧ w'.cell? ⟨w.heap.size + 1, 1, none⟩ = some (.bool s0) ∧ w'.cell? ⟨w.heap.size + 1, 2, none⟩ = some (.int .i64 n1) ∧ w'.cell? ⟨w.heap.size + 1, 3, none⟩ = some (.bool s1) ∧ w'.cell? ⟨w.heap.size + 1, 4, none⟩ = some (.int .i64 n2) ∧ w'.cell? ⟨w.heap.size + 1, 5, none⟩ = some (.bool s2) ∧ w'.cell? ⟨w.heap.size + 1, 6, none⟩ = some (.int .i64 n3) ∧ w'.cell? ⟨w.heap.size + 1, 7, none⟩ = some (.bool s3) ∧ w'.cell? ⟨w.heap.size + 1, 8, none⟩ = some (.int .i64 n4) ∧ w'.cell? ⟨w.heap.size + 1, 9, none⟩ = some (.bool s4)) ∧ (w'.cell? ⟨w.heap.size + 1 + 1, 0, none⟩ = some (.int .i32 x0) ∧ w'.cell? ⟨w.heap.size + 1 + 1, 1, none⟩ = some (.int .i32 x1) ∧ w'.cell? ⟨w.heap.size + 1 + 1, 2, none⟩ = some (.int .i32 x2) ∧ w'.cell? ⟨w.heap.size + 1 + 1, 3, none⟩ = some (.int .i32 x3) ∧ w'.cell? ⟨w.heap.size + 1 + 1, 4, none⟩ = some (.int .i32 x4) ∧ w'.cell? ⟨w.heap.size + 1 + 1, 5, none⟩ = some (.int .i32 x5) ∧ w'.cell? ⟨w.heap.size + 1 + 1, 6, none⟩ = some (.bool v))) (go_keep) (first | (go_at_call 8; refine (CK.out _).mono ?_; rintro r w5 ⟨rfl, hb⟩; have B5 : Hid (Lay w [[.int .i32 m0, .int .i32 m1, .int .i32 m2, .int .i32 m3, .int .i32 m4, .int .i64 u, .int .i64 d, .int .i64 m], [.int .i64 n0, .bool s0, .int .i64 n1, .bool s1, .int .i64 n2, .bool s2, .int .i64 n3, .bool s3, .int .i64 n4, .bool s4], [.int .i32 x0, .int .i32 x1, .int .i32 x2, .int .i32 x3, .int .i32 x4, .int .i32 x5, .bool v]] w5) := B2.out.drew.step hb; have X5 : Hid (_) := X2.out.drew.step hb; have a0 := (B5.out.blk 0 (w.heap.size) _ rfl rfl).cell 0 _ rfl; have a1 := (B5.out.blk 0 (w.heap.size) _ rfl rfl).cell 1 _ rfl; have a2 := (B5.out.blk 0 (w.heap.size) _ rfl rfl).cell 2 _ rfl; have a3 := (B5.out.blk 0 (w.heap.size) _ rfl rfl).cell 3 _ rfl; have a4 := (B5.out.blk 0 (w.heap.size) _ rfl rfl).cell 4 _ rfl; have a5 := (B5.out.blk 0 (w.heap.size) _ rfl rfl).cell 5 _ rfl; have a6 := (B5.out.blk 0 (w.heap.size) _ rfl rfl).cell 6 _ rfl; have a7 := (B5.out.blk 0 (w.heap.size) _ rfl rfl).cell 7 _ rfl; have b0 := (B5.out.blk 1 (w.heap.size + 1) _ rfl rfl).cell 0 _ rfl; have b1 := (B5.out.blk 1 (w.heap.size + 1) _ rfl rfl).cell 1 _ rfl; have b2 := (B5.out.blk 1 (w.heap.size + 1) _ rfl rfl).cell 2 _ rfl; have b3 := (B5.out.blk 1 (w.heap.size + 1) _ rfl rfl).cell 3 _ rfl; have b4 := (B5.out.blk 1 (w.heap.size + 1) _ rfl rfl).cell 4 _ rfl; have b5 := (B5.out.blk 1 (w.heap.size + 1) _ rfl rfl).cell 5 _ rfl; have b6 := (B5.out.blk 1 (w.heap.size + 1) _ rfl rfl).cell 6 _ rfl; have b7 := (B5.out.blk 1 (w.heap.size + 1) _ rfl rfl).cell 7 _ rfl; have b8 := (B5.out.blk 1 (w.heap.size + 1) _ rfl rfl).cell 8 _ rfl; have b9 := (B5.out.blk 1 (w.heap.size + 1) _ rfl rfl).cell 9 _ rfl; have c0 := (B5.out.blk 2 (w.heap.size + 1 + 1) _ rfl rfl).cell 0 _ rfl; have c1 := (B5.out.blk 2 (w.heap.size + 1 + 1) _ rfl rfl).cell 1 _ rfl; have c2 := (B5.out.blk 2 (w.heap.size + 1 + 1) _ rfl rfl).cell 2 _ rfl; have c3 := (B5.out.blk 2 (w.heap.size + 1 + 1) _ rfl rfl).cell 3 _ rfl; have c4 := (B5.out.blk 2 (w.heap.size + 1 + 1) _ rfl rfl).cell 4 _ rfl; have c5 := (B5.out.blk 2 (w.heap.size + 1 + 1) _ rfl rfl).cell 5 _ rfl; have c6 := (B5.out.blk 2 (w.heap.size + 1 + 1) _ rfl rfl).cell 6 _ rfl; clear hb) | (go_at_call 9; refine (CL.out _).mono ?_; rintro r w6 ⟨rfl, hb⟩; have B6 : Hid (Lay w [[.int .i32 m0, .int .i32 m1, .int .i32 m2, .int .i32 m3, .int .i32 m4, .int .i64 u, .int .i64 d, .int .i64 m], [.int .i64 n0, .bool s0, .int .i64 n1, .bool s1, .int .i64 n2, .bool s2, .int .i64 n3, .bool s3, .int .i64 n4, .bool s4], [.int .i32 x0, .int .i32 x1, .int .i32 x2, .int .i32 x3, .int .i32 x4, .int .i32 x5, .bool v]] w6) := (by first | exact B7.out.step hb | exact B5.out.step hb); have X6 : Hid (_) := (by first | exact X7.out.step hb | exact X5.out.step hb : Cells w6 N _); have a0 := (B6.out.blk 0 (w.heap.size) _ rfl rfl).cell 0 _ rfl; have a1 := (B6.out.blk 0 (w.heap.size) _ rfl rfl).cell 1 _ rfl; have a2 := (B6.out.blk 0 (w.heap.size) _ rfl rfl).cell 2 _ rfl; have a3 := (B6.out.blk 0 (w.heap.size) _ rfl rfl).cell 3 _ rfl; have a4 := (B6.out.blk 0 (w.heap.size) _ rfl rfl).cell 4 _ rfl; have a5 := (B6.out.blk 0 (w.heap.size) _ rfl rfl).cell 5 _ rfl; have a6 := (B6.out.blk 0 (w.heap.size) _ rfl rfl).cell 6 _ rfl; have a7 := (B6.out.blk 0 (w.heap.size) _ rfl rfl).cell 7 _ rfl; have b0 := (B6.out.blk 1 (w.heap.size + 1) _ rfl rfl).cell 0 _ rfl; have b1 := (B6.out.blk 1 (w.heap.size + 1) _ rfl rfl).cell 1 _ rfl; have b2 := (B6.out.blk 1 (w.heap.size + 1) _ rfl rfl).cell 2 _ rfl; have b3 := (B6.out.blk 1 (w.heap.size + 1) _ rfl rfl).cell 3 _ rfl; have b4 := (B6.out.blk 1 (w.heap.size + 1) _ rfl rfl).cell 4 _ rfl; have b5 := (B6.out.blk 1 (w.heap.size + 1) _ rfl rfl).cell 5 _ rfl; have b6 := (B6.out.blk 1 (w.heap.size + 1) _ rfl rfl).cell 6 _ rfl; have b7 := (B6.out.blk 1 (w.heap.size + 1) _ rfl rfl).cell 7 _ rfl; have b8 := (B6.out.blk 1 (w.heap.size + 1) _ rfl rfl).cell 8 _ rfl; have b9 := (B6.out.blk 1 (w.heap.size + 1) _ rfl rfl).cell 9 _ rfl; have c0 := (B6.out.blk 2 (w.heap.size + 1 + 1) _ rfl rfl).cell 0 _ rfl; have c1 := (B6.out.blk 2 (w.heap.size + 1 + 1) _ rfl rfl).cell 1 _ rfl; have c2 := (B6.out.blk 2 (w.heap.size + 1 + 1) _ rfl rfl).cell 2 _ rfl; have c3 := (B6.out.blk 2 (w.heap.size + 1 + 1) _ rfl rfl).cell 3 _ rfl; have c4 := (B6.out.blk 2 (w.heap.size + 1 + 1) _ rfl rfl).cell 4 _ rfl; have c5 := (B6.out.blk 2 (w.heap.size + 1 + 1) _ rfl rfl).cell 5 _ rfl; have c6 := (B6.out.blk 2 (w.heap.size + 1 + 1) _ rfl rfl).cell 6 _ rfl; clear hb) | (go_at_call 10; refine (CR.out _).mono ?_; rintro r w7 ⟨rfl, hb⟩; have B7 : Hid (Lay w [[.int .i32 m0, .int .i32 m1, .int .i32 m2, .int .i32 m3, .int .i32 m4, .int .i64 u, .int .i64 d, .int .i64 m], [.int .i64 n0, .bool s0, .int .i64 n1, .bool s1, .int .i64 n2, .bool s2, .int .i64 n3, .bool s3, .int .i64 n4, .bool s4], [.int .i32 x0, .int .i32 x1, .int .i32 x2, .int .i32 x3, .int .i32 x4, .int .i32 x5, .bool v]] w7) := (by first | exact B6.out.step hb | exact B5.out.step hb); have X7 : Hid (_) := (by first | exact X6.out.step hb | exact X5.out.step hb : Cells w7 N _); have a0 := (B7.out.blk 0 (w.heap.size) _ rfl rfl).cell 0 _ rfl; have a1 := (B7.out.blk 0 (w.heap.size) _ rfl rfl).cell 1 _ rfl; have a2 := (B7.out.blk 0 (w.heap.size) _ rfl rfl).cell 2 _ rfl; have a3 := (B7.out.blk 0 (w.heap.size) _ rfl rfl).cell 3 _ rfl; have a4 := (B7.out.blk 0 (w.heap.size) _ rfl rfl).cell 4 _ rfl; have a5 := (B7.out.blk 0 (w.heap.size) _ rfl rfl).cell 5 _ rfl; have a6 := (B7.out.blk 0 (w.heap.size) _ rfl rfl).cell 6 _ rfl; have a7 := (B7.out.blk 0 (w.heap.size) _ rfl rfl).cell 7 _ rfl; have b0 := (B7.out.blk 1 (w.heap.size + 1) _ rfl rfl).cell 0 _ rfl; have b1 := (B7.out.blk 1 (w.heap.size + 1) _ rfl rfl).cell 1 _ rfl; have b2 := (B7.out.blk 1 (w.heap.size + 1) _ rfl rfl).cell 2 _ rfl; have b3 := (B7.out.blk 1 (w.heap.size + 1) _ rfl rfl).cell 3 _ rfl; have b4 := (B7.out.blk 1 (w.heap.size + 1) _ rfl rfl).cell 4 _ rfl; have b5 := (B7.out.blk 1 (w.heap.size + 1) _ rfl rfl).cell 5 _ rfl; have b6 := (B7.out.blk 1 (w.heap.size + 1) _ rfl rfl).cell 6 _ rfl; have b7 := (B7.out.blk 1 (w.heap.size + 1) _ rfl rfl).cell 7 _ rfl; have b8 := (B7.out.blk 1 (w.heap.size + 1) _ rfl rfl).cell 8 _ rfl; have b9 := (B7.out.blk 1 (w.heap.size + 1) _ rfl rfl).cell 9 _ rfl; have c0 := (B7.out.blk 2 (w.heap.size + 1 + 1) _ rfl rfl).cell 0 _ rfl; have c1 := (B7.out.blk 2 (w.heap.size + 1 + 1) _ rfl rfl).cell 1 _ rfl; have c2 := (B7.out.blk 2 (w.heap.size + 1 + 1) _ rfl rfl).cell 2 _ rfl; have c3 := (B7.out.blk 2 (w.heap.size + 1 + 1) _ rfl rfl).cell 3 _ rfl; have c4 := (B7.out.blk 2 (w.heap.size + 1 + 1) _ rfl rfl).cell 4 _ rfl; have c5 := (B7.out.blk 2 (w.heap.size + 1 + 1) _ rfl rfl).cell 5 _ rfl; have c6 := (B7.out.blk 2 (w.heap.size + 1 + 1) _ rfl rfl).cell 6 _ rfl; clear hb))
  have hq2 := Q2.out
  have y0 := X7.out.cell 0 _ rfl
  have y1 := X7.out.cell 1 _ rfl
  have y2 := X7.out.cell 2 _ rfl
  have y3 := X7.out.cell 3 _ rfl
  have y4 := X7.out.cell 4 _ rfl
  have y5 := X7.out.cell 5 _ rfl
  have y6 := X7.out.cell 6 _ rfl
  have y7 := X7.out.cell 7 _ rfl
  have y8 := X7.out.cell 8 _ rfl
  have y9 := X7.out.cell 9 _ rfl
  have yl := X7.out.lt
  go_wp2_with fail
  go_ret
  exact ⟨rfl, B7.out.bel⟩

set_option maxHeartbeats 8000000 in
set_option maxRecDepth 100000 in
theorem walk_ok (m0 m1 m2 m3 m4 u d m n0 : Int) (s0 : Bool) (n1 : Int) (s1 : Bool) (n2 : Int) (s2 : Bool) (n3 : Int) (s3 : Bool) (n4 : Int) (s4 : Bool) (x0 x1 x2 x3 x4 x5 : Int) (v b0 b1 b2 b3 b4 : Bool) (a0 : Int) (f0 : Bool) (a1 : Int) (f1 : Bool) (a2 : Int) (f2 : Bool) (a3 : Int) (f3 : Bool) (a4 : Int) (f4 g : Bool) (w : World) (CE : Hid (∀ W, Calls Try.prog 6 #[.agg #[.int .i32 m0, .int .i32 m1, .int .i32 m2, .int .i32 m3, .int .i32 m4, .int .i64 u, .int .i64 d, .int .i64 m], .agg #[.int .i64 n0, .bool s0, .int .i64 n1, .bool s1, .int .i64 n2, .bool s2, .int .i64 n3, .bool s3, .int .i64 n4, .bool s4]] W fun r w' => r = .returned (.int .i64 0) ∧ Below W.heap.size W w')) (CK : Hid (∀ W, Calls Try.prog 8 #[.agg #[.int .i32 m0, .int .i32 m1, .int .i32 m2, .int .i32 m3, .int .i32 m4, .int .i64 u, .int .i64 d, .int .i64 m], .agg #[.int .i64 n0, .bool s0, .int .i64 n1, .bool s1, .int .i64 n2, .bool s2, .int .i64 n3, .bool s3, .int .i64 n4, .bool s4]] W fun r w' => r = .returned (.int .i64 0) ∧ Below W.heap.size W w')) (CL : Hid (∀ W, Calls Try.prog 9 #[.agg #[.int .i32 m0, .int .i32 m1, .int .i32 m2, .int .i32 m3, .int .i32 m4, .int .i64 u, .int .i64 d, .int .i64 m], .agg #[.int .i32 x0, .int .i32 x1, .int .i32 x2, .int .i32 x3, .int .i32 x4, .int .i32 x5, .bool v]] W fun r w' => r = .returned (.agg #[.bool b0, .bool b1, .bool b2, .bool b3, .bool b4]) ∧ Below W.heap.size W w')) (CR : Hid (∀ W, Calls Try.prog 10 #[.agg #[.int .i32 m0, .int .i32 m1, .int .i32 m2, .int .i32 m3, .int .i32 m4, .int .i64 u, .int .i64 d, .int .i64 m], .agg #[.int .i32 x0, .int .i32 x1, .int .i32 x2, .int .i32 x3, .int .i32 x4, .int .i32 x5, .bool v]] W fun r w' => r = .returned (.agg #[.bool b0, .bool b1, .bool b2, .bool b3, .bool b4]) ∧ Below W.heap.size W w')) (CS : Hid (∀ W, Calls Try.prog 7 #[.agg #[.int .i32 m0, .int .i32 m1, .int .i32 m2, .int .i32 m3, .int .i32 m4, .int .i64 u, .int .i64 d, .int .i64 m], .agg #[.int .i64 n0, .bool s0, .int .i64 n1, .bool s1, .int .i64 n2, .bool s2, .int .i64 n3, .bool s3, .int .i64 n4, .bool s4], .agg #[.int .i32 x0, .int .i32 x1, .int .i32 x2, .int .i32 x3, .int .i32 x4, .int .i32 x5, .bool v]] W fun r w' => r = .returned (.tuple #[.agg #[.int .i64 a0, .bool f0, .int .i64 a1, .bool f1, .int .i64 a2, .bool f2, .int .i64 a3, .bool f3, .int .i64 a4, .bool f4], .bool g, .int .i64 0]) ∧ Below W.heap.size W w')) (CT : Hid (∀ W, Calls Try.prog 11 #[.agg #[.int .i32 m0, .int .i32 m1, .int .i32 m2, .int .i32 m3, .int .i32 m4, .int .i64 u, .int .i64 d, .int .i64 m], .agg #[.int .i64 n0, .bool s0, .int .i64 n1, .bool s1, .int .i64 n2, .bool s2, .int .i64 n3, .bool s3, .int .i64 n4, .bool s4], .agg #[.int .i32 x0, .int .i32 x1, .int .i32 x2, .int .i32 x3, .int .i32 x4, .int .i32 x5, .bool v]] W fun r w' => r = .returned (.tuple #[.agg #[.int .i64 a0, .bool f0, .int .i64 a1, .bool f1, .int .i64 a2, .bool f2, .int .i64 a3, .bool f3, .int .i64 a4, .bool f4], .bool g]) ∧ Below W.heap.size W w')) :
    Calls Try.prog 3 #[.agg #[.int .i32 m0, .int .i32 m1, .int .i32 m2, .int .i32 m3, .int .i32 m4, .int .i64 u, .int .i64 d, .int .i64 m], .agg #[.int .i64 n0, .bool s0, .int .i64 n1, .bool s1, .int .i64 n2, .bool s2, .int .i64 n3, .bool s3, .int .i64 n4, .bool s4], .agg #[.int .i32 x0, .int .i32 x1, .int .i32 x2, .int .i32 x3, .int .i32 x4, .int .i32 x5, .bool v]] w fun r w' => r = .returned (.bool true) ∧ Below w.heap.size w w' := by
  obtain ⟨W0, hW0, B0', Z0'⟩ := lay3n w #[.int .i32 m0, .int .i32 m1, .int .i32 m2, .int .i32 m3, .int .i32 m4, .int .i64 u, .int .i64 d, .int .i64 m] #[.int .i64 n0, .bool s0, .int .i64 n1, .bool s1, .int .i64 n2, .bool s2, .int .i64 n3, .bool s3, .int .i64 n4, .bool s4] #[.int .i32 x0, .int .i32 x1, .int .i32 x2, .int .i32 x3, .int .i32 x4, .int .i32 x5, .bool v] 26 29 31
  have HW : Hid (_) := hW0
  have B0 : Hid (_) := B0'
  clear hW0 B0' Z0'
  have Q1 : Hid (∀ W, (Op.equalIn 10000 36 (.agg #[.bool b0, .bool b1, .bool b2, .bool b3, .bool b4]) (.agg #[.bool b0, .bool b1, .bool b2, .bool b3, .bool b4])).run Try.prog W = .ok true W) := fun W => eq5b b0 b1 b2 b3 b4 W
  have Q2 : Hid (∀ W, (Op.equalIn 10000 29 (.agg #[.int .i64 a0, .bool f0, .int .i64 a1, .bool f1, .int .i64 a2, .bool f2, .int .i64 a3, .bool f3, .int .i64 a4, .bool f4]) (.agg #[.int .i64 a0, .bool f0, .int .i64 a1, .bool f1, .int .i64 a2, .bool f2, .int .i64 a3, .bool f3, .int .i64 a4, .bool f4])).run Try.prog W = .ok true W) := fun W => eq5c a0 a1 a2 a3 a4 f0 f1 f2 f3 f4 W
  go_enter Try.func3, Try.ntmps3
  go_wp2_with fail
  rw [HW.out]
  clear HW
  refine (CE.out _).mono ?_
  rintro e w1 ⟨rfl, hb⟩
  have B1 : Hid (_) := B0.out.step hb
  clear hb B0 CE
  have pl := (B1.out.blk 0 (w.heap.size) _ rfl rfl).lt
  have p0 := (B1.out.blk 0 (w.heap.size) _ rfl rfl).cell 0 _ rfl
  have p1 := (B1.out.blk 0 (w.heap.size) _ rfl rfl).cell 1 _ rfl
  have p2 := (B1.out.blk 0 (w.heap.size) _ rfl rfl).cell 2 _ rfl
  have p3 := (B1.out.blk 0 (w.heap.size) _ rfl rfl).cell 3 _ rfl
  have p4 := (B1.out.blk 0 (w.heap.size) _ rfl rfl).cell 4 _ rfl
  have p5 := (B1.out.blk 0 (w.heap.size) _ rfl rfl).cell 5 _ rfl
  have p6 := (B1.out.blk 0 (w.heap.size) _ rfl rfl).cell 6 _ rfl
  have p7 := (B1.out.blk 0 (w.heap.size) _ rfl rfl).cell 7 _ rfl
  have ql := (B1.out.blk 1 (w.heap.size + 1) _ rfl rfl).lt
  have q0 := (B1.out.blk 1 (w.heap.size + 1) _ rfl rfl).cell 0 _ rfl
  have q1 := (B1.out.blk 1 (w.heap.size + 1) _ rfl rfl).cell 1 _ rfl
  have q2 := (B1.out.blk 1 (w.heap.size + 1) _ rfl rfl).cell 2 _ rfl
  have q3 := (B1.out.blk 1 (w.heap.size + 1) _ rfl rfl).cell 3 _ rfl
  have q4 := (B1.out.blk 1 (w.heap.size + 1) _ rfl rfl).cell 4 _ rfl
  have q5 := (B1.out.blk 1 (w.heap.size + 1) _ rfl rfl).cell 5 _ rfl
  have q6 := (B1.out.blk 1 (w.heap.size + 1) _ rfl rfl).cell 6 _ rfl
  have q7 := (B1.out.blk 1 (w.heap.size + 1) _ rfl rfl).cell 7 _ rfl
  have q8 := (B1.out.blk 1 (w.heap.size + 1) _ rfl rfl).cell 8 _ rfl
  have q9 := (B1.out.blk 1 (w.heap.size + 1) _ rfl rfl).cell 9 _ rfl
  have rl := (B1.out.blk 2 (w.heap.size + 1 + 1) _ rfl rfl).lt
  have r0 := (B1.out.blk 2 (w.heap.size + 1 + 1) _ rfl rfl).cell 0 _ rfl
  have r1 := (B1.out.blk 2 (w.heap.size + 1 + 1) _ rfl rfl).cell 1 _ rfl
  have r2 := (B1.out.blk 2 (w.heap.size + 1 + 1) _ rfl rfl).cell 2 _ rfl
  have r3 := (B1.out.blk 2 (w.heap.size + 1 + 1) _ rfl rfl).cell 3 _ rfl
  have r4 := (B1.out.blk 2 (w.heap.size + 1 + 1) _ rfl rfl).cell 4 _ rfl
  have r5 := (B1.out.blk 2 (w.heap.size + 1 + 1) _ rfl rfl).cell 5 _ rfl
  have r6 := (B1.out.blk 2 (w.heap.size + 1 + 1) _ rfl rfl).cell 6 _ rfl
  go_wp2_with fail
  refine (CS.out _).mono ?_
  rintro e w2 ⟨rfl, hb⟩
  have B2 : Hid (_) := (B1.out.step hb).alloc (.cells #[.int .i64 a0, .bool f0, .int .i64 a1, .bool f1, .int .i64 a2, .bool f2, .int .i64 a3, .bool f3, .int .i64 a4, .bool f4] 29)
  have X2 : Hid (_) := cells_new w2 #[.int .i64 a0, .bool f0, .int .i64 a1, .bool f1, .int .i64 a2, .bool f2, .int .i64 a3, .bool f3, .int .i64 a4, .bool f4] 29
  clear hb B1 CS
  clear pl p0 p1 p2 p3 p4 p5 p6 p7
  clear ql q0 q1 q2 q3 q4 q5 q6 q7 q8 q9
  clear rl r0 r1 r2 r3 r4 r5 r6
  go_upto_region 3 with (fail)
  generalize w2.alloc (.cells #[.int .i64 a0, .bool f0, .int .i64 a1, .bool f1, .int .i64 a2, .bool f2, .int .i64 a3, .bool f3, .int .i64 a4, .bool f4] 29) = w3 at *
  generalize w2.heap.size = N at *
  have pl := (B2.out.blk 0 (w.heap.size) _ rfl rfl).lt
  have p0 := (B2.out.blk 0 (w.heap.size) _ rfl rfl).cell 0 _ rfl
  have p1 := (B2.out.blk 0 (w.heap.size) _ rfl rfl).cell 1 _ rfl
  have p2 := (B2.out.blk 0 (w.heap.size) _ rfl rfl).cell 2 _ rfl
  have p3 := (B2.out.blk 0 (w.heap.size) _ rfl rfl).cell 3 _ rfl
  have p4 := (B2.out.blk 0 (w.heap.size) _ rfl rfl).cell 4 _ rfl
  have p5 := (B2.out.blk 0 (w.heap.size) _ rfl rfl).cell 5 _ rfl
  have p6 := (B2.out.blk 0 (w.heap.size) _ rfl rfl).cell 6 _ rfl
  have p7 := (B2.out.blk 0 (w.heap.size) _ rfl rfl).cell 7 _ rfl
  have ql := (B2.out.blk 1 (w.heap.size + 1) _ rfl rfl).lt
  have q0 := (B2.out.blk 1 (w.heap.size + 1) _ rfl rfl).cell 0 _ rfl
  have q1 := (B2.out.blk 1 (w.heap.size + 1) _ rfl rfl).cell 1 _ rfl
  have q2 := (B2.out.blk 1 (w.heap.size + 1) _ rfl rfl).cell 2 _ rfl
  have q3 := (B2.out.blk 1 (w.heap.size + 1) _ rfl rfl).cell 3 _ rfl
  have q4 := (B2.out.blk 1 (w.heap.size + 1) _ rfl rfl).cell 4 _ rfl
  have q5 := (B2.out.blk 1 (w.heap.size + 1) _ rfl rfl).cell 5 _ rfl
  have q6 := (B2.out.blk 1 (w.heap.size + 1) _ rfl rfl).cell 6 _ rfl
  have q7 := (B2.out.blk 1 (w.heap.size + 1) _ rfl rfl).cell 7 _ rfl
  have q8 := (B2.out.blk 1 (w.heap.size + 1) _ rfl rfl).cell 8 _ rfl
  have q9 := (B2.out.blk 1 (w.heap.size + 1) _ rfl rfl).cell 9 _ rfl
  have rl := (B2.out.blk 2 (w.heap.size + 1 + 1) _ rfl rfl).lt
  have r0 := (B2.out.blk 2 (w.heap.size + 1 + 1) _ rfl rfl).cell 0 _ rfl
  have r1 := (B2.out.blk 2 (w.heap.size + 1 + 1) _ rfl rfl).cell 1 _ rfl
  have r2 := (B2.out.blk 2 (w.heap.size + 1 + 1) _ rfl rfl).cell 2 _ rfl
  have r3 := (B2.out.blk 2 (w.heap.size + 1 + 1) _ rfl rfl).cell 3 _ rfl
  have r4 := (B2.out.blk 2 (w.heap.size + 1 + 1) _ rfl rfl).cell 4 _ rfl
  have r5 := (B2.out.blk 2 (w.heap.size + 1 + 1) _ rfl rfl).cell 5 _ rfl
  have r6 := (B2.out.blk 2 (w.heap.size + 1 + 1) _ rfl rfl).cell 6 _ rfl
  have hq := Q1.out
  go_region_held3 (fun w' => (w'.cell? ⟨w.heap.size, 0, none⟩ = some (.int .i32 m0) ∧ w'.cell? ⟨w.heap.size, 1, none⟩ = some (.int .i32 m1) ∧ w'.cell? ⟨w.heap.size, 2, none⟩ = some (.int .i32 m2) ∧ w'.cell? ⟨w.heap.size, 3, none⟩ = some (.int .i32 m3) ∧ w'.cell? ⟨w.heap.size, 4, none⟩ = some (.int .i32 m4) ∧ w'.cell? ⟨w.heap.size, 5, none⟩ = some (.int .i64 u) ∧ w'.cell? ⟨w.heap.size, 6, none⟩ = some (.int .i64 d) ∧ w'.cell? ⟨w.heap.size, 7, none⟩ = some (.int .i64 m)) ∧ (w'.cell? ⟨w.heap.size + 1, 0, none⟩ = some (.int .i64 n0) ∧ w'.cell? ⟨w.heap.size + 1, 1, none⟩ = some (.bool s0) ∧ w'.cell? ⟨w.heap.size + 1, 2, none⟩ = some (.int .i64 n1) ∧ w'.cell? ⟨w.heap.size + 1, 3, none⟩ = some (.bool s1) ∧ w'.cell? ⟨w.heap.size + 1, 4, none⟩ = some (.int .i64 n2) ∧ w'.cell? ⟨w.heap.size + 1, 5, none⟩ = some (.bool s2) ∧ w'.cell? ⟨w.heap.size + 1, 6, none⟩ = some (.int .i64 n3) ∧ w'.cell? ⟨w.heap.size + 1, 7, none⟩ = some (.bool s3) ∧ w'.cell? ⟨w.heap.size + 1, 8, none⟩ = some (.int .i64 n4) ∧ w'.cell? ⟨w.heap.size + 1, 9, none⟩ = some (.bool s4)) ∧ (w'.cell? ⟨w.heap.size + 1 + 1, 0, none⟩ = some (.int .i32 x0) ∧ w'.cell? ⟨w.heap.size + 1 + 1, 1, none⟩ = some (.int .i32 x1) ∧ w'.cell? ⟨w.heap.size + 1 + 1, 2, none⟩ = some (.int .i32 x2) ∧ w'.cell? ⟨w.heap.size + 1 + 1, 3, none⟩ = some (.int .i32 x3) ∧ w'.cell? ⟨w.heap.size + 1 + 1, 4, none⟩ = some (.int .i32 x4) ∧ w'.cell? ⟨w.heap.size + 1 + 1, 5, none⟩ = some (.int .i32 x5) ∧ w'.cell? ⟨w.heap.size + 1 + 1, 6, none⟩ = some (.bool v))) (go_keep) (first | (go_at_call 8; refine (CK.out _).mono ?_; rintro r w5 ⟨rfl, hb⟩; have B5 : Hid (Lay w [[.int .i32 m0, .int .i32 m1, .int .i32 m2, .int .i32 m3, .int .i32 m4, .int .i64 u, .int .i64 d, .int .i64 m], [.int .i64 n0, .bool s0, .int .i64 n1, .bool s1, .int .i64 n2, .bool s2, .int .i64 n3, .bool s3, .int .i64 n4, .bool s4], [.int .i32 x0, .int .i32 x1, .int .i32 x2, .int .i32 x3, .int .i32 x4, .int .i32 x5, .bool v]] w5) := B2.out.drew.step hb; have X5 : Hid (_) := X2.out.drew.step hb; have a0 := (B5.out.blk 0 (w.heap.size) _ rfl rfl).cell 0 _ rfl; have a1 := (B5.out.blk 0 (w.heap.size) _ rfl rfl).cell 1 _ rfl; have a2 := (B5.out.blk 0 (w.heap.size) _ rfl rfl).cell 2 _ rfl; have a3 := (B5.out.blk 0 (w.heap.size) _ rfl rfl).cell 3 _ rfl; have a4 := (B5.out.blk 0 (w.heap.size) _ rfl rfl).cell 4 _ rfl; have a5 := (B5.out.blk 0 (w.heap.size) _ rfl rfl).cell 5 _ rfl; have a6 := (B5.out.blk 0 (w.heap.size) _ rfl rfl).cell 6 _ rfl; have a7 := (B5.out.blk 0 (w.heap.size) _ rfl rfl).cell 7 _ rfl; have b0 := (B5.out.blk 1 (w.heap.size + 1) _ rfl rfl).cell 0 _ rfl; have b1 := (B5.out.blk 1 (w.heap.size + 1) _ rfl rfl).cell 1 _ rfl; have b2 := (B5.out.blk 1 (w.heap.size + 1) _ rfl rfl).cell 2 _ rfl; have b3 := (B5.out.blk 1 (w.heap.size + 1) _ rfl rfl).cell 3 _ rfl; have b4 := (B5.out.blk 1 (w.heap.size + 1) _ rfl rfl).cell 4 _ rfl; have b5 := (B5.out.blk 1 (w.heap.size + 1) _ rfl rfl).cell 5 _ rfl; have b6 := (B5.out.blk 1 (w.heap.size + 1) _ rfl rfl).cell 6 _ rfl; have b7 := (B5.out.blk 1 (w.heap.size + 1) _ rfl rfl).cell 7 _ rfl; have b8 := (B5.out.blk 1 (w.heap.size + 1) _ rfl rfl).cell 8 _ rfl; have b9 := (B5.out.blk 1 (w.heap.size + 1) _ rfl rfl).cell 9 _ rfl; have c0 := (B5.out.blk 2 (w.heap.size + 1 + 1) _ rfl rfl).cell 0 _ rfl; have c1 := (B5.out.blk 2 (w.heap.size + 1 + 1) _ rfl rfl).cell 1 _ rfl; have c2 := (B5.out.blk 2 (w.heap.size + 1 + 1) _ rfl rfl).cell 2 _ rfl; have c3 := (B5.out.blk 2 (w.heap.size + 1 + 1) _ rfl rfl).cell 3 _ rfl; have c4 := (B5.out.blk 2 (w.heap.size + 1 + 1) _ rfl rfl).cell 4 _ rfl; have c5 := (B5.out.blk 2 (w.heap.size + 1 + 1) _ rfl rfl).cell 5 _ rfl; have c6 := (B5.out.blk 2 (w.heap.size + 1 + 1) _ rfl rfl).cell 6 _ rfl; clear hb) | (go_at_call 9; refine (CL.out _).mono ?_; rintro r w6 ⟨rfl, hb⟩; have B6 : Hid (Lay w [[.int .i32 m0, .int .i32 m1, .int .i32 m2, .int .i32 m3, .int .i32 m4, .int .i64 u, .int .i64 d, .int .i64 m], [.int .i64 n0, .bool s0, .int .i64 n1, .bool s1, .int .i64 n2, .bool s2, .int .i64 n3, .bool s3, .int .i64 n4, .bool s4], [.int .i32 x0, .int .i32 x1, .int .i32 x2, .int .i32 x3, .int .i32 x4, .int .i32 x5, .bool v]] w6) := (by first | exact B7.out.step hb | exact B5.out.step hb); have X6 : Hid (_) := (by first | exact X7.out.step hb | exact X5.out.step hb : Cells w6 N _); have a0 := (B6.out.blk 0 (w.heap.size) _ rfl rfl).cell 0 _ rfl; have a1 := (B6.out.blk 0 (w.heap.size) _ rfl rfl).cell 1 _ rfl; have a2 := (B6.out.blk 0 (w.heap.size) _ rfl rfl).cell 2 _ rfl; have a3 := (B6.out.blk 0 (w.heap.size) _ rfl rfl).cell 3 _ rfl; have a4 := (B6.out.blk 0 (w.heap.size) _ rfl rfl).cell 4 _ rfl; have a5 := (B6.out.blk 0 (w.heap.size) _ rfl rfl).cell 5 _ rfl; have a6 := (B6.out.blk 0 (w.heap.size) _ rfl rfl).cell 6 _ rfl; have a7 := (B6.out.blk 0 (w.heap.size) _ rfl rfl).cell 7 _ rfl; have b0 := (B6.out.blk 1 (w.heap.size + 1) _ rfl rfl).cell 0 _ rfl; have b1 := (B6.out.blk 1 (w.heap.size + 1) _ rfl rfl).cell 1 _ rfl; have b2 := (B6.out.blk 1 (w.heap.size + 1) _ rfl rfl).cell 2 _ rfl; have b3 := (B6.out.blk 1 (w.heap.size + 1) _ rfl rfl).cell 3 _ rfl; have b4 := (B6.out.blk 1 (w.heap.size + 1) _ rfl rfl).cell 4 _ rfl; have b5 := (B6.out.blk 1 (w.heap.size + 1) _ rfl rfl).cell 5 _ rfl; have b6 := (B6.out.blk 1 (w.heap.size + 1) _ rfl rfl).cell 6 _ rfl; have b7 := (B6.out.blk 1 (w.heap.size + 1) _ rfl rfl).cell 7 _ rfl; have b8 := (B6.out.blk 1 (w.heap.size + 1) _ rfl rfl).cell 8 _ rfl; have b9 := (B6.out.blk 1 (w.heap.size + 1) _ rfl rfl).cell 9 _ rfl; have c0 := (B6.out.blk 2 (w.heap.size + 1 + 1) _ rfl rfl).cell 0 _ rfl; have c1 := (B6.out.blk 2 (w.heap.size + 1 + 1) _ rfl rfl).cell 1 _ rfl; have c2 := (B6.out.blk 2 (w.heap.size + 1 + 1) _ rfl rfl).cell 2 _ rfl; have c3 := (B6.out.blk 2 (w.heap.size + 1 + 1) _ rfl rfl).cell 3 _ rfl; have c4 := (B6.out.blk 2 (w.heap.size + 1 + 1) _ rfl rfl).cell 4 _ rfl; have c5 := (B6.out.blk 2 (w.heap.size + 1 + 1) _ rfl rfl).cell 5 _ rfl; have c6 := (B6.out.blk 2 (w.heap.size + 1 + 1) _ rfl rfl).cell 6 _ rfl; clear hb) | (go_at_call 10; refine (CR.out _).mono ?_; rintro r w7 ⟨rfl, hb⟩; have B7 : Hid (Lay w [[.int .i32 m0, .int .i32 m1, .int .i32 m2, .int .i32 m3, .int .i32 m4, .int .i64 u, .int .i64 d, .int .i64 m], [.int .i64 n0, .bool s0, .int .i64 n1, .bool s1, .int .i64 n2, .bool s2, .int .i64 n3, .bool s3, .int .i64 n4, .bool s4], [.int .i32 x0, .int .i32 x1, .int .i32 x2, .int .i32 x3, .int .i32 x4, .int .i32 x5, .bool v]] w7) := (by first | exact B6.out.step hb | exact B5.out.step hb); have X7 : Hid (_) := (by first | exact X6.out.step hb | exact X5.out.step hb : Cells w7 N _); have a0 := (B7.out.blk 0 (w.heap.size) _ rfl rfl).cell 0 _ rfl; have a1 := (B7.out.blk 0 (w.heap.size) _ rfl rfl).cell 1 _ rfl; have a2 := (B7.out.blk 0 (w.heap.size) _ rfl rfl).cell 2 _ rfl; have a3 := (B7.out.blk 0 (w.heap.size) _ rfl rfl).cell 3 _ rfl; have a4 := (B7.out.blk 0 (w.heap.size) _ rfl rfl).cell 4 _ rfl; have a5 := (B7.out.blk 0 (w.heap.size) _ rfl rfl).cell 5 _ rfl; have a6 := (B7.out.blk 0 (w.heap.size) _ rfl rfl).cell 6 _ rfl; have a7 := (B7.out.blk 0 (w.heap.size) _ rfl rfl).cell 7 _ rfl; have b0 := (B7.out.blk 1 (w.heap.size + 1) _ rfl rfl).cell 0 _ rfl; have b1 := (B7.out.blk 1 (w.heap.size + 1) _ rfl rfl).cell 1 _ rfl; have b2 := (B7.out.blk 1 (w.heap.size + 1) _ rfl rfl).cell 2 _ rfl; have b3 := (B7.out.blk 1 (w.heap.size + 1) _ rfl rfl).cell 3 _ rfl; have b4 := (B7.out.blk 1 (w.heap.size + 1) _ rfl rfl).cell 4 _ rfl; have b5 := (B7.out.blk 1 (w.heap.size + 1) _ rfl rfl).cell 5 _ rfl; have b6 := (B7.out.blk 1 (w.heap.size + 1) _ rfl rfl).cell 6 _ rfl; have b7 := (B7.out.blk 1 (w.heap.size + 1) _ rfl rfl).cell 7 _ rfl; have b8 := (B7.out.blk 1 (w.heap.size + 1) _ rfl rfl).cell 8 _ rfl; have b9 := (B7.out.blk 1 (w.heap.size + 1) _ rfl rfl).cell 9 _ rfl; have c0 := (B7.out.blk 2 (w.heap.size + 1 + 1) _ rfl rfl).cell 0 _ rfl; have c1 := (B7.out.blk 2 (w.heap.size + 1 + 1) _ rfl rfl).cell 1 _ rfl; have c2 := (B7.out.blk 2 (w.heap.size + 1 + 1) _ rfl rfl).cell 2 _ rfl; have c3 := (B7.out.blk 2 (w.heap.size + 1 + 1) _ rfl rfl).cell 3 _ rfl; have c4 := (B7.out.blk 2 (w.heap.size + 1 + 1) _ rfl rfl).cell 4 _ rfl; have c5 := (B7.out.blk 2 (w.heap.size + 1 + 1) _ rfl rfl).cell 5 _ rfl; have c6 := (B7.out.blk 2 (w.heap.size + 1 + 1) _ rfl rfl).cell 6 _ rfl; clear hb))
  have hq2 := Q2.out
  go_wp2_with fail
  refine (CT.out _).mono ?_
  rintro r w8 ⟨rfl, hb⟩
  have B8 : Hid (_) := B7.out.step hb
  have X8 : Hid (_) := X7.out.step hb
  clear hb
  have y0 := X8.out.cell 0 _ rfl
  have y1 := X8.out.cell 1 _ rfl
  have y2 := X8.out.cell 2 _ rfl
  have y3 := X8.out.cell 3 _ rfl
  have y4 := X8.out.cell 4 _ rfl
  have y5 := X8.out.cell 5 _ rfl
  have y6 := X8.out.cell 6 _ rfl
  have y7 := X8.out.cell 7 _ rfl
  have y8 := X8.out.cell 8 _ rfl
  have y9 := X8.out.cell 9 _ rfl
  have yl := X8.out.lt
  go_wp2_with fail
  go_ret
  exact ⟨rfl, (B8.out.alloc _).bel⟩

set_option maxRecDepth 100000 in
theorem walk (wvMost0 : Int) (wvMost1 : Int) (wvMost2 : Int) (wvMost3 : Int) (wvMost4 : Int) (wvPersistUp : Int) (wvPersistDown : Int) (wvPersistMost : Int) (s0N : Int) (s0Set : Bool) (s1N : Int) (s1Set : Bool) (s2N : Int) (s2Set : Bool) (s3N : Int) (s3Set : Bool) (s4N : Int) (s4Set : Bool) (xValve : Int) (xSpool : Int) (xPos : Int) (xMid : Int) (xTrack : Int) (xFight : Int) (xValid : Bool) (w : World) (h_wvMost0 : (Lit.int .i32 wvMost0).wf = true) (h_wvMost1 : (Lit.int .i32 wvMost1).wf = true) (h_wvMost2 : (Lit.int .i32 wvMost2).wf = true) (h_wvMost3 : (Lit.int .i32 wvMost3).wf = true) (h_wvMost4 : (Lit.int .i32 wvMost4).wf = true) (h_wvPersistUp : (Lit.int .i64 wvPersistUp).wf = true) (h_wvPersistDown : (Lit.int .i64 wvPersistDown).wf = true) (h_wvPersistMost : (Lit.int .i64 wvPersistMost).wf = true) (h_s0N : (Lit.int .i64 s0N).wf = true) (h_s1N : (Lit.int .i64 s1N).wf = true) (h_s2N : (Lit.int .i64 s2N).wf = true) (h_s3N : (Lit.int .i64 s3N).wf = true) (h_s4N : (Lit.int .i64 s4N).wf = true) (h_xValve : (Lit.int .i32 xValve).wf = true) (h_xSpool : (Lit.int .i32 xSpool).wf = true) (h_xPos : (Lit.int .i32 xPos).wf = true) (h_xMid : (Lit.int .i32 xMid).wf = true) (h_xTrack : (Lit.int .i32 xTrack).wf = true) (h_xFight : (Lit.int .i32 xFight).wf = true) :
    Calls Try.prog 3 #[.agg #[.int .i32 wvMost0, .int .i32 wvMost1, .int .i32 wvMost2, .int .i32 wvMost3, .int .i32 wvMost4, .int .i64 wvPersistUp, .int .i64 wvPersistDown, .int .i64 wvPersistMost], .agg #[.int .i64 s0N, .bool s0Set, .int .i64 s1N, .bool s1Set, .int .i64 s2N, .bool s2Set, .int .i64 s3N, .bool s3Set, .int .i64 s4N, .bool s4Set], .agg #[.int .i32 xValve, .int .i32 xSpool, .int .i32 xPos, .int .i32 xMid, .int .i32 xTrack, .int .i32 xFight, .bool xValid]] w fun e w' => e = .returned (.bool true) ∧ Below w.heap.size w w' := by
  have H : W5 wvMost0 wvMost1 wvMost2 wvMost3 wvMost4 xValve xSpool xPos xMid xTrack xFight := ⟨i32_of h_wvMost0, i32_of h_wvMost1, i32_of h_wvMost2, i32_of h_wvMost3, i32_of h_wvMost4, i32_of h_xValve, i32_of h_xSpool, i32_of h_xPos, i32_of h_xMid, i32_of h_xTrack, i32_of h_xFight⟩
  by_cases h : OkW wvPersistUp wvPersistDown wvPersistMost (q5 wvMost0 wvMost1 wvMost2 wvMost3 wvMost4) (q5 s0N s1N s2N s3N s4N)
  · obtain ⟨nn, hn⟩ : ∃ nn : Nat → Int, ∀ j, nxI wvPersistUp wvPersistDown wvPersistMost ((q5 s0N s1N s2N s3N s4N) j) (p5 (farB wvMost0 xValve xSpool) (farB wvMost1 xPos xMid) (farB wvMost2 xPos xTrack) (aboveB wvMost3 xFight) (!xValid) j) = nn j := ⟨_, fun _ => rfl⟩
    obtain ⟨ss, hs⟩ : ∃ ss : Nat → Bool, ∀ j, nxB wvPersistMost (nn j) ((p5 s0Set s1Set s2Set s3Set s4Set) j) = ss j := ⟨_, fun _ => rfl⟩
    obtain ⟨A, hA0, hA⟩ : ∃ A : Nat → Bool, A 0 = false ∧ ∀ j, A (j + 1) = (A j || ss j) := ⟨fun j => Nat.rec false (fun k r => r || ss k) j, rfl, fun _ => rfl⟩
    exact walk_ok wvMost0 wvMost1 wvMost2 wvMost3 wvMost4 wvPersistUp wvPersistDown wvPersistMost s0N s0Set s1N s1Set s2N s2Set s3N s3Set s4N s4Set xValve xSpool xPos xMid xTrack xFight xValid (farB wvMost0 xValve xSpool) (farB wvMost1 xPos xMid) (farB wvMost2 xPos xTrack) (aboveB wvMost3 xFight) (!xValid) (nn 0) (ss 0) (nn 1) (ss 1) (nn 2) (ss 2) (nn 3) (ss 3) (nn 4) (ss 4) (A 5) w
      (fun W => rwerr_any wvPersistUp wvPersistDown wvPersistMost (q5 wvMost0 wvMost1 wvMost2 wvMost3 wvMost4) (q5 s0N s1N s2N s3N s4N) s0Set s1Set s2Set s3Set s4Set 0 W (Or.inl ⟨h, rfl⟩))
      (fun W => wcheck_any wvPersistUp wvPersistDown wvPersistMost (q5 wvMost0 wvMost1 wvMost2 wvMost3 wvMost4) (q5 s0N s1N s2N s3N s4N) s0Set s1Set s2Set s3Set s4Set 0 W (Or.inl ⟨h, rfl⟩))
      (fun W => look_any wvMost0 wvMost1 wvMost2 wvMost3 wvMost4 wvPersistUp wvPersistDown wvPersistMost xValve xSpool xPos xMid xTrack xFight xValid W H) (fun W => rlook_any wvMost0 wvMost1 wvMost2 wvMost3 wvMost4 wvPersistUp wvPersistDown wvPersistMost xValve xSpool xPos xMid xTrack xFight xValid W H)
      (fun W => wstep_ok wvPersistUp wvPersistDown wvPersistMost (q5 wvMost0 wvMost1 wvMost2 wvMost3 wvMost4) (q5 s0N s1N s2N s3N s4N) (p5 s0Set s1Set s2Set s3Set s4Set) (p5 (farB wvMost0 xValve xSpool) (farB wvMost1 xPos xMid) (farB wvMost2 xPos xTrack) (aboveB wvMost3 xFight) (!xValid)) xValve xSpool xPos xMid xTrack xFight xValid nn ss A W h (fun W => look_any wvMost0 wvMost1 wvMost2 wvMost3 wvMost4 wvPersistUp wvPersistDown wvPersistMost xValve xSpool xPos xMid xTrack xFight xValid W H) hn hs hA0 hA)
      (fun W => rwstep_ok wvPersistUp wvPersistDown wvPersistMost (q5 wvMost0 wvMost1 wvMost2 wvMost3 wvMost4) (q5 s0N s1N s2N s3N s4N) (p5 s0Set s1Set s2Set s3Set s4Set) (p5 (farB wvMost0 xValve xSpool) (farB wvMost1 xPos xMid) (farB wvMost2 xPos xTrack) (aboveB wvMost3 xFight) (!xValid)) xValve xSpool xPos xMid xTrack xFight xValid nn ss A W h (fun W => rlook_any wvMost0 wvMost1 wvMost2 wvMost3 wvMost4 wvPersistUp wvPersistDown wvPersistMost xValve xSpool xPos xMid xTrack xFight xValid W H) hn hs hA0 hA)
  · exact walk_bad wvMost0 wvMost1 wvMost2 wvMost3 wvMost4 wvPersistUp wvPersistDown wvPersistMost s0N s0Set s1N s1Set s2N s2Set s3N s3Set s4N s4Set xValve xSpool xPos xMid xTrack xFight xValid (farB wvMost0 xValve xSpool) (farB wvMost1 xPos xMid) (farB wvMost2 xPos xTrack) (aboveB wvMost3 xFight) (!xValid) w
      (fun W => rwerr_any wvPersistUp wvPersistDown wvPersistMost (q5 wvMost0 wvMost1 wvMost2 wvMost3 wvMost4) (q5 s0N s1N s2N s3N s4N) s0Set s1Set s2Set s3Set s4Set 1 W (Or.inr ⟨h, rfl⟩))
      (fun W => wcheck_any wvPersistUp wvPersistDown wvPersistMost (q5 wvMost0 wvMost1 wvMost2 wvMost3 wvMost4) (q5 s0N s1N s2N s3N s4N) s0Set s1Set s2Set s3Set s4Set 1 W (Or.inr ⟨h, rfl⟩))
      (fun W => look_any wvMost0 wvMost1 wvMost2 wvMost3 wvMost4 wvPersistUp wvPersistDown wvPersistMost xValve xSpool xPos xMid xTrack xFight xValid W H) (fun W => rlook_any wvMost0 wvMost1 wvMost2 wvMost3 wvMost4 wvPersistUp wvPersistDown wvPersistMost xValve xSpool xPos xMid xTrack xFight xValid W H)
      (fun W => wstep_bad wvPersistUp wvPersistDown wvPersistMost (q5 wvMost0 wvMost1 wvMost2 wvMost3 wvMost4) (q5 s0N s1N s2N s3N s4N) (p5 s0Set s1Set s2Set s3Set s4Set) xValve xSpool xPos xMid xTrack xFight xValid W h)

/-! ### THE ROW's STEP -/
set_option maxRecDepth 100000 in
theorem lifted (os : Os) (started : os.Started) (H : Type) (enc : TypeId × Value → H) :
    ReturnsInHanded {} Try.checked os 3 .any (Rows.watchSaysSpec.pre6 enc Try.prog Try.f3 Rows.watchSaysRow.domain false) (Rows.watchSaysSpec.post enc Try.prog Try.f3 false true false false) := by
  refine returnsInHanded_of_change_sized (C := Try.checked) own started (by kernel_rfl) Try.func3
    (ChangeSpec.witness6 (enc := enc) (C := Try.checked) false ⟨#[], #[.agg #[.int .i32 0, .int .i32 0, .int .i32 0, .int .i32 0, .int .i32 0, .int .i64 0, .int .i64 0, .int .i64 0], .agg #[.int .i64 0, .bool false, .int .i64 0, .bool false, .int .i64 0, .bool false, .int .i64 0, .bool false, .int .i64 0, .bool false], .agg #[.int .i32 0, .int .i32 0, .int .i32 0, .int .i32 0, .int .i32 0, .int .i32 0, .bool false]], []⟩ 8 (by kernel_rfl) (by kernel_rfl) (by kernel_rfl) (by kernel_rfl)) ?_
  intro W base args ds gs before hval0 hW hcnd hsz0 _
  have hval : ∀ (j : Nat) t v, Try.f3.params[j]? = some t → args[j]? = some v → Value.okWide Try.prog W .any base t v := hval0
  have hW' := hW
  obtain ⟨p, q, hA0, hV, rfl, hfz, hnd⟩ := hW
  have hA : DataW.TrodAll enc Try.prog W 0 (fun _ => true) true Try.f3.params.toList args.toList ds p := hA0
  rw [Try.params3] at hA hval
  obtain ⟨v_0, vs_0, d_0, ds_0, p_0, q_0, hargs, rfl, rfl, h_0, r_0⟩ := trodAll_cons hA
  obtain ⟨v_1, vs_1, d_1, ds_1, p_1, q_1, rfl, rfl, rfl, h_1, r_1⟩ := trodAll_cons r_0
  obtain ⟨v_2, vs_2, d_2, ds_2, p_2, q_2, rfl, rfl, rfl, h_2, r_2⟩ := trodAll_cons r_1
  obtain ⟨rfl, rfl, rfl⟩ := trodAll_nil r_2
  obtain rfl : args = #[v_0, v_1, v_2] := by cases args; simp_all
  obtain ⟨rfl, rfl⟩ := trodVars_none hV
  have hz_0 : Light Try.prog 26 d_0 := light_of hsz0 (j := 0) (by first | rfl | (rw [Try.params3]; rfl)) rfl
  have k_0 := h_0
  have lt_0 : ∀ x ∈ p_0, x.block < W.heap.size := by obtain ⟨m, hm⟩ := k_0; exact DataW.trod_lt m _ _ _ hm
  obtain ⟨cs_0, rfl, _⟩ := okWide_struct Try.underlying26 (hval 0 26 v_0 rfl rfl)
  obtain ⟨wvMost0, wvMost1, wvMost2, wvMost3, wvMost4, wvPersistUp, wvPersistDown, wvPersistMost, e_0, h_wvMost0, h_wvMost1, h_wvMost2, h_wvMost3, h_wvMost4, h_wvPersistUp, h_wvPersistDown, h_wvPersistMost⟩ := (by obtain ⟨fuel, hf⟩ := h_0; exact open26 hf hz_0 : ∃ wvMost0 : Int, ∃ wvMost1 : Int, ∃ wvMost2 : Int, ∃ wvMost3 : Int, ∃ wvMost4 : Int, ∃ wvPersistUp : Int, ∃ wvPersistDown : Int, ∃ wvPersistMost : Int, cs_0.toList = [.int .i32 wvMost0, .int .i32 wvMost1, .int .i32 wvMost2, .int .i32 wvMost3, .int .i32 wvMost4, .int .i64 wvPersistUp, .int .i64 wvPersistDown, .int .i64 wvPersistMost] ∧ (Lit.int .i32 wvMost0).wf = true ∧ (Lit.int .i32 wvMost1).wf = true ∧ (Lit.int .i32 wvMost2).wf = true ∧ (Lit.int .i32 wvMost3).wf = true ∧ (Lit.int .i32 wvMost4).wf = true ∧ (Lit.int .i64 wvPersistUp).wf = true ∧ (Lit.int .i64 wvPersistDown).wf = true ∧ (Lit.int .i64 wvPersistMost).wf = true)
  obtain rfl : cs_0 = #[.int .i32 wvMost0, .int .i32 wvMost1, .int .i32 wvMost2, .int .i32 wvMost3, .int .i32 wvMost4, .int .i64 wvPersistUp, .int .i64 wvPersistDown, .int .i64 wvPersistMost] := by cases cs_0; simp_all
  clear e_0
  have hz_1 : Light Try.prog 29 d_1 := light_of hsz0 (j := 1) (by first | rfl | (rw [Try.params3]; rfl)) rfl
  have k_1 := h_1
  have lt_1 : ∀ x ∈ p_1, x.block < W.heap.size := by obtain ⟨m, hm⟩ := k_1; exact DataW.trod_lt m _ _ _ hm
  obtain ⟨cs_1, rfl, _⟩ := okWide_array Try.underlying29 (hval 1 29 v_1 rfl rfl)
  obtain ⟨s0N, s0Set, s1N, s1Set, s2N, s2Set, s3N, s3Set, s4N, s4Set, e_1, h_s0N, h_s1N, h_s2N, h_s3N, h_s4N⟩ := (by obtain ⟨fuel, hf⟩ := h_1; exact open29 hf hz_1 : ∃ s0N : Int, ∃ s0Set : Bool, ∃ s1N : Int, ∃ s1Set : Bool, ∃ s2N : Int, ∃ s2Set : Bool, ∃ s3N : Int, ∃ s3Set : Bool, ∃ s4N : Int, ∃ s4Set : Bool, cs_1.toList = [.int .i64 s0N, .bool s0Set, .int .i64 s1N, .bool s1Set, .int .i64 s2N, .bool s2Set, .int .i64 s3N, .bool s3Set, .int .i64 s4N, .bool s4Set] ∧ (Lit.int .i64 s0N).wf = true ∧ (Lit.int .i64 s1N).wf = true ∧ (Lit.int .i64 s2N).wf = true ∧ (Lit.int .i64 s3N).wf = true ∧ (Lit.int .i64 s4N).wf = true)
  obtain rfl : cs_1 = #[.int .i64 s0N, .bool s0Set, .int .i64 s1N, .bool s1Set, .int .i64 s2N, .bool s2Set, .int .i64 s3N, .bool s3Set, .int .i64 s4N, .bool s4Set] := by cases cs_1; simp_all
  clear e_1
  have hz_2 : Light Try.prog 31 d_2 := light_of hsz0 (j := 2) (by first | rfl | (rw [Try.params3]; rfl)) rfl
  have k_2 := h_2
  have lt_2 : ∀ x ∈ p_2, x.block < W.heap.size := by obtain ⟨m, hm⟩ := k_2; exact DataW.trod_lt m _ _ _ hm
  obtain ⟨cs_2, rfl, _⟩ := okWide_struct Try.underlying31 (hval 2 31 v_2 rfl rfl)
  obtain ⟨xValve, xSpool, xPos, xMid, xTrack, xFight, xValid, e_2, h_xValve, h_xSpool, h_xPos, h_xMid, h_xTrack, h_xFight⟩ := (by obtain ⟨fuel, hf⟩ := h_2; exact open31 hf hz_2 : ∃ xValve : Int, ∃ xSpool : Int, ∃ xPos : Int, ∃ xMid : Int, ∃ xTrack : Int, ∃ xFight : Int, ∃ xValid : Bool, cs_2.toList = [.int .i32 xValve, .int .i32 xSpool, .int .i32 xPos, .int .i32 xMid, .int .i32 xTrack, .int .i32 xFight, .bool xValid] ∧ (Lit.int .i32 xValve).wf = true ∧ (Lit.int .i32 xSpool).wf = true ∧ (Lit.int .i32 xPos).wf = true ∧ (Lit.int .i32 xMid).wf = true ∧ (Lit.int .i32 xTrack).wf = true ∧ (Lit.int .i32 xFight).wf = true)
  obtain rfl : cs_2 = #[.int .i32 xValve, .int .i32 xSpool, .int .i32 xPos, .int .i32 xMid, .int .i32 xTrack, .int .i32 xFight, .bool xValid] := by cases cs_2; simp_all
  clear e_2
  clear hA0 hval0
  refine (walk wvMost0 wvMost1 wvMost2 wvMost3 wvMost4 wvPersistUp wvPersistDown wvPersistMost s0N s0Set s1N s1Set s2N s2Set s3N s3Set s4N s4Set xValve xSpool xPos xMid xTrack xFight xValid W h_wvMost0 h_wvMost1 h_wvMost2 h_wvMost3 h_wvMost4 h_wvPersistUp h_wvPersistDown h_wvPersistMost h_s0N h_s1N h_s2N h_s3N h_s4N h_xValve h_xSpool h_xPos h_xMid h_xTrack h_xFight).mono fun e W' ⟨he, bel⟩ => ?_
  subst he
  exact ⟨_, rfl, _, _, _, [], _, [], hW', trodAll_mk1 (shut_bool Try.underlying4 _), (trodAll_cons_mk (Below.trod laidOut (by kernel_rfl) (of_decide_eq_true (by kernel_rfl)) k_0 bel lt_0) (trodAll_cons_mk (Below.trod laidOut (by kernel_rfl) (of_decide_eq_true (by kernel_rfl)) k_1 bel lt_1) (trodAll_cons_mk (Below.trod laidOut (by kernel_rfl) (of_decide_eq_true (by kernel_rfl)) k_2 bel lt_2) trodAll_mk0))), rfl, bel.frame _, fun h => by cases h⟩

theorem over : Rows.watchSaysRow.holds Try.pinned (OpenSpec.ofChange Rows.watchSaysSpec) :=
  OpenClaim.holds_of_wide 3 Try.f3 rfl rfl rfl rfl rfl rfl rfl ⟨rfl, rfl, rfl, rfl, rfl⟩ rfl rfl rfl rfl rfl (by kernel_rfl) Try.func3 (by kernel_rfl)
    (of_decide_eq_true (by kernel_rfl)) (by unfold Func.isWrapper; first | (rw [if_pos (by decide +kernel)]; kernel_rfl) | (rw [if_neg (by decide +kernel)]; exact ⟨rfl, rfl⟩))
    (fun os started H enc _ => lifted os started H enc)


end Go.Proofs.Ythfbdnhhmnehaaa.watchSays
namespace Go.Proofs.Ythfbdnhhmnehaaa
/-- THE STATEMENT -/
theorem watchSays_holds : Rows.WatchSaysSaid := watchSays.over
#print axioms watchSays_holds
end Go.Proofs.Ythfbdnhhmnehaaa
