/-
  Whatever is handed in, the law StrokeSays returns true: Check, Time and Test answer what the document says. No condition.
-/
import Derived.Test.YtihcioghbidblaaRStkAll
import Derived.Test.YtihcioghbidblaaOpenP
import Derived.ProofKit
namespace Go.Proofs.Ytihcioghbidblaa.strokeSays
open Go.ChangeShapes Go.WideShapes Go.ChangeAt Go.RowKit
set_option linter.unusedVariables false

theorem own : ownKnob Try.prog.godebug = none := by kernel_rfl
theorem laidOut : laidOutB Try.prog = true := by kernel_rfl

theorem list2 {l : List Value} (h : l.length = 2) : ∃ c0 c1, l = [c0, c1] := by
  match l, h with
  | [c0, c1], _ => exact ⟨c0, c1, rfl⟩

theorem list4 {l : List Value} (h : l.length = 4) : ∃ c0 c1 c2 c3, l = [c0, c1, c2, c3] := by
  match l, h with
  | [c0, c1, c2, c3], _ => exact ⟨c0, c1, c2, c3, rfl⟩

theorem list5 {l : List Value} (h : l.length = 5) : ∃ c0 c1 c2 c3 c4, l = [c0, c1, c2, c3, c4] := by
  match l, h with
  | [c0, c1, c2, c3, c4], _ => exact ⟨c0, c1, c2, c3, c4, rfl⟩

theorem list7 {l : List Value} (h : l.length = 7) : ∃ c0 c1 c2 c3 c4 c5 c6, l = [c0, c1, c2, c3, c4, c5, c6] := by
  match l, h with
  | [c0, c1, c2, c3, c4, c5, c6], _ => exact ⟨c0, c1, c2, c3, c4, c5, c6, rfl⟩

theorem list16 {l : List Value} (h : l.length = 16) : ∃ c0 c1 c2 c3 c4 c5 c6 c7 c8 c9 c10 c11 c12 c13 c14 c15, l = [c0, c1, c2, c3, c4, c5, c6, c7, c8, c9, c10, c11, c12, c13, c14, c15] := by
  match l, h with
  | [c0, c1, c2, c3, c4, c5, c6, c7, c8, c9, c10, c11, c12, c13, c14, c15], _ => exact ⟨c0, c1, c2, c3, c4, c5, c6, c7, c8, c9, c10, c11, c12, c13, c14, c15, rfl⟩

theorem open23 {H : Type} {enc : TypeId × Value → H} {w : World} {base : Nat} {spare : Nat → Bool} {held : Bool} {fuel : Nat} {cs : List Value} {x : DataW H × List MemPlace} (h : DataW.trod enc Try.prog w base spare held fuel 23 cs = some x) (hz : Light Try.prog 23 x.1) :
    ∃ vGain : Int, ∃ vDrag : Int, ∃ vLow : Int, ∃ vHigh : Int, cs = [.int .i32 vGain, .int .i64 vDrag, .int .i32 vLow, .int .i32 vHigh] ∧ (Lit.int .i32 vGain).wf = true ∧ (Lit.int .i64 vDrag).wf = true ∧ (Lit.int .i32 vLow).wf = true ∧ (Lit.int .i32 vHigh).wf = true := by
  obtain ⟨hl, hf⟩ := trod_field_z Try.underlying23 h hz
  rw [show Try.prog.cellsOf 23 = 4 from by kernel_rfl] at hl
  obtain ⟨c0, c1, c2, c3, rfl⟩ := list4 hl
  obtain ⟨n0, y0, h0, z0⟩ := hf 0 _ rfl
  replace h0 : DataW.trod enc Try.prog w base spare held n0 21 (([c0, c1, c2, c3] : List Value).drop 0 |>.take (Try.prog.cellsOf 21)) = some y0 := h0
  rw [show Try.prog.cellsOf 21 = 1 from by kernel_rfl] at h0
  replace h0 : DataW.trod enc Try.prog w base spare held n0 21 [c0] = some y0 := h0
  obtain ⟨n1, y1, h1, z1⟩ := hf 1 _ rfl
  replace h1 : DataW.trod enc Try.prog w base spare held n1 3 (([c0, c1, c2, c3] : List Value).drop 1 |>.take (Try.prog.cellsOf 3)) = some y1 := h1
  rw [show Try.prog.cellsOf 3 = 1 from by kernel_rfl] at h1
  replace h1 : DataW.trod enc Try.prog w base spare held n1 3 [c1] = some y1 := h1
  obtain ⟨n2, y2, h2, z2⟩ := hf 2 _ rfl
  replace h2 : DataW.trod enc Try.prog w base spare held n2 21 (([c0, c1, c2, c3] : List Value).drop 2 |>.take (Try.prog.cellsOf 21)) = some y2 := h2
  rw [show Try.prog.cellsOf 21 = 1 from by kernel_rfl] at h2
  replace h2 : DataW.trod enc Try.prog w base spare held n2 21 [c2] = some y2 := h2
  obtain ⟨n3, y3, h3, z3⟩ := hf 3 _ rfl
  replace h3 : DataW.trod enc Try.prog w base spare held n3 21 (([c0, c1, c2, c3] : List Value).drop 3 |>.take (Try.prog.cellsOf 21)) = some y3 := h3
  rw [show Try.prog.cellsOf 21 = 1 from by kernel_rfl] at h3
  replace h3 : DataW.trod enc Try.prog w base spare held n3 21 [c3] = some y3 := h3
  obtain ⟨x0, e0, _, f0_0⟩ := DataW.trod_int Try.underlying21 h0
  simp only [List.cons.injEq, and_true] at e0
  obtain rfl := e0
  obtain ⟨x1, e1, _, f1_0⟩ := DataW.trod_int Try.underlying3 h1
  simp only [List.cons.injEq, and_true] at e1
  obtain rfl := e1
  obtain ⟨x2, e2, _, f2_0⟩ := DataW.trod_int Try.underlying21 h2
  simp only [List.cons.injEq, and_true] at e2
  obtain rfl := e2
  obtain ⟨x3, e3, _, f3_0⟩ := DataW.trod_int Try.underlying21 h3
  simp only [List.cons.injEq, and_true] at e3
  obtain rfl := e3
  exact ⟨x0, x1, x2, x3, rfl, f0_0, f1_0, f2_0, f3_0⟩

theorem open25 {H : Type} {enc : TypeId × Value → H} {w : World} {base : Nat} {spare : Nat → Bool} {held : Bool} {fuel : Nat} {cs : List Value} {x : DataW H × List MemPlace} (h : DataW.trod enc Try.prog w base spare held fuel 25 cs = some x) (hz : Light Try.prog 25 x.1) :
    ∃ vPos : Int, ∃ vVel : Int, cs = [.int .i32 vPos, .int .i32 vVel] ∧ (Lit.int .i32 vPos).wf = true ∧ (Lit.int .i32 vVel).wf = true := by
  obtain ⟨hl, hf⟩ := trod_field_z Try.underlying25 h hz
  rw [show Try.prog.cellsOf 25 = 2 from by kernel_rfl] at hl
  obtain ⟨c0, c1, rfl⟩ := list2 hl
  obtain ⟨n0, y0, h0, z0⟩ := hf 0 _ rfl
  replace h0 : DataW.trod enc Try.prog w base spare held n0 21 (([c0, c1] : List Value).drop 0 |>.take (Try.prog.cellsOf 21)) = some y0 := h0
  rw [show Try.prog.cellsOf 21 = 1 from by kernel_rfl] at h0
  replace h0 : DataW.trod enc Try.prog w base spare held n0 21 [c0] = some y0 := h0
  obtain ⟨n1, y1, h1, z1⟩ := hf 1 _ rfl
  replace h1 : DataW.trod enc Try.prog w base spare held n1 21 (([c0, c1] : List Value).drop 1 |>.take (Try.prog.cellsOf 21)) = some y1 := h1
  rw [show Try.prog.cellsOf 21 = 1 from by kernel_rfl] at h1
  replace h1 : DataW.trod enc Try.prog w base spare held n1 21 [c1] = some y1 := h1
  obtain ⟨x0, e0, _, f0_0⟩ := DataW.trod_int Try.underlying21 h0
  simp only [List.cons.injEq, and_true] at e0
  obtain rfl := e0
  obtain ⟨x1, e1, _, f1_0⟩ := DataW.trod_int Try.underlying21 h1
  simp only [List.cons.injEq, and_true] at e1
  obtain rfl := e1
  exact ⟨x0, x1, rfl, f0_0, f1_0⟩

theorem open27 {H : Type} {enc : TypeId × Value → H} {w : World} {base : Nat} {spare : Nat → Bool} {held : Bool} {fuel : Nat} {cs : List Value} {x : DataW H × List MemPlace} (h : DataW.trod enc Try.prog w base spare held fuel 27 cs = some x) (hz : Light Try.prog 27 x.1) :
    ∃ vP : Int, ∃ vI : Int, ∃ vD : Int, ∃ vLow : Int, ∃ vHigh : Int, cs = [.int .i32 vP, .int .i32 vI, .int .i32 vD, .int .i32 vLow, .int .i32 vHigh] ∧ (Lit.int .i32 vP).wf = true ∧ (Lit.int .i32 vI).wf = true ∧ (Lit.int .i32 vD).wf = true ∧ (Lit.int .i32 vLow).wf = true ∧ (Lit.int .i32 vHigh).wf = true := by
  obtain ⟨hl, hf⟩ := trod_field_z Try.underlying27 h hz
  rw [show Try.prog.cellsOf 27 = 5 from by kernel_rfl] at hl
  obtain ⟨c0, c1, c2, c3, c4, rfl⟩ := list5 hl
  obtain ⟨n0, y0, h0, z0⟩ := hf 0 _ rfl
  replace h0 : DataW.trod enc Try.prog w base spare held n0 21 (([c0, c1, c2, c3, c4] : List Value).drop 0 |>.take (Try.prog.cellsOf 21)) = some y0 := h0
  rw [show Try.prog.cellsOf 21 = 1 from by kernel_rfl] at h0
  replace h0 : DataW.trod enc Try.prog w base spare held n0 21 [c0] = some y0 := h0
  obtain ⟨n1, y1, h1, z1⟩ := hf 1 _ rfl
  replace h1 : DataW.trod enc Try.prog w base spare held n1 21 (([c0, c1, c2, c3, c4] : List Value).drop 1 |>.take (Try.prog.cellsOf 21)) = some y1 := h1
  rw [show Try.prog.cellsOf 21 = 1 from by kernel_rfl] at h1
  replace h1 : DataW.trod enc Try.prog w base spare held n1 21 [c1] = some y1 := h1
  obtain ⟨n2, y2, h2, z2⟩ := hf 2 _ rfl
  replace h2 : DataW.trod enc Try.prog w base spare held n2 21 (([c0, c1, c2, c3, c4] : List Value).drop 2 |>.take (Try.prog.cellsOf 21)) = some y2 := h2
  rw [show Try.prog.cellsOf 21 = 1 from by kernel_rfl] at h2
  replace h2 : DataW.trod enc Try.prog w base spare held n2 21 [c2] = some y2 := h2
  obtain ⟨n3, y3, h3, z3⟩ := hf 3 _ rfl
  replace h3 : DataW.trod enc Try.prog w base spare held n3 21 (([c0, c1, c2, c3, c4] : List Value).drop 3 |>.take (Try.prog.cellsOf 21)) = some y3 := h3
  rw [show Try.prog.cellsOf 21 = 1 from by kernel_rfl] at h3
  replace h3 : DataW.trod enc Try.prog w base spare held n3 21 [c3] = some y3 := h3
  obtain ⟨n4, y4, h4, z4⟩ := hf 4 _ rfl
  replace h4 : DataW.trod enc Try.prog w base spare held n4 21 (([c0, c1, c2, c3, c4] : List Value).drop 4 |>.take (Try.prog.cellsOf 21)) = some y4 := h4
  rw [show Try.prog.cellsOf 21 = 1 from by kernel_rfl] at h4
  replace h4 : DataW.trod enc Try.prog w base spare held n4 21 [c4] = some y4 := h4
  obtain ⟨x0, e0, _, f0_0⟩ := DataW.trod_int Try.underlying21 h0
  simp only [List.cons.injEq, and_true] at e0
  obtain rfl := e0
  obtain ⟨x1, e1, _, f1_0⟩ := DataW.trod_int Try.underlying21 h1
  simp only [List.cons.injEq, and_true] at e1
  obtain rfl := e1
  obtain ⟨x2, e2, _, f2_0⟩ := DataW.trod_int Try.underlying21 h2
  simp only [List.cons.injEq, and_true] at e2
  obtain rfl := e2
  obtain ⟨x3, e3, _, f3_0⟩ := DataW.trod_int Try.underlying21 h3
  simp only [List.cons.injEq, and_true] at e3
  obtain rfl := e3
  obtain ⟨x4, e4, _, f4_0⟩ := DataW.trod_int Try.underlying21 h4
  simp only [List.cons.injEq, and_true] at e4
  obtain rfl := e4
  exact ⟨x0, x1, x2, x3, x4, rfl, f0_0, f1_0, f2_0, f3_0, f4_0⟩

theorem open29 {H : Type} {enc : TypeId × Value → H} {w : World} {base : Nat} {spare : Nat → Bool} {held : Bool} {fuel : Nat} {cs : List Value} {x : DataW H × List MemPlace} (h : DataW.trod enc Try.prog w base spare held fuel 29 cs = some x) (hz : Light Try.prog 29 x.1) :
    ∃ vRate : Int, ∃ vSoft : Int, ∃ vGainP : Int, ∃ vGainI : Int, ∃ vGainD : Int, ∃ vGainLow : Int, ∃ vGainHigh : Int, cs = [.int .i32 vRate, .int .i64 vSoft, .int .i32 vGainP, .int .i32 vGainI, .int .i32 vGainD, .int .i32 vGainLow, .int .i32 vGainHigh] ∧ (Lit.int .i32 vRate).wf = true ∧ (Lit.int .i64 vSoft).wf = true ∧ (Lit.int .i32 vGainP).wf = true ∧ (Lit.int .i32 vGainI).wf = true ∧ (Lit.int .i32 vGainD).wf = true ∧ (Lit.int .i32 vGainLow).wf = true ∧ (Lit.int .i32 vGainHigh).wf = true := by
  obtain ⟨hl, hf⟩ := trod_field_z Try.underlying29 h hz
  rw [show Try.prog.cellsOf 29 = 7 from by kernel_rfl] at hl
  obtain ⟨c0, c1, c2, c3, c4, c5, c6, rfl⟩ := list7 hl
  obtain ⟨n0, y0, h0, z0⟩ := hf 0 _ rfl
  replace h0 : DataW.trod enc Try.prog w base spare held n0 21 (([c0, c1, c2, c3, c4, c5, c6] : List Value).drop 0 |>.take (Try.prog.cellsOf 21)) = some y0 := h0
  rw [show Try.prog.cellsOf 21 = 1 from by kernel_rfl] at h0
  replace h0 : DataW.trod enc Try.prog w base spare held n0 21 [c0] = some y0 := h0
  obtain ⟨n1, y1, h1, z1⟩ := hf 1 _ rfl
  replace h1 : DataW.trod enc Try.prog w base spare held n1 3 (([c0, c1, c2, c3, c4, c5, c6] : List Value).drop 1 |>.take (Try.prog.cellsOf 3)) = some y1 := h1
  rw [show Try.prog.cellsOf 3 = 1 from by kernel_rfl] at h1
  replace h1 : DataW.trod enc Try.prog w base spare held n1 3 [c1] = some y1 := h1
  obtain ⟨n2, y2, h2, z2⟩ := hf 2 _ rfl
  replace h2 : DataW.trod enc Try.prog w base spare held n2 27 (([c0, c1, c2, c3, c4, c5, c6] : List Value).drop 2 |>.take (Try.prog.cellsOf 27)) = some y2 := h2
  rw [show Try.prog.cellsOf 27 = 5 from by kernel_rfl] at h2
  replace h2 : DataW.trod enc Try.prog w base spare held n2 27 [c2, c3, c4, c5, c6] = some y2 := h2
  obtain ⟨x0, e0, _, f0_0⟩ := DataW.trod_int Try.underlying21 h0
  simp only [List.cons.injEq, and_true] at e0
  obtain rfl := e0
  obtain ⟨x1, e1, _, f1_0⟩ := DataW.trod_int Try.underlying3 h1
  simp only [List.cons.injEq, and_true] at e1
  obtain rfl := e1
  obtain ⟨x2P, x2I, x2D, x2Low, x2High, e2, f2_0, f2_1, f2_2, f2_3, f2_4⟩ := open27 h2 z2
  simp only [List.cons.injEq, and_true] at e2
  obtain ⟨rfl, rfl, rfl, rfl, rfl⟩ := e2
  exact ⟨x0, x1, x2P, x2I, x2D, x2Low, x2High, rfl, f0_0, f1_0, f2_0, f2_1, f2_2, f2_3, f2_4⟩

theorem open31 {H : Type} {enc : TypeId × Value → H} {w : World} {base : Nat} {spare : Nat → Bool} {held : Bool} {fuel : Nat} {cs : List Value} {x : DataW H × List MemPlace} (h : DataW.trod enc Try.prog w base spare held fuel 31 cs = some x) (hz : Light Try.prog 31 x.1) :
    ∃ vBodyGain : Int, ∃ vBodyDrag : Int, ∃ vBodyLow : Int, ∃ vBodyHigh : Int, ∃ vRamPos : Int, ∃ vRamVel : Int, ∃ vServoRate : Int, ∃ vServoSoft : Int, ∃ vServoGainP : Int, ∃ vServoGainI : Int, ∃ vServoGainD : Int, ∃ vServoGainLow : Int, ∃ vServoGainHigh : Int, ∃ vOil : Int, ∃ vLoad : Int, ∃ vStuck : Bool, cs = [.int .i32 vBodyGain, .int .i64 vBodyDrag, .int .i32 vBodyLow, .int .i32 vBodyHigh, .int .i32 vRamPos, .int .i32 vRamVel, .int .i32 vServoRate, .int .i64 vServoSoft, .int .i32 vServoGainP, .int .i32 vServoGainI, .int .i32 vServoGainD, .int .i32 vServoGainLow, .int .i32 vServoGainHigh, .int .i32 vOil, .int .i32 vLoad, .bool vStuck] ∧ (Lit.int .i32 vBodyGain).wf = true ∧ (Lit.int .i64 vBodyDrag).wf = true ∧ (Lit.int .i32 vBodyLow).wf = true ∧ (Lit.int .i32 vBodyHigh).wf = true ∧ (Lit.int .i32 vRamPos).wf = true ∧ (Lit.int .i32 vRamVel).wf = true ∧ (Lit.int .i32 vServoRate).wf = true ∧ (Lit.int .i64 vServoSoft).wf = true ∧ (Lit.int .i32 vServoGainP).wf = true ∧ (Lit.int .i32 vServoGainI).wf = true ∧ (Lit.int .i32 vServoGainD).wf = true ∧ (Lit.int .i32 vServoGainLow).wf = true ∧ (Lit.int .i32 vServoGainHigh).wf = true ∧ (Lit.int .i32 vOil).wf = true ∧ (Lit.int .i32 vLoad).wf = true := by
  obtain ⟨hl, hf⟩ := trod_field_z Try.underlying31 h hz
  rw [show Try.prog.cellsOf 31 = 16 from by kernel_rfl] at hl
  obtain ⟨c0, c1, c2, c3, c4, c5, c6, c7, c8, c9, c10, c11, c12, c13, c14, c15, rfl⟩ := list16 hl
  obtain ⟨n0, y0, h0, z0⟩ := hf 0 _ rfl
  replace h0 : DataW.trod enc Try.prog w base spare held n0 23 (([c0, c1, c2, c3, c4, c5, c6, c7, c8, c9, c10, c11, c12, c13, c14, c15] : List Value).drop 0 |>.take (Try.prog.cellsOf 23)) = some y0 := h0
  rw [show Try.prog.cellsOf 23 = 4 from by kernel_rfl] at h0
  replace h0 : DataW.trod enc Try.prog w base spare held n0 23 [c0, c1, c2, c3] = some y0 := h0
  obtain ⟨n1, y1, h1, z1⟩ := hf 1 _ rfl
  replace h1 : DataW.trod enc Try.prog w base spare held n1 25 (([c0, c1, c2, c3, c4, c5, c6, c7, c8, c9, c10, c11, c12, c13, c14, c15] : List Value).drop 4 |>.take (Try.prog.cellsOf 25)) = some y1 := h1
  rw [show Try.prog.cellsOf 25 = 2 from by kernel_rfl] at h1
  replace h1 : DataW.trod enc Try.prog w base spare held n1 25 [c4, c5] = some y1 := h1
  obtain ⟨n2, y2, h2, z2⟩ := hf 2 _ rfl
  replace h2 : DataW.trod enc Try.prog w base spare held n2 29 (([c0, c1, c2, c3, c4, c5, c6, c7, c8, c9, c10, c11, c12, c13, c14, c15] : List Value).drop 6 |>.take (Try.prog.cellsOf 29)) = some y2 := h2
  rw [show Try.prog.cellsOf 29 = 7 from by kernel_rfl] at h2
  replace h2 : DataW.trod enc Try.prog w base spare held n2 29 [c6, c7, c8, c9, c10, c11, c12] = some y2 := h2
  obtain ⟨n3, y3, h3, z3⟩ := hf 3 _ rfl
  replace h3 : DataW.trod enc Try.prog w base spare held n3 21 (([c0, c1, c2, c3, c4, c5, c6, c7, c8, c9, c10, c11, c12, c13, c14, c15] : List Value).drop 13 |>.take (Try.prog.cellsOf 21)) = some y3 := h3
  rw [show Try.prog.cellsOf 21 = 1 from by kernel_rfl] at h3
  replace h3 : DataW.trod enc Try.prog w base spare held n3 21 [c13] = some y3 := h3
  obtain ⟨n4, y4, h4, z4⟩ := hf 4 _ rfl
  replace h4 : DataW.trod enc Try.prog w base spare held n4 21 (([c0, c1, c2, c3, c4, c5, c6, c7, c8, c9, c10, c11, c12, c13, c14, c15] : List Value).drop 14 |>.take (Try.prog.cellsOf 21)) = some y4 := h4
  rw [show Try.prog.cellsOf 21 = 1 from by kernel_rfl] at h4
  replace h4 : DataW.trod enc Try.prog w base spare held n4 21 [c14] = some y4 := h4
  obtain ⟨n5, y5, h5, z5⟩ := hf 5 _ rfl
  replace h5 : DataW.trod enc Try.prog w base spare held n5 4 (([c0, c1, c2, c3, c4, c5, c6, c7, c8, c9, c10, c11, c12, c13, c14, c15] : List Value).drop 15 |>.take (Try.prog.cellsOf 4)) = some y5 := h5
  rw [show Try.prog.cellsOf 4 = 1 from by kernel_rfl] at h5
  replace h5 : DataW.trod enc Try.prog w base spare held n5 4 [c15] = some y5 := h5
  obtain ⟨x0Gain, x0Drag, x0Low, x0High, e0, f0_0, f0_1, f0_2, f0_3⟩ := open23 h0 z0
  simp only [List.cons.injEq, and_true] at e0
  obtain ⟨rfl, rfl, rfl, rfl⟩ := e0
  obtain ⟨x1Pos, x1Vel, e1, f1_0, f1_1⟩ := open25 h1 z1
  simp only [List.cons.injEq, and_true] at e1
  obtain ⟨rfl, rfl⟩ := e1
  obtain ⟨x2Rate, x2Soft, x2GainP, x2GainI, x2GainD, x2GainLow, x2GainHigh, e2, f2_0, f2_1, f2_2, f2_3, f2_4, f2_5, f2_6⟩ := open29 h2 z2
  simp only [List.cons.injEq, and_true] at e2
  obtain ⟨rfl, rfl, rfl, rfl, rfl, rfl, rfl⟩ := e2
  obtain ⟨x3, e3, _, f3_0⟩ := DataW.trod_int Try.underlying21 h3
  simp only [List.cons.injEq, and_true] at e3
  obtain rfl := e3
  obtain ⟨x4, e4, _, f4_0⟩ := DataW.trod_int Try.underlying21 h4
  simp only [List.cons.injEq, and_true] at e4
  obtain rfl := e4
  obtain ⟨x5, e5, _⟩ := DataW.trod_bool Try.underlying4 h5
  simp only [List.cons.injEq, and_true] at e5
  obtain rfl := e5
  exact ⟨x0Gain, x0Drag, x0Low, x0High, x1Pos, x1Vel, x2Rate, x2Soft, x2GainP, x2GainI, x2GainD, x2GainLow, x2GainHigh, x3, x4, x5, rfl, f0_0, f0_1, f0_2, f0_3, f1_0, f1_1, f2_0, f2_1, f2_2, f2_3, f2_4, f2_5, f2_6, f3_0, f4_0⟩


set_option maxHeartbeats 8000000 in
set_option maxRecDepth 100000 in
theorem walk_core (x : Tri) (p v : Int) (la : Option Addr) (ln lc : Nat) (l : Nat → Pt) (w : World) (hr : RowP w la ln l) (hn : (ln : Int) ≤ 140737488351232) (E0 T N P V E : Int)
    (CP : Hid (∀ W, RowP W la ln l → Calls Try.prog 6 #[.slice la ln lc] W fun e w' => e = .returned (.int .i64 E0) ∧ Below W.heap.size W w'))
    (CT : Hid (∀ W, RowP W la ln l → Calls Try.prog 7 #[.slice la ln lc] W fun e w' => e = .returned (.tuple #[.int .i64 T, .int .i64 E0]) ∧ Below W.heap.size W w'))
    (C1 : Hid (∀ W, RowP W la ln l → Calls Try.prog 8 #[.agg #[.int .i32 x.g, .int .i64 x.n, .int .i32 x.lo, .int .i32 x.hi, .int .i32 p, .int .i32 v, .int .i32 x.r, .int .i64 x.m, .int .i32 x.P, .int .i32 x.I, .int .i32 x.D, .int .i32 x.a, .int .i32 x.b, .int .i32 x.o, .int .i32 x.l, .bool x.k], .slice la ln lc] W fun e w' => e = .returned (.tuple #[.int .i64 N, .agg #[.int .i32 P, .int .i32 V], .int .i64 E]) ∧ Below W.heap.size W w'))
    (C2 : Hid (∀ W, RowP W la ln l → Calls Try.prog 9 #[.agg #[.int .i32 x.g, .int .i64 x.n, .int .i32 x.lo, .int .i32 x.hi, .int .i32 p, .int .i32 v, .int .i32 x.r, .int .i64 x.m, .int .i32 x.P, .int .i32 x.I, .int .i32 x.D, .int .i32 x.a, .int .i32 x.b, .int .i32 x.o, .int .i32 x.l, .bool x.k], .slice la ln lc] W fun e w' => e = .returned (.tuple #[.int .i64 N, .agg #[.int .i32 P, .int .i32 V], .int .i64 E]) ∧ Below W.heap.size W w'))
    (CC : Hid (∀ W, RowP W la ln l → Calls Try.prog 10 #[.slice la ln lc] W fun e w' => e = .returned (.int .i64 E0) ∧ Below W.heap.size W w'))
    (HL : Hid ((E0 = 0 ∧ okPs l ln ∧ ln ≤ 16 ∧ T = tmP l ln) ∨ (E0 ≠ 0 ∧ T = 0))) :
    Calls Try.prog 3 #[.agg #[.int .i32 x.g, .int .i64 x.n, .int .i32 x.lo, .int .i32 x.hi, .int .i32 p, .int .i32 v, .int .i32 x.r, .int .i64 x.m, .int .i32 x.P, .int .i32 x.I, .int .i32 x.D, .int .i32 x.a, .int .i32 x.b, .int .i32 x.o, .int .i32 x.l, .bool x.k], .slice la ln lc] w fun e w' => e = .returned (.bool true) ∧ Below w.heap.size w w' := by
  have B0 : Hid (_) := (bxs_nil w).push #[.int .i32 x.g, .int .i64 x.n, .int .i32 x.lo, .int .i32 x.hi, .int .i32 p, .int .i32 v, .int .i32 x.r, .int .i64 x.m, .int .i32 x.P, .int .i32 x.I, .int .i32 x.D, .int .i32 x.a, .int .i32 x.b, .int .i32 x.o, .int .i32 x.l, .bool x.k] 31
  have HR : Hid (RowP w la ln l) := hr
  clear hr
  go_enter Try.func3, Try.ntmps3
  go_wp2_with fail
  refine (CP.out _ (HR.out.step B0.out.bel)).mono ?_
  rintro e w1 ⟨rfl, hb⟩
  have B1 : Hid (_) := B0.out.step hb
  clear hb B0 CP
  go_wp2_with fail
  refine (CT.out _ (HR.out.step B1.out.bel)).mono ?_
  rintro e w2 ⟨rfl, hb⟩
  have B2 : Hid (_) := B1.out.step hb
  clear hb B1 CT
  have tl := (B2.out.box 0 _ _ rfl).lt
  have t0 := (B2.out.box 0 _ _ rfl).cell 0 _ rfl
  have t1 := (B2.out.box 0 _ _ rfl).cell 1 _ rfl
  have t2 := (B2.out.box 0 _ _ rfl).cell 2 _ rfl
  have t3 := (B2.out.box 0 _ _ rfl).cell 3 _ rfl
  have t4 := (B2.out.box 0 _ _ rfl).cell 4 _ rfl
  have t5 := (B2.out.box 0 _ _ rfl).cell 5 _ rfl
  have t6 := (B2.out.box 0 _ _ rfl).cell 6 _ rfl
  have t7 := (B2.out.box 0 _ _ rfl).cell 7 _ rfl
  have t8 := (B2.out.box 0 _ _ rfl).cell 8 _ rfl
  have t9 := (B2.out.box 0 _ _ rfl).cell 9 _ rfl
  have t10 := (B2.out.box 0 _ _ rfl).cell 10 _ rfl
  have t11 := (B2.out.box 0 _ _ rfl).cell 11 _ rfl
  have t12 := (B2.out.box 0 _ _ rfl).cell 12 _ rfl
  have t13 := (B2.out.box 0 _ _ rfl).cell 13 _ rfl
  have t14 := (B2.out.box 0 _ _ rfl).cell 14 _ rfl
  have t15 := (B2.out.box 0 _ _ rfl).cell 15 _ rfl
  go_wp2_with fail
  refine (C1.out _ (HR.out.step B2.out.bel)).mono ?_
  rintro e w3 ⟨rfl, hb⟩
  have B3 : Hid (_) := B2.out.step hb
  clear hb B2 C1
  clear tl t0 t1 t2 t3 t4 t5 t6 t7 t8 t9 t10 t11 t12 t13 t14 t15
  have tl := (B3.out.box 0 _ _ rfl).lt
  have t0 := (B3.out.box 0 _ _ rfl).cell 0 _ rfl
  have t1 := (B3.out.box 0 _ _ rfl).cell 1 _ rfl
  have t2 := (B3.out.box 0 _ _ rfl).cell 2 _ rfl
  have t3 := (B3.out.box 0 _ _ rfl).cell 3 _ rfl
  have t4 := (B3.out.box 0 _ _ rfl).cell 4 _ rfl
  have t5 := (B3.out.box 0 _ _ rfl).cell 5 _ rfl
  have t6 := (B3.out.box 0 _ _ rfl).cell 6 _ rfl
  have t7 := (B3.out.box 0 _ _ rfl).cell 7 _ rfl
  have t8 := (B3.out.box 0 _ _ rfl).cell 8 _ rfl
  have t9 := (B3.out.box 0 _ _ rfl).cell 9 _ rfl
  have t10 := (B3.out.box 0 _ _ rfl).cell 10 _ rfl
  have t11 := (B3.out.box 0 _ _ rfl).cell 11 _ rfl
  have t12 := (B3.out.box 0 _ _ rfl).cell 12 _ rfl
  have t13 := (B3.out.box 0 _ _ rfl).cell 13 _ rfl
  have t14 := (B3.out.box 0 _ _ rfl).cell 14 _ rfl
  have t15 := (B3.out.box 0 _ _ rfl).cell 15 _ rfl
  go_wp2_with fail
  obtain ⟨M, w4, hw4, hM, B4', lM⟩ := B3.out.new #[.int .i32 P, .int .i32 V] 25
  rw [hw4, hM]
  have B4 : Hid (_) := B4'
  clear B4' hw4 hM B3 lM
  clear tl t0 t1 t2 t3 t4 t5 t6 t7 t8 t9 t10 t11 t12 t13 t14 t15
  refine (C2.out _ (HR.out.step B4.out.bel)).mono ?_
  rintro e w5 ⟨rfl, hb⟩
  have B5 : Hid (_) := B4.out.step hb
  clear hb B4 C2
  go_wp2_with fail
  obtain ⟨D, w6, hw6, hD, B6', lD⟩ := B5.out.new #[.int .i32 P, .int .i32 V] 25
  rw [hw6, hD]
  have B6 : Hid (_) := B6'
  clear B6' hw6 hD B5 lD
  refine (CC.out _ (HR.out.step B6.out.bel)).mono ?_
  rintro e w7 ⟨rfl, hb⟩
  have B7 : Hid (_) := B6.out.step hb
  clear hb B6 CC
  have rl := (B7.out.box 1 _ _ rfl).lt
  have r0 := (B7.out.box 1 _ _ rfl).cell 0 _ rfl
  have r1 := (B7.out.box 1 _ _ rfl).cell 1 _ rfl
  have sl := (B7.out.box 2 _ _ rfl).lt
  have s0 := (B7.out.box 2 _ _ rfl).cell 0 _ rfl
  have s1 := (B7.out.box 2 _ _ rfl).cell 1 _ rfl
  go_wp2_with fail
  clear rl r0 r1
  clear sl s0 s1
  have BB : Hid (Below w.heap.size w w7) := B7.out.bel
  clear B7
  rcases HL.out with ⟨rfl, h2, h3, rfl⟩ | ⟨h1, rfl⟩
  · have HO : Hid (okPs l ln) := h2
    clear h2 HL
    go_loopg [14, 59] (ln + 1) (fun g s5 s wr => ∃ q : Nat, s = .int .i64 q ∧ s5 = .int .i64 (tmP l q) ∧ ln - q < g ∧ q ≤ ln ∧ Hid (Below w.heap.size w wr))
    case atStart => exact ⟨0, rfl, rfl, by omega, by omega, BB⟩
    case round =>
      clear BB
      obtain ⟨q, rfl, rfl, hg, hq, hB⟩ := hrel
      by_cases hlt : q < ln
      · have y1 : (q : Int) < (ln : Int) := by omega
        have HQ : Hid (RowP wr la ln l) := HR.out.step hB.out
        obtain ⟨b, o, rfl, hb, hc⟩ := HQ.out (by omega)
        obtain ⟨x0, x1, x2⟩ := hc q hlt
        have B2 : Hid (Below w.heap.size w (wr.alloc (.cells #[.int .i32 (l q).w, .int .i64 (l q).f, .int .i32 (l q).d] 40))) := hB.out.alloc hB.out.size _
        have z3 : (q : Int) < 16 := by omega
        have T : Hid (wrap64 (tmP l q + (l q).f) = tmP l (q + 1)) := by
          show wrap64 (tmP l q + (l q).f) = tmP l (q + 1)
          obtain ⟨t1, t2⟩ := tmP_bd HO.out (show q + 1 ≤ ln by omega)
          have e : tmP l q + (l q).f = tmP l (q + 1) := rfl
          rw [e]
          exact IntWalk.wrap64_in _ (by omega)
        clear hc
        go_wp2_with fail
        go_roundg (ln - (q + 1) + 1)
        case measure => omega
        case rel => exact ⟨q + 1, by go_num, by rw [T.out], by omega, by omega, B2⟩
      · have y1 : ¬ (q : Int) < (ln : Int) := by omega
        obtain rfl : q = ln := by omega
        go_wp2_with fail
        go_ret
        exact ⟨rfl, hB.out⟩
  · have q0 : (E0 == 0) = false := by simpa using h1
    clear h1 HL
    go_loopg [14, 59] (ln + 1) (fun g s5 s wr => ∃ q : Nat, s = .int .i64 q ∧ s5 = .int .i64 0 ∧ ln - q < g ∧ q ≤ ln ∧ Hid (Below w.heap.size w wr))
    case atStart => exact ⟨0, rfl, rfl, by omega, by omega, BB⟩
    case round =>
      clear BB
      obtain ⟨q, rfl, rfl, hg, hq, hB⟩ := hrel
      by_cases hlt : q < ln
      · have y1 : (q : Int) < (ln : Int) := by omega
        have HQ : Hid (RowP wr la ln l) := HR.out.step hB.out
        obtain ⟨b, o, rfl, hb, hc⟩ := HQ.out (by omega)
        obtain ⟨x0, x1, x2⟩ := hc q hlt
        have B2 : Hid (Below w.heap.size w (wr.alloc (.cells #[.int .i32 (l q).w, .int .i64 (l q).f, .int .i32 (l q).d] 40))) := hB.out.alloc hB.out.size _
        clear hc
        go_wp2_with fail
        go_roundg (ln - (q + 1) + 1)
        case measure => omega
        case rel => exact ⟨q + 1, by go_num, rfl, by omega, by omega, B2⟩
      · have y1 : ¬ (q : Int) < (ln : Int) := by omega
        obtain rfl : q = ln := by omega
        go_wp2_with fail
        go_ret
        exact ⟨rfl, hB.out⟩

theorem walk_any (x : Tri) (p v : Int) (la : Option Addr) (ln lc : Nat) (l : Nat → Pt) (w : World) (hl : RowJ w la ln lc l) (hT : TI x) (hp : I32 p) :
    Calls Try.prog 3 #[.agg #[.int .i32 x.g, .int .i64 x.n, .int .i32 x.lo, .int .i32 x.hi, .int .i32 p, .int .i32 v, .int .i32 x.r, .int .i64 x.m, .int .i32 x.P, .int .i32 x.I, .int .i32 x.D, .int .i32 x.a, .int .i32 x.b, .int .i32 x.o, .int .i32 x.l, .bool x.k], .slice la ln lc] w fun e w' => e = .returned (.bool true) ∧ Below w.heap.size w w' := by
  have hwf := hl.wf
  obtain ⟨N, P, V, C1, C2⟩ := both_any x p v la ln lc l hT hp (fun j => ⟨i32_of (hwf j).1, i32_of (hwf j).2.2⟩)
  have hs := hl.small
  by_cases h : chP l ln = 0
  · refine walk_core x p v la ln lc l w hl.row (by omega) 0 (tmP l ln) N P V (tsE x p l ln) (fun W hW => ?_) (fun W hW => tmP_ok la ln lc l W hW h) C1 C2 (fun W hW => ?_) (Or.inl ⟨rfl, (chP_zero h).2.2, (chP_zero h).2.1, rfl⟩)
    · have := rckP_any la ln lc l W hW
      rw [h] at this
      exact this
    · have := ckP_any la ln lc l W hW
      rw [h] at this
      exact this
  · exact walk_core x p v la ln lc l w hl.row (by omega) (chP l ln) 0 N P V (tsE x p l ln) (fun W hW => rckP_any la ln lc l W hW) (fun W hW => tmP_bad la ln lc l W hW _ rfl h) C1 C2 (fun W hW => ckP_any la ln lc l W hW) (Or.inr ⟨h, rfl⟩)

theorem walk (tBodyGain : Int) (tBodyDrag : Int) (tBodyLow : Int) (tBodyHigh : Int) (tRamPos : Int) (tRamVel : Int) (tServoRate : Int) (tServoSoft : Int) (tServoGainP : Int) (tServoGainI : Int) (tServoGainD : Int) (tServoGainLow : Int) (tServoGainHigh : Int) (tOil : Int) (tLoad : Int) (tStuck : Bool) (la : Option Addr) (ln lc : Nat) (l : Nat → Pt) (w : World) (h_tBodyGain : (Lit.int .i32 tBodyGain).wf = true) (h_tBodyDrag : (Lit.int .i64 tBodyDrag).wf = true) (h_tBodyLow : (Lit.int .i32 tBodyLow).wf = true) (h_tBodyHigh : (Lit.int .i32 tBodyHigh).wf = true) (h_tRamPos : (Lit.int .i32 tRamPos).wf = true) (h_tRamVel : (Lit.int .i32 tRamVel).wf = true) (h_tServoRate : (Lit.int .i32 tServoRate).wf = true) (h_tServoSoft : (Lit.int .i64 tServoSoft).wf = true) (h_tServoGainP : (Lit.int .i32 tServoGainP).wf = true) (h_tServoGainI : (Lit.int .i32 tServoGainI).wf = true) (h_tServoGainD : (Lit.int .i32 tServoGainD).wf = true) (h_tServoGainLow : (Lit.int .i32 tServoGainLow).wf = true) (h_tServoGainHigh : (Lit.int .i32 tServoGainHigh).wf = true) (h_tOil : (Lit.int .i32 tOil).wf = true) (h_tLoad : (Lit.int .i32 tLoad).wf = true) (h_l : RowJ w la ln lc l) :
    Calls Try.prog 3 #[.agg #[.int .i32 tBodyGain, .int .i64 tBodyDrag, .int .i32 tBodyLow, .int .i32 tBodyHigh, .int .i32 tRamPos, .int .i32 tRamVel, .int .i32 tServoRate, .int .i64 tServoSoft, .int .i32 tServoGainP, .int .i32 tServoGainI, .int .i32 tServoGainD, .int .i32 tServoGainLow, .int .i32 tServoGainHigh, .int .i32 tOil, .int .i32 tLoad, .bool tStuck], .slice la ln lc] w fun e w' => e = .returned (.bool true) ∧ Below w.heap.size w w' :=
  walk_any ⟨tBodyGain, tBodyDrag, tBodyLow, tBodyHigh, tServoRate, tServoSoft, tServoGainP, tServoGainI, tServoGainD, tServoGainLow, tServoGainHigh, tOil, tLoad, tStuck⟩ tRamPos tRamVel la ln lc l w h_l ⟨i32_of h_tBodyGain, i32_of h_tBodyLow, i32_of h_tBodyHigh, i32_of h_tServoRate, ⟨i32_of h_tServoGainP, i32_of h_tServoGainI, i32_of h_tServoGainD, i32_of h_tServoGainLow, i32_of h_tServoGainHigh⟩, i32_of h_tOil, i32_of h_tLoad⟩ (i32_of h_tRamPos)

/-! ### THE ROW's STEP -/
set_option maxRecDepth 100000 in
theorem lifted (os : Os) (started : os.Started) (H : Type) (enc : TypeId × Value → H) :
    ReturnsInHanded {} Try.checked os 3 .any (Rows.strokeSaysSpec.pre6 enc Try.prog Try.f3 Rows.strokeSaysRow.domain false) (Rows.strokeSaysSpec.post enc Try.prog Try.f3 false true false false) := by
  refine returnsInHanded_of_change_sized (C := Try.checked) own started (by kernel_rfl) Try.func3
    (ChangeSpec.witness6 (enc := enc) (C := Try.checked) false ⟨#[], #[.agg #[.int .i32 0, .int .i64 0, .int .i32 0, .int .i32 0, .int .i32 0, .int .i32 0, .int .i32 0, .int .i64 0, .int .i32 0, .int .i32 0, .int .i32 0, .int .i32 0, .int .i32 0, .int .i32 0, .int .i32 0, .bool false], .slice none 0 0], []⟩ 8 (by kernel_rfl) (by kernel_rfl) (by kernel_rfl) (by kernel_rfl)) ?_
  intro W base args ds gs before hval0 hW hcnd hsz0 _
  have hval : ∀ (j : Nat) t v, Try.f3.params[j]? = some t → args[j]? = some v → Value.okWide Try.prog W .any base t v := hval0
  have hW' := hW
  obtain ⟨p, q, hA0, hV, rfl, hfz, hnd⟩ := hW
  have hA : DataW.TrodAll enc Try.prog W 0 (fun _ => true) true Try.f3.params.toList args.toList ds p := hA0
  rw [Try.params3] at hA hval
  obtain ⟨v_0, vs_0, d_0, ds_0, p_0, q_0, hargs, rfl, rfl, h_0, r_0⟩ := trodAll_cons hA
  obtain ⟨v_1, vs_1, d_1, ds_1, p_1, q_1, rfl, rfl, rfl, h_1, r_1⟩ := trodAll_cons r_0
  obtain ⟨rfl, rfl, rfl⟩ := trodAll_nil r_1
  obtain rfl : args = #[v_0, v_1] := by cases args; simp_all
  obtain ⟨rfl, rfl⟩ := trodVars_none hV
  have hz_0 : Light Try.prog 31 d_0 := light_of hsz0 (j := 0) (by first | rfl | (rw [Try.params3]; rfl)) rfl
  have k_0 := h_0
  have lt_0 : ∀ x ∈ p_0, x.block < W.heap.size := by obtain ⟨m, hm⟩ := k_0; exact DataW.trod_lt m _ _ _ hm
  obtain ⟨cs_0, rfl, _⟩ := okWide_struct Try.underlying31 (hval 0 31 v_0 rfl rfl)
  obtain ⟨tBodyGain, tBodyDrag, tBodyLow, tBodyHigh, tRamPos, tRamVel, tServoRate, tServoSoft, tServoGainP, tServoGainI, tServoGainD, tServoGainLow, tServoGainHigh, tOil, tLoad, tStuck, e_0, h_tBodyGain, h_tBodyDrag, h_tBodyLow, h_tBodyHigh, h_tRamPos, h_tRamVel, h_tServoRate, h_tServoSoft, h_tServoGainP, h_tServoGainI, h_tServoGainD, h_tServoGainLow, h_tServoGainHigh, h_tOil, h_tLoad⟩ := (by obtain ⟨fuel, hf⟩ := h_0; exact open31 hf hz_0 : ∃ tBodyGain : Int, ∃ tBodyDrag : Int, ∃ tBodyLow : Int, ∃ tBodyHigh : Int, ∃ tRamPos : Int, ∃ tRamVel : Int, ∃ tServoRate : Int, ∃ tServoSoft : Int, ∃ tServoGainP : Int, ∃ tServoGainI : Int, ∃ tServoGainD : Int, ∃ tServoGainLow : Int, ∃ tServoGainHigh : Int, ∃ tOil : Int, ∃ tLoad : Int, ∃ tStuck : Bool, cs_0.toList = [.int .i32 tBodyGain, .int .i64 tBodyDrag, .int .i32 tBodyLow, .int .i32 tBodyHigh, .int .i32 tRamPos, .int .i32 tRamVel, .int .i32 tServoRate, .int .i64 tServoSoft, .int .i32 tServoGainP, .int .i32 tServoGainI, .int .i32 tServoGainD, .int .i32 tServoGainLow, .int .i32 tServoGainHigh, .int .i32 tOil, .int .i32 tLoad, .bool tStuck] ∧ (Lit.int .i32 tBodyGain).wf = true ∧ (Lit.int .i64 tBodyDrag).wf = true ∧ (Lit.int .i32 tBodyLow).wf = true ∧ (Lit.int .i32 tBodyHigh).wf = true ∧ (Lit.int .i32 tRamPos).wf = true ∧ (Lit.int .i32 tRamVel).wf = true ∧ (Lit.int .i32 tServoRate).wf = true ∧ (Lit.int .i64 tServoSoft).wf = true ∧ (Lit.int .i32 tServoGainP).wf = true ∧ (Lit.int .i32 tServoGainI).wf = true ∧ (Lit.int .i32 tServoGainD).wf = true ∧ (Lit.int .i32 tServoGainLow).wf = true ∧ (Lit.int .i32 tServoGainHigh).wf = true ∧ (Lit.int .i32 tOil).wf = true ∧ (Lit.int .i32 tLoad).wf = true)
  obtain rfl : cs_0 = #[.int .i32 tBodyGain, .int .i64 tBodyDrag, .int .i32 tBodyLow, .int .i32 tBodyHigh, .int .i32 tRamPos, .int .i32 tRamVel, .int .i32 tServoRate, .int .i64 tServoSoft, .int .i32 tServoGainP, .int .i32 tServoGainI, .int .i32 tServoGainD, .int .i32 tServoGainLow, .int .i32 tServoGainHigh, .int .i32 tOil, .int .i32 tLoad, .bool tStuck] := by cases cs_0; simp_all
  clear e_0
  have hz_1 : Light Try.prog 32 d_1 := light_of hsz0 (j := 1) (by first | rfl | (rw [Try.params3]; rfl)) rfl
  have k_1 := h_1
  have lt_1 : ∀ x ∈ p_1, x.block < W.heap.size := by obtain ⟨m, hm⟩ := k_1; exact DataW.trod_lt m _ _ _ hm
  obtain ⟨la, ln, lc, rfl⟩ := okWide_slice Try.underlying32 (hval 1 32 v_1 rfl rfl)
  obtain ⟨l, h_l⟩ : ∃ l, RowJ W la ln lc l := by
    obtain ⟨fuel, hf⟩ := h_1
    obtain ⟨a, m, c, l, hcs, hr⟩ := rowJ_of hf hz_1
    simp [Value.cells] at hcs
    obtain ⟨rfl, rfl, rfl⟩ := hcs
    exact ⟨l, hr⟩
  clear hA0 hval0
  refine (walk tBodyGain tBodyDrag tBodyLow tBodyHigh tRamPos tRamVel tServoRate tServoSoft tServoGainP tServoGainI tServoGainD tServoGainLow tServoGainHigh tOil tLoad tStuck la ln lc l W h_tBodyGain h_tBodyDrag h_tBodyLow h_tBodyHigh h_tRamPos h_tRamVel h_tServoRate h_tServoSoft h_tServoGainP h_tServoGainI h_tServoGainD h_tServoGainLow h_tServoGainHigh h_tOil h_tLoad h_l).mono fun e W' ⟨he, bel⟩ => ?_
  subst he
  exact ⟨_, rfl, _, _, _, [], _, [], hW', trodAll_mk1 (shut_bool Try.underlying4 _), (trodAll_cons_mk (Below.trod laidOut (by kernel_rfl) (of_decide_eq_true (by kernel_rfl)) k_0 bel lt_0) (trodAll_cons_mk (Below.trod laidOut (by kernel_rfl) (of_decide_eq_true (by kernel_rfl)) k_1 bel lt_1) trodAll_mk0)), rfl, bel.frame _, fun h => by cases h⟩

theorem over : Rows.strokeSaysRow.holds Try.pinned (OpenSpec.ofChange Rows.strokeSaysSpec) :=
  OpenClaim.holds_of_wide 3 Try.f3 rfl rfl rfl rfl rfl rfl rfl ⟨rfl, rfl, rfl, rfl, rfl⟩ rfl rfl rfl rfl rfl (by kernel_rfl) Try.func3 (by kernel_rfl)
    (of_decide_eq_true (by kernel_rfl)) (by unfold Func.isWrapper; first | (rw [if_pos (by decide +kernel)]; kernel_rfl) | (rw [if_neg (by decide +kernel)]; exact ⟨rfl, rfl⟩))
    (fun os started H enc _ => lifted os started H enc)


end Go.Proofs.Ytihcioghbidblaa.strokeSays
namespace Go.Proofs.Ytihcioghbidblaa
/-- THE STATEMENT -/
theorem strokeSays_holds : Rows.StrokeSaysSaid := strokeSays.over
#print axioms strokeSays_holds
end Go.Proofs.Ytihcioghbidblaa
