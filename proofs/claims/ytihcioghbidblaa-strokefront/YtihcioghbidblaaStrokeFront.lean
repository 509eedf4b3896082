/-
  Whatever is handed in, the law StrokeFront returns true: points that follow make no difference to those ahead; the time is that of all points. No condition.
-/
import Derived.Test.YtihcioghbidblaaStkAll
import Derived.Test.YtihcioghbidblaaPtsCat
import Derived.Test.YtihcioghbidblaaOpenP
import Derived.ProofKit
namespace Go.Proofs.Ytihcioghbidblaa.strokeFront
open Go.ChangeShapes Go.WideShapes Go.ChangeAt Go.RowKit
set_option linter.unusedVariables false

theorem own : ownKnob Try.prog.godebug = none := by kernel_rfl
theorem laidOut : laidOutB Try.prog = true := by kernel_rfl

theorem list2 {l : List Value} (h : l.length = 2) : ∃ c0 c1, l = [c0, c1] := by
  match l, h with
  | [c0, c1], _ => exact ⟨c0, c1, rfl⟩

theorem list4 {l : List Value} (h : l.length = 4) : ∃ c0 c1 c2 c3, l = [c0, c1, c2, c3] := by
  match l, h with
  | [c0, c1, c2, c3], _ => exact ⟨c0, c1, c2, c3, rfl⟩

theorem list5 {l : List Value} (h : l.length = 5) : ∃ c0 c1 c2 c3 c4, l = [c0, c1, c2, c3, c4] := by
  match l, h with
  | [c0, c1, c2, c3, c4], _ => exact ⟨c0, c1, c2, c3, c4, rfl⟩

theorem list7 {l : List Value} (h : l.length = 7) : ∃ c0 c1 c2 c3 c4 c5 c6, l = [c0, c1, c2, c3, c4, c5, c6] := by
  match l, h with
  | [c0, c1, c2, c3, c4, c5, c6], _ => exact ⟨c0, c1, c2, c3, c4, c5, c6, rfl⟩

theorem list16 {l : List Value} (h : l.length = 16) : ∃ c0 c1 c2 c3 c4 c5 c6 c7 c8 c9 c10 c11 c12 c13 c14 c15, l = [c0, c1, c2, c3, c4, c5, c6, c7, c8, c9, c10, c11, c12, c13, c14, c15] := by
  match l, h with
  | [c0, c1, c2, c3, c4, c5, c6, c7, c8, c9, c10, c11, c12, c13, c14, c15], _ => exact ⟨c0, c1, c2, c3, c4, c5, c6, c7, c8, c9, c10, c11, c12, c13, c14, c15, rfl⟩

theorem open23 {H : Type} {enc : TypeId × Value → H} {w : World} {base : Nat} {spare : Nat → Bool} {held : Bool} {fuel : Nat} {cs : List Value} {x : DataW H × List MemPlace} (h : DataW.trod enc Try.prog w base spare held fuel 23 cs = some x) (hz : Light Try.prog 23 x.1) :
    ∃ vGain : Int, ∃ vDrag : Int, ∃ vLow : Int, ∃ vHigh : Int, cs = [.int .i32 vGain, .int .i64 vDrag, .int .i32 vLow, .int .i32 vHigh] ∧ (Lit.int .i32 vGain).wf = true ∧ (Lit.int .i64 vDrag).wf = true ∧ (Lit.int .i32 vLow).wf = true ∧ (Lit.int .i32 vHigh).wf = true := by
  obtain ⟨hl, hf⟩ := trod_field_z Try.underlying23 h hz
  rw [show Try.prog.cellsOf 23 = 4 from by kernel_rfl] at hl
  obtain ⟨c0, c1, c2, c3, rfl⟩ := list4 hl
  obtain ⟨n0, y0, h0, z0⟩ := hf 0 _ rfl
  replace h0 : DataW.trod enc Try.prog w base spare held n0 21 (([c0, c1, c2, c3] : List Value).drop 0 |>.take (Try.prog.cellsOf 21)) = some y0 := h0
  rw [show Try.prog.cellsOf 21 = 1 from by kernel_rfl] at h0
  replace h0 : DataW.trod enc Try.prog w base spare held n0 21 [c0] = some y0 := h0
  obtain ⟨n1, y1, h1, z1⟩ := hf 1 _ rfl
  replace h1 : DataW.trod enc Try.prog w base spare held n1 3 (([c0, c1, c2, c3] : List Value).drop 1 |>.take (Try.prog.cellsOf 3)) = some y1 := h1
  rw [show Try.prog.cellsOf 3 = 1 from by kernel_rfl] at h1
  replace h1 : DataW.trod enc Try.prog w base spare held n1 3 [c1] = some y1 := h1
  obtain ⟨n2, y2, h2, z2⟩ := hf 2 _ rfl
  replace h2 : DataW.trod enc Try.prog w base spare held n2 21 (([c0, c1, c2, c3] : List Value).drop 2 |>.take (Try.prog.cellsOf 21)) = some y2 := h2
  rw [show Try.prog.cellsOf 21 = 1 from by kernel_rfl] at h2
  replace h2 : DataW.trod enc Try.prog w base spare held n2 21 [c2] = some y2 := h2
  obtain ⟨n3, y3, h3, z3⟩ := hf 3 _ rfl
  replace h3 : DataW.trod enc Try.prog w base spare held n3 21 (([c0, c1, c2, c3] : List Value).drop 3 |>.take (Try.prog.cellsOf 21)) = some y3 := h3
  rw [show Try.prog.cellsOf 21 = 1 from by kernel_rfl] at h3
  replace h3 : DataW.trod enc Try.prog w base spare held n3 21 [c3] = some y3 := h3
  obtain ⟨x0, e0, _, f0_0⟩ := DataW.trod_int Try.underlying21 h0
  simp only [List.cons.injEq, and_true] at e0
  obtain rfl := e0
  obtain ⟨x1, e1, _, f1_0⟩ := DataW.trod_int Try.underlying3 h1
  simp only [List.cons.injEq, and_true] at e1
  obtain rfl := e1
  obtain ⟨x2, e2, _, f2_0⟩ := DataW.trod_int Try.underlying21 h2
  simp only [List.cons.injEq, and_true] at e2
  obtain rfl := e2
  obtain ⟨x3, e3, _, f3_0⟩ := DataW.trod_int Try.underlying21 h3
  simp only [List.cons.injEq, and_true] at e3
  obtain rfl := e3
  exact ⟨x0, x1, x2, x3, rfl, f0_0, f1_0, f2_0, f3_0⟩

theorem open25 {H : Type} {enc : TypeId × Value → H} {w : World} {base : Nat} {spare : Nat → Bool} {held : Bool} {fuel : Nat} {cs : List Value} {x : DataW H × List MemPlace} (h : DataW.trod enc Try.prog w base spare held fuel 25 cs = some x) (hz : Light Try.prog 25 x.1) :
    ∃ vPos : Int, ∃ vVel : Int, cs = [.int .i32 vPos, .int .i32 vVel] ∧ (Lit.int .i32 vPos).wf = true ∧ (Lit.int .i32 vVel).wf = true := by
  obtain ⟨hl, hf⟩ := trod_field_z Try.underlying25 h hz
  rw [show Try.prog.cellsOf 25 = 2 from by kernel_rfl] at hl
  obtain ⟨c0, c1, rfl⟩ := list2 hl
  obtain ⟨n0, y0, h0, z0⟩ := hf 0 _ rfl
  replace h0 : DataW.trod enc Try.prog w base spare held n0 21 (([c0, c1] : List Value).drop 0 |>.take (Try.prog.cellsOf 21)) = some y0 := h0
  rw [show Try.prog.cellsOf 21 = 1 from by kernel_rfl] at h0
  replace h0 : DataW.trod enc Try.prog w base spare held n0 21 [c0] = some y0 := h0
  obtain ⟨n1, y1, h1, z1⟩ := hf 1 _ rfl
  replace h1 : DataW.trod enc Try.prog w base spare held n1 21 (([c0, c1] : List Value).drop 1 |>.take (Try.prog.cellsOf 21)) = some y1 := h1
  rw [show Try.prog.cellsOf 21 = 1 from by kernel_rfl] at h1
  replace h1 : DataW.trod enc Try.prog w base spare held n1 21 [c1] = some y1 := h1
  obtain ⟨x0, e0, _, f0_0⟩ := DataW.trod_int Try.underlying21 h0
  simp only [List.cons.injEq, and_true] at e0
  obtain rfl := e0
  obtain ⟨x1, e1, _, f1_0⟩ := DataW.trod_int Try.underlying21 h1
  simp only [List.cons.injEq, and_true] at e1
  obtain rfl := e1
  exact ⟨x0, x1, rfl, f0_0, f1_0⟩

theorem open27 {H : Type} {enc : TypeId × Value → H} {w : World} {base : Nat} {spare : Nat → Bool} {held : Bool} {fuel : Nat} {cs : List Value} {x : DataW H × List MemPlace} (h : DataW.trod enc Try.prog w base spare held fuel 27 cs = some x) (hz : Light Try.prog 27 x.1) :
    ∃ vP : Int, ∃ vI : Int, ∃ vD : Int, ∃ vLow : Int, ∃ vHigh : Int, cs = [.int .i32 vP, .int .i32 vI, .int .i32 vD, .int .i32 vLow, .int .i32 vHigh] ∧ (Lit.int .i32 vP).wf = true ∧ (Lit.int .i32 vI).wf = true ∧ (Lit.int .i32 vD).wf = true ∧ (Lit.int .i32 vLow).wf = true ∧ (Lit.int .i32 vHigh).wf = true := by
  obtain ⟨hl, hf⟩ := trod_field_z Try.underlying27 h hz
  rw [show Try.prog.cellsOf 27 = 5 from by kernel_rfl] at hl
  obtain ⟨c0, c1, c2, c3, c4, rfl⟩ := list5 hl
  obtain ⟨n0, y0, h0, z0⟩ := hf 0 _ rfl
  replace h0 : DataW.trod enc Try.prog w base spare held n0 21 (([c0, c1, c2, c3, c4] : List Value).drop 0 |>.take (Try.prog.cellsOf 21)) = some y0 := h0
  rw [show Try.prog.cellsOf 21 = 1 from by kernel_rfl] at h0
  replace h0 : DataW.trod enc Try.prog w base spare held n0 21 [c0] = some y0 := h0
  obtain ⟨n1, y1, h1, z1⟩ := hf 1 _ rfl
  replace h1 : DataW.trod enc Try.prog w base spare held n1 21 (([c0, c1, c2, c3, c4] : List Value).drop 1 |>.take (Try.prog.cellsOf 21)) = some y1 := h1
  rw [show Try.prog.cellsOf 21 = 1 from by kernel_rfl] at h1
  replace h1 : DataW.trod enc Try.prog w base spare held n1 21 [c1] = some y1 := h1
  obtain ⟨n2, y2, h2, z2⟩ := hf 2 _ rfl
  replace h2 : DataW.trod enc Try.prog w base spare held n2 21 (([c0, c1, c2, c3, c4] : List Value).drop 2 |>.take (Try.prog.cellsOf 21)) = some y2 := h2
  rw [show Try.prog.cellsOf 21 = 1 from by kernel_rfl] at h2
  replace h2 : DataW.trod enc Try.prog w base spare held n2 21 [c2] = some y2 := h2
  obtain ⟨n3, y3, h3, z3⟩ := hf 3 _ rfl
  replace h3 : DataW.trod enc Try.prog w base spare held n3 21 (([c0, c1, c2, c3, c4] : List Value).drop 3 |>.take (Try.prog.cellsOf 21)) = some y3 := h3
  rw [show Try.prog.cellsOf 21 = 1 from by kernel_rfl] at h3
  replace h3 : DataW.trod enc Try.prog w base spare held n3 21 [c3] = some y3 := h3
  obtain ⟨n4, y4, h4, z4⟩ := hf 4 _ rfl
  replace h4 : DataW.trod enc Try.prog w base spare held n4 21 (([c0, c1, c2, c3, c4] : List Value).drop 4 |>.take (Try.prog.cellsOf 21)) = some y4 := h4
  rw [show Try.prog.cellsOf 21 = 1 from by kernel_rfl] at h4
  replace h4 : DataW.trod enc Try.prog w base spare held n4 21 [c4] = some y4 := h4
  obtain ⟨x0, e0, _, f0_0⟩ := DataW.trod_int Try.underlying21 h0
  simp only [List.cons.injEq, and_true] at e0
  obtain rfl := e0
  obtain ⟨x1, e1, _, f1_0⟩ := DataW.trod_int Try.underlying21 h1
  simp only [List.cons.injEq, and_true] at e1
  obtain rfl := e1
  obtain ⟨x2, e2, _, f2_0⟩ := DataW.trod_int Try.underlying21 h2
  simp only [List.cons.injEq, and_true] at e2
  obtain rfl := e2
  obtain ⟨x3, e3, _, f3_0⟩ := DataW.trod_int Try.underlying21 h3
  simp only [List.cons.injEq, and_true] at e3
  obtain rfl := e3
  obtain ⟨x4, e4, _, f4_0⟩ := DataW.trod_int Try.underlying21 h4
  simp only [List.cons.injEq, and_true] at e4
  obtain rfl := e4
  exact ⟨x0, x1, x2, x3, x4, rfl, f0_0, f1_0, f2_0, f3_0, f4_0⟩

theorem open29 {H : Type} {enc : TypeId × Value → H} {w : World} {base : Nat} {spare : Nat → Bool} {held : Bool} {fuel : Nat} {cs : List Value} {x : DataW H × List MemPlace} (h : DataW.trod enc Try.prog w base spare held fuel 29 cs = some x) (hz : Light Try.prog 29 x.1) :
    ∃ vRate : Int, ∃ vSoft : Int, ∃ vGainP : Int, ∃ vGainI : Int, ∃ vGainD : Int, ∃ vGainLow : Int, ∃ vGainHigh : Int, cs = [.int .i32 vRate, .int .i64 vSoft, .int .i32 vGainP, .int .i32 vGainI, .int .i32 vGainD, .int .i32 vGainLow, .int .i32 vGainHigh] ∧ (Lit.int .i32 vRate).wf = true ∧ (Lit.int .i64 vSoft).wf = true ∧ (Lit.int .i32 vGainP).wf = true ∧ (Lit.int .i32 vGainI).wf = true ∧ (Lit.int .i32 vGainD).wf = true ∧ (Lit.int .i32 vGainLow).wf = true ∧ (Lit.int .i32 vGainHigh).wf = true := by
  obtain ⟨hl, hf⟩ := trod_field_z Try.underlying29 h hz
  rw [show Try.prog.cellsOf 29 = 7 from by kernel_rfl] at hl
  obtain ⟨c0, c1, c2, c3, c4, c5, c6, rfl⟩ := list7 hl
  obtain ⟨n0, y0, h0, z0⟩ := hf 0 _ rfl
  replace h0 : DataW.trod enc Try.prog w base spare held n0 21 (([c0, c1, c2, c3, c4, c5, c6] : List Value).drop 0 |>.take (Try.prog.cellsOf 21)) = some y0 := h0
  rw [show Try.prog.cellsOf 21 = 1 from by kernel_rfl] at h0
  replace h0 : DataW.trod enc Try.prog w base spare held n0 21 [c0] = some y0 := h0
  obtain ⟨n1, y1, h1, z1⟩ := hf 1 _ rfl
  replace h1 : DataW.trod enc Try.prog w base spare held n1 3 (([c0, c1, c2, c3, c4, c5, c6] : List Value).drop 1 |>.take (Try.prog.cellsOf 3)) = some y1 := h1
  rw [show Try.prog.cellsOf 3 = 1 from by kernel_rfl] at h1
  replace h1 : DataW.trod enc Try.prog w base spare held n1 3 [c1] = some y1 := h1
  obtain ⟨n2, y2, h2, z2⟩ := hf 2 _ rfl
  replace h2 : DataW.trod enc Try.prog w base spare held n2 27 (([c0, c1, c2, c3, c4, c5, c6] : List Value).drop 2 |>.take (Try.prog.cellsOf 27)) = some y2 := h2
  rw [show Try.prog.cellsOf 27 = 5 from by kernel_rfl] at h2
  replace h2 : DataW.trod enc Try.prog w base spare held n2 27 [c2, c3, c4, c5, c6] = some y2 := h2
  obtain ⟨x0, e0, _, f0_0⟩ := DataW.trod_int Try.underlying21 h0
  simp only [List.cons.injEq, and_true] at e0
  obtain rfl := e0
  obtain ⟨x1, e1, _, f1_0⟩ := DataW.trod_int Try.underlying3 h1
  simp only [List.cons.injEq, and_true] at e1
  obtain rfl := e1
  obtain ⟨x2P, x2I, x2D, x2Low, x2High, e2, f2_0, f2_1, f2_2, f2_3, f2_4⟩ := open27 h2 z2
  simp only [List.cons.injEq, and_true] at e2
  obtain ⟨rfl, rfl, rfl, rfl, rfl⟩ := e2
  exact ⟨x0, x1, x2P, x2I, x2D, x2Low, x2High, rfl, f0_0, f1_0, f2_0, f2_1, f2_2, f2_3, f2_4⟩

theorem open31 {H : Type} {enc : TypeId × Value → H} {w : World} {base : Nat} {spare : Nat → Bool} {held : Bool} {fuel : Nat} {cs : List Value} {x : DataW H × List MemPlace} (h : DataW.trod enc Try.prog w base spare held fuel 31 cs = some x) (hz : Light Try.prog 31 x.1) :
    ∃ vBodyGain : Int, ∃ vBodyDrag : Int, ∃ vBodyLow : Int, ∃ vBodyHigh : Int, ∃ vRamPos : Int, ∃ vRamVel : Int, ∃ vServoRate : Int, ∃ vServoSoft : Int, ∃ vServoGainP : Int, ∃ vServoGainI : Int, ∃ vServoGainD : Int, ∃ vServoGainLow : Int, ∃ vServoGainHigh : Int, ∃ vOil : Int, ∃ vLoad : Int, ∃ vStuck : Bool, cs = [.int .i32 vBodyGain, .int .i64 vBodyDrag, .int .i32 vBodyLow, .int .i32 vBodyHigh, .int .i32 vRamPos, .int .i32 vRamVel, .int .i32 vServoRate, .int .i64 vServoSoft, .int .i32 vServoGainP, .int .i32 vServoGainI, .int .i32 vServoGainD, .int .i32 vServoGainLow, .int .i32 vServoGainHigh, .int .i32 vOil, .int .i32 vLoad, .bool vStuck] ∧ (Lit.int .i32 vBodyGain).wf = true ∧ (Lit.int .i64 vBodyDrag).wf = true ∧ (Lit.int .i32 vBodyLow).wf = true ∧ (Lit.int .i32 vBodyHigh).wf = true ∧ (Lit.int .i32 vRamPos).wf = true ∧ (Lit.int .i32 vRamVel).wf = true ∧ (Lit.int .i32 vServoRate).wf = true ∧ (Lit.int .i64 vServoSoft).wf = true ∧ (Lit.int .i32 vServoGainP).wf = true ∧ (Lit.int .i32 vServoGainI).wf = true ∧ (Lit.int .i32 vServoGainD).wf = true ∧ (Lit.int .i32 vServoGainLow).wf = true ∧ (Lit.int .i32 vServoGainHigh).wf = true ∧ (Lit.int .i32 vOil).wf = true ∧ (Lit.int .i32 vLoad).wf = true := by
  obtain ⟨hl, hf⟩ := trod_field_z Try.underlying31 h hz
  rw [show Try.prog.cellsOf 31 = 16 from by kernel_rfl] at hl
  obtain ⟨c0, c1, c2, c3, c4, c5, c6, c7, c8, c9, c10, c11, c12, c13, c14, c15, rfl⟩ := list16 hl
  obtain ⟨n0, y0, h0, z0⟩ := hf 0 _ rfl
  replace h0 : DataW.trod enc Try.prog w base spare held n0 23 (([c0, c1, c2, c3, c4, c5, c6, c7, c8, c9, c10, c11, c12, c13, c14, c15] : List Value).drop 0 |>.take (Try.prog.cellsOf 23)) = some y0 := h0
  rw [show Try.prog.cellsOf 23 = 4 from by kernel_rfl] at h0
  replace h0 : DataW.trod enc Try.prog w base spare held n0 23 [c0, c1, c2, c3] = some y0 := h0
  obtain ⟨n1, y1, h1, z1⟩ := hf 1 _ rfl
  replace h1 : DataW.trod enc Try.prog w base spare held n1 25 (([c0, c1, c2, c3, c4, c5, c6, c7, c8, c9, c10, c11, c12, c13, c14, c15] : List Value).drop 4 |>.take (Try.prog.cellsOf 25)) = some y1 := h1
  rw [show Try.prog.cellsOf 25 = 2 from by kernel_rfl] at h1
  replace h1 : DataW.trod enc Try.prog w base spare held n1 25 [c4, c5] = some y1 := h1
  obtain ⟨n2, y2, h2, z2⟩ := hf 2 _ rfl
  replace h2 : DataW.trod enc Try.prog w base spare held n2 29 (([c0, c1, c2, c3, c4, c5, c6, c7, c8, c9, c10, c11, c12, c13, c14, c15] : List Value).drop 6 |>.take (Try.prog.cellsOf 29)) = some y2 := h2
  rw [show Try.prog.cellsOf 29 = 7 from by kernel_rfl] at h2
  replace h2 : DataW.trod enc Try.prog w base spare held n2 29 [c6, c7, c8, c9, c10, c11, c12] = some y2 := h2
  obtain ⟨n3, y3, h3, z3⟩ := hf 3 _ rfl
  replace h3 : DataW.trod enc Try.prog w base spare held n3 21 (([c0, c1, c2, c3, c4, c5, c6, c7, c8, c9, c10, c11, c12, c13, c14, c15] : List Value).drop 13 |>.take (Try.prog.cellsOf 21)) = some y3 := h3
  rw [show Try.prog.cellsOf 21 = 1 from by kernel_rfl] at h3
  replace h3 : DataW.trod enc Try.prog w base spare held n3 21 [c13] = some y3 := h3
  obtain ⟨n4, y4, h4, z4⟩ := hf 4 _ rfl
  replace h4 : DataW.trod enc Try.prog w base spare held n4 21 (([c0, c1, c2, c3, c4, c5, c6, c7, c8, c9, c10, c11, c12, c13, c14, c15] : List Value).drop 14 |>.take (Try.prog.cellsOf 21)) = some y4 := h4
  rw [show Try.prog.cellsOf 21 = 1 from by kernel_rfl] at h4
  replace h4 : DataW.trod enc Try.prog w base spare held n4 21 [c14] = some y4 := h4
  obtain ⟨n5, y5, h5, z5⟩ := hf 5 _ rfl
  replace h5 : DataW.trod enc Try.prog w base spare held n5 4 (([c0, c1, c2, c3, c4, c5, c6, c7, c8, c9, c10, c11, c12, c13, c14, c15] : List Value).drop 15 |>.take (Try.prog.cellsOf 4)) = some y5 := h5
  rw [show Try.prog.cellsOf 4 = 1 from by kernel_rfl] at h5
  replace h5 : DataW.trod enc Try.prog w base spare held n5 4 [c15] = some y5 := h5
  obtain ⟨x0Gain, x0Drag, x0Low, x0High, e0, f0_0, f0_1, f0_2, f0_3⟩ := open23 h0 z0
  simp only [List.cons.injEq, and_true] at e0
  obtain ⟨rfl, rfl, rfl, rfl⟩ := e0
  obtain ⟨x1Pos, x1Vel, e1, f1_0, f1_1⟩ := open25 h1 z1
  simp only [List.cons.injEq, and_true] at e1
  obtain ⟨rfl, rfl⟩ := e1
  obtain ⟨x2Rate, x2Soft, x2GainP, x2GainI, x2GainD, x2GainLow, x2GainHigh, e2, f2_0, f2_1, f2_2, f2_3, f2_4, f2_5, f2_6⟩ := open29 h2 z2
  simp only [List.cons.injEq, and_true] at e2
  obtain ⟨rfl, rfl, rfl, rfl, rfl, rfl, rfl⟩ := e2
  obtain ⟨x3, e3, _, f3_0⟩ := DataW.trod_int Try.underlying21 h3
  simp only [List.cons.injEq, and_true] at e3
  obtain rfl := e3
  obtain ⟨x4, e4, _, f4_0⟩ := DataW.trod_int Try.underlying21 h4
  simp only [List.cons.injEq, and_true] at e4
  obtain rfl := e4
  obtain ⟨x5, e5, _⟩ := DataW.trod_bool Try.underlying4 h5
  simp only [List.cons.injEq, and_true] at e5
  obtain rfl := e5
  exact ⟨x0Gain, x0Drag, x0Low, x0High, x1Pos, x1Vel, x2Rate, x2Soft, x2GainP, x2GainI, x2GainD, x2GainLow, x2GainHigh, x3, x4, x5, rfl, f0_0, f0_1, f0_2, f0_3, f1_0, f1_1, f2_0, f2_1, f2_2, f2_3, f2_4, f2_5, f2_6, f3_0, f4_0⟩


/-- the two points that the law begins with -/
def two : Nat → Pt := fun j => ⟨0, if j = 0 then 3 else 4, 0⟩
theorem two_ok : chP two 2 = 0 := chP_ok (by omega) (fun j hj => by
  unfold okP two
  by_cases h : j = 0
  · simp [h]
  · simp [h])
theorem two_sum : tmP two 2 = 7 := by decide

/-- of two rows one behind the other the first n are as they were -/
theorem cat_front {a b : Nat → Pt} {n j : Nat} (h : j < n) : catP a n b j = a j := by unfold catP; rw [if_pos h]
theorem pt_front {x : Tri} {z : Sta} {a b : Nat → Pt} {n j : Nat} (h : j ≤ n) : ptF x z (catP a n b) j = ptF x z a j := by
  induction j with
  | zero => rfl
  | succ j ih =>
    show rnF x (ptF x z (catP a n b) j) (catP a n b j).w (catP a n b j).f.toNat = rnF x (ptF x z a j) (a j).w (a j).f.toNat
    rw [ih (by omega), cat_front (by omega)]
theorem ms_front {x : Tri} {z : Sta} {a b : Nat → Pt} {n j : Nat} (h : j < n) : msF x z (catP a n b) j = msF x z a j := by
  show faP (ptF x z (catP a n b) (j + 1)).p (catP a n b j) = faP (ptF x z a (j + 1)).p (a j)
  rw [pt_front (by omega), cat_front h]
theorem fiB_more {F G : Nat → Bool} {n m : Nat} (h : ∀ j, j < n → F j = G j) : (fiB G n < n → fiB F (n + m) = fiB G n) ∧ (fiB G n = n → n ≤ fiB F (n + m)) := by
  induction m with
  | zero =>
    rw [Nat.add_zero, fiB_congr h]
    exact ⟨fun _ => rfl, fun h => by omega⟩
  | succ m ih =>
    have e : fiB F (n + (m + 1)) = (if fiB F (n + m) < n + m then fiB F (n + m) else if F (n + m) then n + m else n + m + 1) := rfl
    rw [e]
    refine ⟨fun k => ?_, fun k => ?_⟩
    · rw [ih.1 k, if_pos (by omega)]
    · have := ih.2 k
      repeat' split
      all_goals omega
theorem tm_front {a b : Nat → Pt} {n j : Nat} (h : j ≤ n) : tmP (catP a n b) j = tmP a j := by
  induction j with
  | zero => rfl
  | succ j ih =>
    show tmP (catP a n b) j + (catP a n b j).f = tmP a j + (a j).f
    rw [ih (by omega), cat_front (by omega)]
theorem tm_more {l : Nat → Pt} {n m : Nat} (h : okPs l (n + m)) : tmP l n ≤ tmP l (n + m) := by
  induction m with
  | zero => exact Int.le_refl _
  | succ m ih =>
    have := ih (fun j hj => h j (by omega))
    have h1 := (h (n + m) (by omega)).1
    show tmP l n ≤ tmP l (n + m) + (l (n + m)).f
    omega

set_option maxHeartbeats 8000000 in
set_option maxRecDepth 100000 in
theorem walk_core (x : Tri) (p v : Int) (aa : Option Addr) (an ac : Nat) (a : Nat → Pt) (ba : Option Addr) (bn bc : Nat) (b : Nat → Pt) (w : World) (ha : RowJ w aa an ac a) (hb : RowJ w ba bn bc b) (hT : TI x) (hp : I32 p) :
    Calls Try.prog 5 #[.agg #[.int .i32 x.g, .int .i64 x.n, .int .i32 x.lo, .int .i32 x.hi, .int .i32 p, .int .i32 v, .int .i32 x.r, .int .i64 x.m, .int .i32 x.P, .int .i32 x.I, .int .i32 x.D, .int .i32 x.a, .int .i32 x.b, .int .i32 x.o, .int .i32 x.l, .bool x.k], .slice aa an ac, .slice ba bn bc] w fun e w' => e = .returned (.bool true) ∧ Below w.heap.size w w' := by
  have B0 : Hid (_) := bxsII w #[.int .i32 x.g, .int .i64 x.n, .int .i32 x.lo, .int .i32 x.hi, .int .i32 p, .int .i32 v, .int .i32 x.r, .int .i64 x.m, .int .i32 x.P, .int .i32 x.I, .int .i32 x.D, .int .i32 x.a, .int .i32 x.b, .int .i32 x.o, .int .i32 x.l, .bool x.k] #[.int .i32 0, .int .i64 3, .int .i32 0, .int .i32 0, .int .i64 4, .int .i32 0] 31 40
  have HA : Hid (RowJ w aa an ac a) := ha
  have HB : Hid (RowJ w ba bn bc b) := hb
  have HT : Hid (TI x) := hT
  have HP : Hid (I32 p) := hp
  have C1 : Hid (∀ (B : Nat) W, Cells W B [.int .i32 0, .int .i64 3, .int .i32 0, .int .i32 0, .int .i64 4, .int .i32 0] → Calls Try.prog 7 #[.slice (some ⟨B, 0, none⟩) 2 2] W fun e w' => e = .returned (.tuple #[.int .i64 7, .int .i64 0]) ∧ Below W.heap.size W w') := fun B W hB => by
    have := tmP_ok (some ⟨B, 0, none⟩) 2 2 two W (fun _ => ⟨B, 0, rfl, hB.lt, fun j hj => by
      rcases (show j = 0 ∨ j = 1 by omega) with rfl | rfl
      · exact ⟨hB.cell 0 _ rfl, hB.cell 1 _ rfl, hB.cell 2 _ rfl⟩
      · exact ⟨hB.cell 3 _ rfl, hB.cell 4 _ rfl, hB.cell 5 _ rfl⟩⟩) two_ok
    rw [two_sum] at this
    exact this
  clear ha hb hT hp
  go_enter Try.func5, Try.ntmps5
  go_wp2_with fail
  refine (C1.out _ _ (B0.out.box 1 _ _ rfl)).mono ?_
  rintro e w1 ⟨rfl, hb⟩
  have B1 : Hid (_) := B0.out.step hb
  clear hb B0 C1
  go_wp2_with fail
  obtain ⟨D, w2, hw2, hD, B2', lD⟩ := B1.out.new #[.slice aa an ac, .slice ba bn bc] 32
  rw [hw2, hD]
  have B2 : Hid (_) := B2'
  clear B2' hw2 hD B1 lD
  have sl := (B2.out.box 2 _ _ rfl).lt
  have s0 := (B2.out.box 2 _ _ rfl).cell 0 _ rfl
  have s1 := (B2.out.box 2 _ _ rfl).cell 1 _ rfl
  have hz1 := HA.out.small
  have hz2 := HB.out.small
  refine (concatP_all D aa ba an bn ac bc a b w2 sl s0 s1 (by omega) (HA.out.row.step B2.out.bel) (HB.out.row.step B2.out.bel)).mono ?_
  rintro e w3 ⟨ca, cc, rfl, hr, hb⟩
  have B3 : Hid (_) := B2.out.step hb
  have R3 : Hid (RowP w3 ca (an + bn : Nat) (catP a an b)) := hr
  clear hb hr B2
  clear sl s0 s1
  have hwa := HA.out.wf
  have hwb := HB.out.wf
  obtain ⟨N1, P1, V1, k1, -, C2⟩ := test_all x p v ca (an + bn) cc (catP a an b) HT.out HP.out (fun j => by
    unfold catP
    split
    · exact ⟨i32_of (hwa j).1, i32_of (hwa j).2.2⟩
    · exact ⟨i32_of (hwb _).1, i32_of (hwb _).2.2⟩)
  obtain ⟨N2, P2, V2, k2, -, C3⟩ := test_all x p v aa an ac a HT.out HP.out (fun j => ⟨i32_of (hwa j).1, i32_of (hwa j).2.2⟩)
  have K1 : Hid (_) := k1
  have K2 : Hid (_) := k2
  clear hwa hwb k1 k2
  obtain ⟨E1, hE1⟩ : ∃ E, tsE x p (catP a an b) (an + bn) = E := ⟨_, rfl⟩
  obtain ⟨E2, hE2⟩ : ∃ E, tsE x p a an = E := ⟨_, rfl⟩
  have HE1 : Hid (tsE x p (catP a an b) (an + bn) = E1) := hE1
  have HE2 : Hid (tsE x p a an = E2) := hE2
  rw [hE1] at C2
  rw [hE2] at C3
  clear hE1 hE2
  have D2 : Hid (_) := C2
  have D3 : Hid (_) := C3
  clear C2 C3
  have tl := (B3.out.box 0 _ _ rfl).lt
  have t0 := (B3.out.box 0 _ _ rfl).cell 0 _ rfl
  have t1 := (B3.out.box 0 _ _ rfl).cell 1 _ rfl
  have t2 := (B3.out.box 0 _ _ rfl).cell 2 _ rfl
  have t3 := (B3.out.box 0 _ _ rfl).cell 3 _ rfl
  have t4 := (B3.out.box 0 _ _ rfl).cell 4 _ rfl
  have t5 := (B3.out.box 0 _ _ rfl).cell 5 _ rfl
  have t6 := (B3.out.box 0 _ _ rfl).cell 6 _ rfl
  have t7 := (B3.out.box 0 _ _ rfl).cell 7 _ rfl
  have t8 := (B3.out.box 0 _ _ rfl).cell 8 _ rfl
  have t9 := (B3.out.box 0 _ _ rfl).cell 9 _ rfl
  have t10 := (B3.out.box 0 _ _ rfl).cell 10 _ rfl
  have t11 := (B3.out.box 0 _ _ rfl).cell 11 _ rfl
  have t12 := (B3.out.box 0 _ _ rfl).cell 12 _ rfl
  have t13 := (B3.out.box 0 _ _ rfl).cell 13 _ rfl
  have t14 := (B3.out.box 0 _ _ rfl).cell 14 _ rfl
  have t15 := (B3.out.box 0 _ _ rfl).cell 15 _ rfl
  go_wp2_with fail
  refine (D2.out _ R3.out).mono ?_
  rintro e w4 ⟨rfl, hb⟩
  have B4 : Hid (_) := B3.out.step hb
  have R4 : Hid (RowP w4 ca (an + bn : Nat) (catP a an b)) := R3.out.step hb
  clear hb B3 R3 D2
  clear tl t0 t1 t2 t3 t4 t5 t6 t7 t8 t9 t10 t11 t12 t13 t14 t15
  have tl := (B4.out.box 0 _ _ rfl).lt
  have t0 := (B4.out.box 0 _ _ rfl).cell 0 _ rfl
  have t1 := (B4.out.box 0 _ _ rfl).cell 1 _ rfl
  have t2 := (B4.out.box 0 _ _ rfl).cell 2 _ rfl
  have t3 := (B4.out.box 0 _ _ rfl).cell 3 _ rfl
  have t4 := (B4.out.box 0 _ _ rfl).cell 4 _ rfl
  have t5 := (B4.out.box 0 _ _ rfl).cell 5 _ rfl
  have t6 := (B4.out.box 0 _ _ rfl).cell 6 _ rfl
  have t7 := (B4.out.box 0 _ _ rfl).cell 7 _ rfl
  have t8 := (B4.out.box 0 _ _ rfl).cell 8 _ rfl
  have t9 := (B4.out.box 0 _ _ rfl).cell 9 _ rfl
  have t10 := (B4.out.box 0 _ _ rfl).cell 10 _ rfl
  have t11 := (B4.out.box 0 _ _ rfl).cell 11 _ rfl
  have t12 := (B4.out.box 0 _ _ rfl).cell 12 _ rfl
  have t13 := (B4.out.box 0 _ _ rfl).cell 13 _ rfl
  have t14 := (B4.out.box 0 _ _ rfl).cell 14 _ rfl
  have t15 := (B4.out.box 0 _ _ rfl).cell 15 _ rfl
  go_wp2_with fail
  obtain ⟨M, w5, hw5, hM, B5', lM⟩ := B4.out.new #[.int .i32 P1, .int .i32 V1] 25
  have R5 : Hid (RowP w5 ca (an + bn : Nat) (catP a an b)) := by rw [← hw5]; exact R4.out.step ((Below.refl _ _).alloc (Nat.le_refl _) _)
  rw [hw5, hM]
  have B5 : Hid (_) := B5'
  clear B5' hw5 hM B4 lM R4
  clear tl t0 t1 t2 t3 t4 t5 t6 t7 t8 t9 t10 t11 t12 t13 t14 t15
  refine (D3.out _ (HA.out.row.step B5.out.bel)).mono ?_
  rintro e w6 ⟨rfl, hb⟩
  have B6 : Hid (_) := B5.out.step hb
  have R6 : Hid (RowP w6 ca (an + bn : Nat) (catP a an b)) := R5.out.step hb
  clear hb B5 R5 D3
  by_cases h1 : E1 = 0
  · by_cases h2 : E2 = 0
    · subst h1
      subst h2
      obtain ⟨hC1, -⟩ := tsE_zero HE1.out
      obtain ⟨hC2, -⟩ := tsE_zero HE2.out
      obtain ⟨rfl, -, -⟩ := K1.out HE1.out
      obtain ⟨rfl, -, -⟩ := K2.out HE2.out
      have hf := fiB_more (F := msF x (sta0 p v) (catP a an b)) (G := msF x (sta0 p v) a) (n := an) (m := bn) (fun j hj => ms_front hj)
      have hle := fiB_le (msF x (sta0 p v) a) an
      have T1 : Hid (∀ W, RowP W ca (an + bn : Nat) (catP a an b) → Calls Try.prog 7 #[.slice ca (an + bn : Nat) cc] W fun e w' => e = .returned (.tuple #[.int .i64 (tmP (catP a an b) (an + bn)), .int .i64 0]) ∧ Below W.heap.size W w') := fun W hW => tmP_ok ca (an + bn) cc (catP a an b) W hW hC1
      have T2 : Hid (∀ W, RowP W aa an a → Calls Try.prog 7 #[.slice aa an ac] W fun e w' => e = .returned (.tuple #[.int .i64 (tmP a an), .int .i64 0]) ∧ Below W.heap.size W w') := fun W hW => tmP_ok aa an ac a W hW hC2
      have ht : tmP a an ≤ tmP (catP a an b) (an + bn) := by
        have := tm_more (chP_zero hC1).2.2
        rw [tm_front (Nat.le_refl _)] at this
        exact this
      unfold tsN
      generalize fiB (msF x (sta0 p v) a) an = N2 at *
      generalize fiB (msF x (sta0 p v) (catP a an b)) (an + bn) = N1 at *
      generalize tmP a an = S2 at *
      generalize tmP (catP a an b) (an + bn) = S1 at *
      clear K1 K2 HE1 HE2 hC1 hC2
      have HF : Hid ((N2 < an → N1 = N2) ∧ (N2 = an → an ≤ N1)) := hf
      clear hf
      go_wp2_with fail
      obtain ⟨Q, w7, hw7, hQ, B7', lQ⟩ := B6.out.new #[.int .i32 P2, .int .i32 V2] 25
      have R7 : Hid (RowP w7 ca (an + bn : Nat) (catP a an b)) := by rw [← hw7]; exact R6.out.step ((Below.refl _ _).alloc (Nat.le_refl _) _)
      try rw [hw7]
      have B7 : Hid (_) := B7'
      clear B7' hw7 hQ B6 lQ R6
      refine (T1.out _ R7.out).mono ?_
      rintro e w8 ⟨rfl, hb⟩
      have B8 : Hid (_) := B7.out.step hb
      clear hb B7 R7 T1
      go_wp2_with fail
      refine (T2.out _ (HA.out.row.step B8.out.bel)).mono ?_
      rintro e w9 ⟨rfl, hb⟩
      have B9 : Hid (_) := B8.out.step hb
      clear hb B8 T2
      by_cases q : N2 < an
      · obtain rfl : N1 = N2 := HF.out.1 q
        have q1 : (N1 : Int) < (an : Int) := by omega
        go_wp2_with fail
        go_ret
        exact ⟨rfl, B9.out.bel⟩
      · obtain rfl : N2 = an := by omega
        have q1 : (N2 : Int) ≤ (N1 : Int) := by have := HF.out.2 rfl; omega
        go_wp2_with fail
        go_ret
        exact ⟨rfl, B9.out.bel⟩
    · subst h1
      have q : (E2 != 0) = true := by simpa using h2
      clear h2
      go_wp2_with fail
      go_ret
      exact ⟨rfl, (B6.out.alloc _).bel⟩
  · have q : (E1 != 0) = true := by simpa using h1
    clear h1
    go_wp2_with fail
    go_ret
    exact ⟨rfl, (B6.out.alloc _).bel⟩

theorem walk (tBodyGain : Int) (tBodyDrag : Int) (tBodyLow : Int) (tBodyHigh : Int) (tRamPos : Int) (tRamVel : Int) (tServoRate : Int) (tServoSoft : Int) (tServoGainP : Int) (tServoGainI : Int) (tServoGainD : Int) (tServoGainLow : Int) (tServoGainHigh : Int) (tOil : Int) (tLoad : Int) (tStuck : Bool) (aa : Option Addr) (an ac : Nat) (a : Nat → Pt) (ba : Option Addr) (bn bc : Nat) (b : Nat → Pt) (w : World) (h_tBodyGain : (Lit.int .i32 tBodyGain).wf = true) (h_tBodyDrag : (Lit.int .i64 tBodyDrag).wf = true) (h_tBodyLow : (Lit.int .i32 tBodyLow).wf = true) (h_tBodyHigh : (Lit.int .i32 tBodyHigh).wf = true) (h_tRamPos : (Lit.int .i32 tRamPos).wf = true) (h_tRamVel : (Lit.int .i32 tRamVel).wf = true) (h_tServoRate : (Lit.int .i32 tServoRate).wf = true) (h_tServoSoft : (Lit.int .i64 tServoSoft).wf = true) (h_tServoGainP : (Lit.int .i32 tServoGainP).wf = true) (h_tServoGainI : (Lit.int .i32 tServoGainI).wf = true) (h_tServoGainD : (Lit.int .i32 tServoGainD).wf = true) (h_tServoGainLow : (Lit.int .i32 tServoGainLow).wf = true) (h_tServoGainHigh : (Lit.int .i32 tServoGainHigh).wf = true) (h_tOil : (Lit.int .i32 tOil).wf = true) (h_tLoad : (Lit.int .i32 tLoad).wf = true) (h_a : RowJ w aa an ac a) (h_b : RowJ w ba bn bc b) :
    Calls Try.prog 5 #[.agg #[.int .i32 tBodyGain, .int .i64 tBodyDrag, .int .i32 tBodyLow, .int .i32 tBodyHigh, .int .i32 tRamPos, .int .i32 tRamVel, .int .i32 tServoRate, .int .i64 tServoSoft, .int .i32 tServoGainP, .int .i32 tServoGainI, .int .i32 tServoGainD, .int .i32 tServoGainLow, .int .i32 tServoGainHigh, .int .i32 tOil, .int .i32 tLoad, .bool tStuck], .slice aa an ac, .slice ba bn bc] w fun e w' => e = .returned (.bool true) ∧ Below w.heap.size w w' :=
  walk_core ⟨tBodyGain, tBodyDrag, tBodyLow, tBodyHigh, tServoRate, tServoSoft, tServoGainP, tServoGainI, tServoGainD, tServoGainLow, tServoGainHigh, tOil, tLoad, tStuck⟩ tRamPos tRamVel aa an ac a ba bn bc b w h_a h_b ⟨i32_of h_tBodyGain, i32_of h_tBodyLow, i32_of h_tBodyHigh, i32_of h_tServoRate, ⟨i32_of h_tServoGainP, i32_of h_tServoGainI, i32_of h_tServoGainD, i32_of h_tServoGainLow, i32_of h_tServoGainHigh⟩, i32_of h_tOil, i32_of h_tLoad⟩ (i32_of h_tRamPos)

/-! ### THE ROW's STEP -/
set_option maxRecDepth 100000 in
theorem lifted (os : Os) (started : os.Started) (H : Type) (enc : TypeId × Value → H) :
    ReturnsInHanded {} Try.checked os 5 .any (Rows.strokeFrontSpec.pre6 enc Try.prog Try.f5 Rows.strokeFrontRow.domain false) (Rows.strokeFrontSpec.post enc Try.prog Try.f5 false true false false) := by
  refine returnsInHanded_of_change_sized (C := Try.checked) own started (by kernel_rfl) Try.func5
    (ChangeSpec.witness6 (enc := enc) (C := Try.checked) false ⟨#[], #[.agg #[.int .i32 0, .int .i64 0, .int .i32 0, .int .i32 0, .int .i32 0, .int .i32 0, .int .i32 0, .int .i64 0, .int .i32 0, .int .i32 0, .int .i32 0, .int .i32 0, .int .i32 0, .int .i32 0, .int .i32 0, .bool false], .slice none 0 0, .slice none 0 0], []⟩ 8 (by kernel_rfl) (by kernel_rfl) (by kernel_rfl) (by kernel_rfl)) ?_
  intro W base args ds gs before hval0 hW hcnd hsz0 _
  have hval : ∀ (j : Nat) t v, Try.f5.params[j]? = some t → args[j]? = some v → Value.okWide Try.prog W .any base t v := hval0
  have hW' := hW
  obtain ⟨p, q, hA0, hV, rfl, hfz, hnd⟩ := hW
  have hA : DataW.TrodAll enc Try.prog W 0 (fun _ => true) true Try.f5.params.toList args.toList ds p := hA0
  rw [Try.params5] at hA hval
  obtain ⟨v_0, vs_0, d_0, ds_0, p_0, q_0, hargs, rfl, rfl, h_0, r_0⟩ := trodAll_cons hA
  obtain ⟨v_1, vs_1, d_1, ds_1, p_1, q_1, rfl, rfl, rfl, h_1, r_1⟩ := trodAll_cons r_0
  obtain ⟨v_2, vs_2, d_2, ds_2, p_2, q_2, rfl, rfl, rfl, h_2, r_2⟩ := trodAll_cons r_1
  obtain ⟨rfl, rfl, rfl⟩ := trodAll_nil r_2
  obtain rfl : args = #[v_0, v_1, v_2] := by cases args; simp_all
  obtain ⟨rfl, rfl⟩ := trodVars_none hV
  have hz_0 : Light Try.prog 31 d_0 := light_of hsz0 (j := 0) (by first | rfl | (rw [Try.params5]; rfl)) rfl
  have k_0 := h_0
  have lt_0 : ∀ x ∈ p_0, x.block < W.heap.size := by obtain ⟨m, hm⟩ := k_0; exact DataW.trod_lt m _ _ _ hm
  obtain ⟨cs_0, rfl, _⟩ := okWide_struct Try.underlying31 (hval 0 31 v_0 rfl rfl)
  obtain ⟨tBodyGain, tBodyDrag, tBodyLow, tBodyHigh, tRamPos, tRamVel, tServoRate, tServoSoft, tServoGainP, tServoGainI, tServoGainD, tServoGainLow, tServoGainHigh, tOil, tLoad, tStuck, e_0, h_tBodyGain, h_tBodyDrag, h_tBodyLow, h_tBodyHigh, h_tRamPos, h_tRamVel, h_tServoRate, h_tServoSoft, h_tServoGainP, h_tServoGainI, h_tServoGainD, h_tServoGainLow, h_tServoGainHigh, h_tOil, h_tLoad⟩ := (by obtain ⟨fuel, hf⟩ := h_0; exact open31 hf hz_0 : ∃ tBodyGain : Int, ∃ tBodyDrag : Int, ∃ tBodyLow : Int, ∃ tBodyHigh : Int, ∃ tRamPos : Int, ∃ tRamVel : Int, ∃ tServoRate : Int, ∃ tServoSoft : Int, ∃ tServoGainP : Int, ∃ tServoGainI : Int, ∃ tServoGainD : Int, ∃ tServoGainLow : Int, ∃ tServoGainHigh : Int, ∃ tOil : Int, ∃ tLoad : Int, ∃ tStuck : Bool, cs_0.toList = [.int .i32 tBodyGain, .int .i64 tBodyDrag, .int .i32 tBodyLow, .int .i32 tBodyHigh, .int .i32 tRamPos, .int .i32 tRamVel, .int .i32 tServoRate, .int .i64 tServoSoft, .int .i32 tServoGainP, .int .i32 tServoGainI, .int .i32 tServoGainD, .int .i32 tServoGainLow, .int .i32 tServoGainHigh, .int .i32 tOil, .int .i32 tLoad, .bool tStuck] ∧ (Lit.int .i32 tBodyGain).wf = true ∧ (Lit.int .i64 tBodyDrag).wf = true ∧ (Lit.int .i32 tBodyLow).wf = true ∧ (Lit.int .i32 tBodyHigh).wf = true ∧ (Lit.int .i32 tRamPos).wf = true ∧ (Lit.int .i32 tRamVel).wf = true ∧ (Lit.int .i32 tServoRate).wf = true ∧ (Lit.int .i64 tServoSoft).wf = true ∧ (Lit.int .i32 tServoGainP).wf = true ∧ (Lit.int .i32 tServoGainI).wf = true ∧ (Lit.int .i32 tServoGainD).wf = true ∧ (Lit.int .i32 tServoGainLow).wf = true ∧ (Lit.int .i32 tServoGainHigh).wf = true ∧ (Lit.int .i32 tOil).wf = true ∧ (Lit.int .i32 tLoad).wf = true)
  obtain rfl : cs_0 = #[.int .i32 tBodyGain, .int .i64 tBodyDrag, .int .i32 tBodyLow, .int .i32 tBodyHigh, .int .i32 tRamPos, .int .i32 tRamVel, .int .i32 tServoRate, .int .i64 tServoSoft, .int .i32 tServoGainP, .int .i32 tServoGainI, .int .i32 tServoGainD, .int .i32 tServoGainLow, .int .i32 tServoGainHigh, .int .i32 tOil, .int .i32 tLoad, .bool tStuck] := by cases cs_0; simp_all
  clear e_0
  have hz_1 : Light Try.prog 32 d_1 := light_of hsz0 (j := 1) (by first | rfl | (rw [Try.params5]; rfl)) rfl
  have k_1 := h_1
  have lt_1 : ∀ x ∈ p_1, x.block < W.heap.size := by obtain ⟨m, hm⟩ := k_1; exact DataW.trod_lt m _ _ _ hm
  obtain ⟨aa, an, ac, rfl⟩ := okWide_slice Try.underlying32 (hval 1 32 v_1 rfl rfl)
  obtain ⟨a, h_a⟩ : ∃ l, RowJ W aa an ac l := by
    obtain ⟨fuel, hf⟩ := h_1
    obtain ⟨a, m, c, l, hcs, hr⟩ := rowJ_of hf hz_1
    simp [Value.cells] at hcs
    obtain ⟨rfl, rfl, rfl⟩ := hcs
    exact ⟨l, hr⟩
  have hz_2 : Light Try.prog 32 d_2 := light_of hsz0 (j := 2) (by first | rfl | (rw [Try.params5]; rfl)) rfl
  have k_2 := h_2
  have lt_2 : ∀ x ∈ p_2, x.block < W.heap.size := by obtain ⟨m, hm⟩ := k_2; exact DataW.trod_lt m _ _ _ hm
  obtain ⟨ba, bn, bc, rfl⟩ := okWide_slice Try.underlying32 (hval 2 32 v_2 rfl rfl)
  obtain ⟨b, h_b⟩ : ∃ l, RowJ W ba bn bc l := by
    obtain ⟨fuel, hf⟩ := h_2
    obtain ⟨a, m, c, l, hcs, hr⟩ := rowJ_of hf hz_2
    simp [Value.cells] at hcs
    obtain ⟨rfl, rfl, rfl⟩ := hcs
    exact ⟨l, hr⟩
  clear hA0 hval0
  refine (walk tBodyGain tBodyDrag tBodyLow tBodyHigh tRamPos tRamVel tServoRate tServoSoft tServoGainP tServoGainI tServoGainD tServoGainLow tServoGainHigh tOil tLoad tStuck aa an ac a ba bn bc b W h_tBodyGain h_tBodyDrag h_tBodyLow h_tBodyHigh h_tRamPos h_tRamVel h_tServoRate h_tServoSoft h_tServoGainP h_tServoGainI h_tServoGainD h_tServoGainLow h_tServoGainHigh h_tOil h_tLoad h_a h_b).mono fun e W' ⟨he, bel⟩ => ?_
  subst he
  exact ⟨_, rfl, _, _, _, [], _, [], hW', trodAll_mk1 (shut_bool Try.underlying4 _), (trodAll_cons_mk (Below.trod laidOut (by kernel_rfl) (of_decide_eq_true (by kernel_rfl)) k_0 bel lt_0) (trodAll_cons_mk (Below.trod laidOut (by kernel_rfl) (of_decide_eq_true (by kernel_rfl)) k_1 bel lt_1) (trodAll_cons_mk (Below.trod laidOut (by kernel_rfl) (of_decide_eq_true (by kernel_rfl)) k_2 bel lt_2) trodAll_mk0))), rfl, bel.frame _, fun h => by cases h⟩

theorem over : Rows.strokeFrontRow.holds Try.pinned (OpenSpec.ofChange Rows.strokeFrontSpec) :=
  OpenClaim.holds_of_wide 5 Try.f5 rfl rfl rfl rfl rfl rfl rfl ⟨rfl, rfl, rfl, rfl, rfl⟩ rfl rfl rfl rfl rfl (by kernel_rfl) Try.func5 (by kernel_rfl)
    (of_decide_eq_true (by kernel_rfl)) (by unfold Func.isWrapper; first | (rw [if_pos (by decide +kernel)]; kernel_rfl) | (rw [if_neg (by decide +kernel)]; exact ⟨rfl, rfl⟩))
    (fun os started H enc _ => lifted os started H enc)


end Go.Proofs.Ytihcioghbidblaa.strokeFront
namespace Go.Proofs.Ytihcioghbidblaa
/-- THE STATEMENT -/
theorem strokeFront_holds : Rows.StrokeFrontSaid := strokeFront.over
#print axioms strokeFront_holds
end Go.Proofs.Ytihcioghbidblaa
