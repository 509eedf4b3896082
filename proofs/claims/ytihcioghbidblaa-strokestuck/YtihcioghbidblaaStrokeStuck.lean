/-
  Whatever is handed in, the law StrokeStuck returns true: a lane that is stuck stays where it is, if nothing loads it; so it passes just those points that lie near enough. No condition.
-/
import Derived.Test.YtihcioghbidblaaStkTst
import Derived.Test.YtihcioghbidblaaStkFun
import Derived.ProofKit
namespace Go.Proofs.Ytihcioghbidblaa.strokeStuck
open Go.ChangeShapes Go.WideShapes Go.ChangeAt Go.RowKit
set_option linter.unusedVariables false

theorem own : ownKnob Try.prog.godebug = none := by kernel_rfl
theorem laidOut : laidOutB Try.prog = true := by kernel_rfl

theorem list2 {l : List Value} (h : l.length = 2) : ∃ c0 c1, l = [c0, c1] := by
  match l, h with
  | [c0, c1], _ => exact ⟨c0, c1, rfl⟩

theorem list4 {l : List Value} (h : l.length = 4) : ∃ c0 c1 c2 c3, l = [c0, c1, c2, c3] := by
  match l, h with
  | [c0, c1, c2, c3], _ => exact ⟨c0, c1, c2, c3, rfl⟩

theorem list5 {l : List Value} (h : l.length = 5) : ∃ c0 c1 c2 c3 c4, l = [c0, c1, c2, c3, c4] := by
  match l, h with
  | [c0, c1, c2, c3, c4], _ => exact ⟨c0, c1, c2, c3, c4, rfl⟩

theorem list7 {l : List Value} (h : l.length = 7) : ∃ c0 c1 c2 c3 c4 c5 c6, l = [c0, c1, c2, c3, c4, c5, c6] := by
  match l, h with
  | [c0, c1, c2, c3, c4, c5, c6], _ => exact ⟨c0, c1, c2, c3, c4, c5, c6, rfl⟩

theorem list16 {l : List Value} (h : l.length = 16) : ∃ c0 c1 c2 c3 c4 c5 c6 c7 c8 c9 c10 c11 c12 c13 c14 c15, l = [c0, c1, c2, c3, c4, c5, c6, c7, c8, c9, c10, c11, c12, c13, c14, c15] := by
  match l, h with
  | [c0, c1, c2, c3, c4, c5, c6, c7, c8, c9, c10, c11, c12, c13, c14, c15], _ => exact ⟨c0, c1, c2, c3, c4, c5, c6, c7, c8, c9, c10, c11, c12, c13, c14, c15, rfl⟩

theorem open23 {H : Type} {enc : TypeId × Value → H} {w : World} {base : Nat} {spare : Nat → Bool} {held : Bool} {fuel : Nat} {cs : List Value} {x : DataW H × List MemPlace} (h : DataW.trod enc Try.prog w base spare held fuel 23 cs = some x) (hz : Light Try.prog 23 x.1) :
    ∃ vGain : Int, ∃ vDrag : Int, ∃ vLow : Int, ∃ vHigh : Int, cs = [.int .i32 vGain, .int .i64 vDrag, .int .i32 vLow, .int .i32 vHigh] ∧ (Lit.int .i32 vGain).wf = true ∧ (Lit.int .i64 vDrag).wf = true ∧ (Lit.int .i32 vLow).wf = true ∧ (Lit.int .i32 vHigh).wf = true := by
  obtain ⟨hl, hf⟩ := trod_field_z Try.underlying23 h hz
  rw [show Try.prog.cellsOf 23 = 4 from by kernel_rfl] at hl
  obtain ⟨c0, c1, c2, c3, rfl⟩ := list4 hl
  obtain ⟨n0, y0, h0, z0⟩ := hf 0 _ rfl
  replace h0 : DataW.trod enc Try.prog w base spare held n0 21 (([c0, c1, c2, c3] : List Value).drop 0 |>.take (Try.prog.cellsOf 21)) = some y0 := h0
  rw [show Try.prog.cellsOf 21 = 1 from by kernel_rfl] at h0
  replace h0 : DataW.trod enc Try.prog w base spare held n0 21 [c0] = some y0 := h0
  obtain ⟨n1, y1, h1, z1⟩ := hf 1 _ rfl
  replace h1 : DataW.trod enc Try.prog w base spare held n1 3 (([c0, c1, c2, c3] : List Value).drop 1 |>.take (Try.prog.cellsOf 3)) = some y1 := h1
  rw [show Try.prog.cellsOf 3 = 1 from by kernel_rfl] at h1
  replace h1 : DataW.trod enc Try.prog w base spare held n1 3 [c1] = some y1 := h1
  obtain ⟨n2, y2, h2, z2⟩ := hf 2 _ rfl
  replace h2 : DataW.trod enc Try.prog w base spare held n2 21 (([c0, c1, c2, c3] : List Value).drop 2 |>.take (Try.prog.cellsOf 21)) = some y2 := h2
  rw [show Try.prog.cellsOf 21 = 1 from by kernel_rfl] at h2
  replace h2 : DataW.trod enc Try.prog w base spare held n2 21 [c2] = some y2 := h2
  obtain ⟨n3, y3, h3, z3⟩ := hf 3 _ rfl
  replace h3 : DataW.trod enc Try.prog w base spare held n3 21 (([c0, c1, c2, c3] : List Value).drop 3 |>.take (Try.prog.cellsOf 21)) = some y3 := h3
  rw [show Try.prog.cellsOf 21 = 1 from by kernel_rfl] at h3
  replace h3 : DataW.trod enc Try.prog w base spare held n3 21 [c3] = some y3 := h3
  obtain ⟨x0, e0, _, f0_0⟩ := DataW.trod_int Try.underlying21 h0
  simp only [List.cons.injEq, and_true] at e0
  obtain rfl := e0
  obtain ⟨x1, e1, _, f1_0⟩ := DataW.trod_int Try.underlying3 h1
  simp only [List.cons.injEq, and_true] at e1
  obtain rfl := e1
  obtain ⟨x2, e2, _, f2_0⟩ := DataW.trod_int Try.underlying21 h2
  simp only [List.cons.injEq, and_true] at e2
  obtain rfl := e2
  obtain ⟨x3, e3, _, f3_0⟩ := DataW.trod_int Try.underlying21 h3
  simp only [List.cons.injEq, and_true] at e3
  obtain rfl := e3
  exact ⟨x0, x1, x2, x3, rfl, f0_0, f1_0, f2_0, f3_0⟩

theorem open25 {H : Type} {enc : TypeId × Value → H} {w : World} {base : Nat} {spare : Nat → Bool} {held : Bool} {fuel : Nat} {cs : List Value} {x : DataW H × List MemPlace} (h : DataW.trod enc Try.prog w base spare held fuel 25 cs = some x) (hz : Light Try.prog 25 x.1) :
    ∃ vPos : Int, ∃ vVel : Int, cs = [.int .i32 vPos, .int .i32 vVel] ∧ (Lit.int .i32 vPos).wf = true ∧ (Lit.int .i32 vVel).wf = true := by
  obtain ⟨hl, hf⟩ := trod_field_z Try.underlying25 h hz
  rw [show Try.prog.cellsOf 25 = 2 from by kernel_rfl] at hl
  obtain ⟨c0, c1, rfl⟩ := list2 hl
  obtain ⟨n0, y0, h0, z0⟩ := hf 0 _ rfl
  replace h0 : DataW.trod enc Try.prog w base spare held n0 21 (([c0, c1] : List Value).drop 0 |>.take (Try.prog.cellsOf 21)) = some y0 := h0
  rw [show Try.prog.cellsOf 21 = 1 from by kernel_rfl] at h0
  replace h0 : DataW.trod enc Try.prog w base spare held n0 21 [c0] = some y0 := h0
  obtain ⟨n1, y1, h1, z1⟩ := hf 1 _ rfl
  replace h1 : DataW.trod enc Try.prog w base spare held n1 21 (([c0, c1] : List Value).drop 1 |>.take (Try.prog.cellsOf 21)) = some y1 := h1
  rw [show Try.prog.cellsOf 21 = 1 from by kernel_rfl] at h1
  replace h1 : DataW.trod enc Try.prog w base spare held n1 21 [c1] = some y1 := h1
  obtain ⟨x0, e0, _, f0_0⟩ := DataW.trod_int Try.underlying21 h0
  simp only [List.cons.injEq, and_true] at e0
  obtain rfl := e0
  obtain ⟨x1, e1, _, f1_0⟩ := DataW.trod_int Try.underlying21 h1
  simp only [List.cons.injEq, and_true] at e1
  obtain rfl := e1
  exact ⟨x0, x1, rfl, f0_0, f1_0⟩

theorem open27 {H : Type} {enc : TypeId × Value → H} {w : World} {base : Nat} {spare : Nat → Bool} {held : Bool} {fuel : Nat} {cs : List Value} {x : DataW H × List MemPlace} (h : DataW.trod enc Try.prog w base spare held fuel 27 cs = some x) (hz : Light Try.prog 27 x.1) :
    ∃ vP : Int, ∃ vI : Int, ∃ vD : Int, ∃ vLow : Int, ∃ vHigh : Int, cs = [.int .i32 vP, .int .i32 vI, .int .i32 vD, .int .i32 vLow, .int .i32 vHigh] ∧ (Lit.int .i32 vP).wf = true ∧ (Lit.int .i32 vI).wf = true ∧ (Lit.int .i32 vD).wf = true ∧ (Lit.int .i32 vLow).wf = true ∧ (Lit.int .i32 vHigh).wf = true := by
  obtain ⟨hl, hf⟩ := trod_field_z Try.underlying27 h hz
  rw [show Try.prog.cellsOf 27 = 5 from by kernel_rfl] at hl
  obtain ⟨c0, c1, c2, c3, c4, rfl⟩ := list5 hl
  obtain ⟨n0, y0, h0, z0⟩ := hf 0 _ rfl
  replace h0 : DataW.trod enc Try.prog w base spare held n0 21 (([c0, c1, c2, c3, c4] : List Value).drop 0 |>.take (Try.prog.cellsOf 21)) = some y0 := h0
  rw [show Try.prog.cellsOf 21 = 1 from by kernel_rfl] at h0
  replace h0 : DataW.trod enc Try.prog w base spare held n0 21 [c0] = some y0 := h0
  obtain ⟨n1, y1, h1, z1⟩ := hf 1 _ rfl
  replace h1 : DataW.trod enc Try.prog w base spare held n1 21 (([c0, c1, c2, c3, c4] : List Value).drop 1 |>.take (Try.prog.cellsOf 21)) = some y1 := h1
  rw [show Try.prog.cellsOf 21 = 1 from by kernel_rfl] at h1
  replace h1 : DataW.trod enc Try.prog w base spare held n1 21 [c1] = some y1 := h1
  obtain ⟨n2, y2, h2, z2⟩ := hf 2 _ rfl
  replace h2 : DataW.trod enc Try.prog w base spare held n2 21 (([c0, c1, c2, c3, c4] : List Value).drop 2 |>.take (Try.prog.cellsOf 21)) = some y2 := h2
  rw [show Try.prog.cellsOf 21 = 1 from by kernel_rfl] at h2
  replace h2 : DataW.trod enc Try.prog w base spare held n2 21 [c2] = some y2 := h2
  obtain ⟨n3, y3, h3, z3⟩ := hf 3 _ rfl
  replace h3 : DataW.trod enc Try.prog w base spare held n3 21 (([c0, c1, c2, c3, c4] : List Value).drop 3 |>.take (Try.prog.cellsOf 21)) = some y3 := h3
  rw [show Try.prog.cellsOf 21 = 1 from by kernel_rfl] at h3
  replace h3 : DataW.trod enc Try.prog w base spare held n3 21 [c3] = some y3 := h3
  obtain ⟨n4, y4, h4, z4⟩ := hf 4 _ rfl
  replace h4 : DataW.trod enc Try.prog w base spare held n4 21 (([c0, c1, c2, c3, c4] : List Value).drop 4 |>.take (Try.prog.cellsOf 21)) = some y4 := h4
  rw [show Try.prog.cellsOf 21 = 1 from by kernel_rfl] at h4
  replace h4 : DataW.trod enc Try.prog w base spare held n4 21 [c4] = some y4 := h4
  obtain ⟨x0, e0, _, f0_0⟩ := DataW.trod_int Try.underlying21 h0
  simp only [List.cons.injEq, and_true] at e0
  obtain rfl := e0
  obtain ⟨x1, e1, _, f1_0⟩ := DataW.trod_int Try.underlying21 h1
  simp only [List.cons.injEq, and_true] at e1
  obtain rfl := e1
  obtain ⟨x2, e2, _, f2_0⟩ := DataW.trod_int Try.underlying21 h2
  simp only [List.cons.injEq, and_true] at e2
  obtain rfl := e2
  obtain ⟨x3, e3, _, f3_0⟩ := DataW.trod_int Try.underlying21 h3
  simp only [List.cons.injEq, and_true] at e3
  obtain rfl := e3
  obtain ⟨x4, e4, _, f4_0⟩ := DataW.trod_int Try.underlying21 h4
  simp only [List.cons.injEq, and_true] at e4
  obtain rfl := e4
  exact ⟨x0, x1, x2, x3, x4, rfl, f0_0, f1_0, f2_0, f3_0, f4_0⟩

theorem open29 {H : Type} {enc : TypeId × Value → H} {w : World} {base : Nat} {spare : Nat → Bool} {held : Bool} {fuel : Nat} {cs : List Value} {x : DataW H × List MemPlace} (h : DataW.trod enc Try.prog w base spare held fuel 29 cs = some x) (hz : Light Try.prog 29 x.1) :
    ∃ vRate : Int, ∃ vSoft : Int, ∃ vGainP : Int, ∃ vGainI : Int, ∃ vGainD : Int, ∃ vGainLow : Int, ∃ vGainHigh : Int, cs = [.int .i32 vRate, .int .i64 vSoft, .int .i32 vGainP, .int .i32 vGainI, .int .i32 vGainD, .int .i32 vGainLow, .int .i32 vGainHigh] ∧ (Lit.int .i32 vRate).wf = true ∧ (Lit.int .i64 vSoft).wf = true ∧ (Lit.int .i32 vGainP).wf = true ∧ (Lit.int .i32 vGainI).wf = true ∧ (Lit.int .i32 vGainD).wf = true ∧ (Lit.int .i32 vGainLow).wf = true ∧ (Lit.int .i32 vGainHigh).wf = true := by
  obtain ⟨hl, hf⟩ := trod_field_z Try.underlying29 h hz
  rw [show Try.prog.cellsOf 29 = 7 from by kernel_rfl] at hl
  obtain ⟨c0, c1, c2, c3, c4, c5, c6, rfl⟩ := list7 hl
  obtain ⟨n0, y0, h0, z0⟩ := hf 0 _ rfl
  replace h0 : DataW.trod enc Try.prog w base spare held n0 21 (([c0, c1, c2, c3, c4, c5, c6] : List Value).drop 0 |>.take (Try.prog.cellsOf 21)) = some y0 := h0
  rw [show Try.prog.cellsOf 21 = 1 from by kernel_rfl] at h0
  replace h0 : DataW.trod enc Try.prog w base spare held n0 21 [c0] = some y0 := h0
  obtain ⟨n1, y1, h1, z1⟩ := hf 1 _ rfl
  replace h1 : DataW.trod enc Try.prog w base spare held n1 3 (([c0, c1, c2, c3, c4, c5, c6] : List Value).drop 1 |>.take (Try.prog.cellsOf 3)) = some y1 := h1
  rw [show Try.prog.cellsOf 3 = 1 from by kernel_rfl] at h1
  replace h1 : DataW.trod enc Try.prog w base spare held n1 3 [c1] = some y1 := h1
  obtain ⟨n2, y2, h2, z2⟩ := hf 2 _ rfl
  replace h2 : DataW.trod enc Try.prog w base spare held n2 27 (([c0, c1, c2, c3, c4, c5, c6] : List Value).drop 2 |>.take (Try.prog.cellsOf 27)) = some y2 := h2
  rw [show Try.prog.cellsOf 27 = 5 from by kernel_rfl] at h2
  replace h2 : DataW.trod enc Try.prog w base spare held n2 27 [c2, c3, c4, c5, c6] = some y2 := h2
  obtain ⟨x0, e0, _, f0_0⟩ := DataW.trod_int Try.underlying21 h0
  simp only [List.cons.injEq, and_true] at e0
  obtain rfl := e0
  obtain ⟨x1, e1, _, f1_0⟩ := DataW.trod_int Try.underlying3 h1
  simp only [List.cons.injEq, and_true] at e1
  obtain rfl := e1
  obtain ⟨x2P, x2I, x2D, x2Low, x2High, e2, f2_0, f2_1, f2_2, f2_3, f2_4⟩ := open27 h2 z2
  simp only [List.cons.injEq, and_true] at e2
  obtain ⟨rfl, rfl, rfl, rfl, rfl⟩ := e2
  exact ⟨x0, x1, x2P, x2I, x2D, x2Low, x2High, rfl, f0_0, f1_0, f2_0, f2_1, f2_2, f2_3, f2_4⟩

theorem open31 {H : Type} {enc : TypeId × Value → H} {w : World} {base : Nat} {spare : Nat → Bool} {held : Bool} {fuel : Nat} {cs : List Value} {x : DataW H × List MemPlace} (h : DataW.trod enc Try.prog w base spare held fuel 31 cs = some x) (hz : Light Try.prog 31 x.1) :
    ∃ vBodyGain : Int, ∃ vBodyDrag : Int, ∃ vBodyLow : Int, ∃ vBodyHigh : Int, ∃ vRamPos : Int, ∃ vRamVel : Int, ∃ vServoRate : Int, ∃ vServoSoft : Int, ∃ vServoGainP : Int, ∃ vServoGainI : Int, ∃ vServoGainD : Int, ∃ vServoGainLow : Int, ∃ vServoGainHigh : Int, ∃ vOil : Int, ∃ vLoad : Int, ∃ vStuck : Bool, cs = [.int .i32 vBodyGain, .int .i64 vBodyDrag, .int .i32 vBodyLow, .int .i32 vBodyHigh, .int .i32 vRamPos, .int .i32 vRamVel, .int .i32 vServoRate, .int .i64 vServoSoft, .int .i32 vServoGainP, .int .i32 vServoGainI, .int .i32 vServoGainD, .int .i32 vServoGainLow, .int .i32 vServoGainHigh, .int .i32 vOil, .int .i32 vLoad, .bool vStuck] ∧ (Lit.int .i32 vBodyGain).wf = true ∧ (Lit.int .i64 vBodyDrag).wf = true ∧ (Lit.int .i32 vBodyLow).wf = true ∧ (Lit.int .i32 vBodyHigh).wf = true ∧ (Lit.int .i32 vRamPos).wf = true ∧ (Lit.int .i32 vRamVel).wf = true ∧ (Lit.int .i32 vServoRate).wf = true ∧ (Lit.int .i64 vServoSoft).wf = true ∧ (Lit.int .i32 vServoGainP).wf = true ∧ (Lit.int .i32 vServoGainI).wf = true ∧ (Lit.int .i32 vServoGainD).wf = true ∧ (Lit.int .i32 vServoGainLow).wf = true ∧ (Lit.int .i32 vServoGainHigh).wf = true ∧ (Lit.int .i32 vOil).wf = true ∧ (Lit.int .i32 vLoad).wf = true := by
  obtain ⟨hl, hf⟩ := trod_field_z Try.underlying31 h hz
  rw [show Try.prog.cellsOf 31 = 16 from by kernel_rfl] at hl
  obtain ⟨c0, c1, c2, c3, c4, c5, c6, c7, c8, c9, c10, c11, c12, c13, c14, c15, rfl⟩ := list16 hl
  obtain ⟨n0, y0, h0, z0⟩ := hf 0 _ rfl
  replace h0 : DataW.trod enc Try.prog w base spare held n0 23 (([c0, c1, c2, c3, c4, c5, c6, c7, c8, c9, c10, c11, c12, c13, c14, c15] : List Value).drop 0 |>.take (Try.prog.cellsOf 23)) = some y0 := h0
  rw [show Try.prog.cellsOf 23 = 4 from by kernel_rfl] at h0
  replace h0 : DataW.trod enc Try.prog w base spare held n0 23 [c0, c1, c2, c3] = some y0 := h0
  obtain ⟨n1, y1, h1, z1⟩ := hf 1 _ rfl
  replace h1 : DataW.trod enc Try.prog w base spare held n1 25 (([c0, c1, c2, c3, c4, c5, c6, c7, c8, c9, c10, c11, c12, c13, c14, c15] : List Value).drop 4 |>.take (Try.prog.cellsOf 25)) = some y1 := h1
  rw [show Try.prog.cellsOf 25 = 2 from by kernel_rfl] at h1
  replace h1 : DataW.trod enc Try.prog w base spare held n1 25 [c4, c5] = some y1 := h1
  obtain ⟨n2, y2, h2, z2⟩ := hf 2 _ rfl
  replace h2 : DataW.trod enc Try.prog w base spare held n2 29 (([c0, c1, c2, c3, c4, c5, c6, c7, c8, c9, c10, c11, c12, c13, c14, c15] : List Value).drop 6 |>.take (Try.prog.cellsOf 29)) = some y2 := h2
  rw [show Try.prog.cellsOf 29 = 7 from by kernel_rfl] at h2
  replace h2 : DataW.trod enc Try.prog w base spare held n2 29 [c6, c7, c8, c9, c10, c11, c12] = some y2 := h2
  obtain ⟨n3, y3, h3, z3⟩ := hf 3 _ rfl
  replace h3 : DataW.trod enc Try.prog w base spare held n3 21 (([c0, c1, c2, c3, c4, c5, c6, c7, c8, c9, c10, c11, c12, c13, c14, c15] : List Value).drop 13 |>.take (Try.prog.cellsOf 21)) = some y3 := h3
  rw [show Try.prog.cellsOf 21 = 1 from by kernel_rfl] at h3
  replace h3 : DataW.trod enc Try.prog w base spare held n3 21 [c13] = some y3 := h3
  obtain ⟨n4, y4, h4, z4⟩ := hf 4 _ rfl
  replace h4 : DataW.trod enc Try.prog w base spare held n4 21 (([c0, c1, c2, c3, c4, c5, c6, c7, c8, c9, c10, c11, c12, c13, c14, c15] : List Value).drop 14 |>.take (Try.prog.cellsOf 21)) = some y4 := h4
  rw [show Try.prog.cellsOf 21 = 1 from by kernel_rfl] at h4
  replace h4 : DataW.trod enc Try.prog w base spare held n4 21 [c14] = some y4 := h4
  obtain ⟨n5, y5, h5, z5⟩ := hf 5 _ rfl
  replace h5 : DataW.trod enc Try.prog w base spare held n5 4 (([c0, c1, c2, c3, c4, c5, c6, c7, c8, c9, c10, c11, c12, c13, c14, c15] : List Value).drop 15 |>.take (Try.prog.cellsOf 4)) = some y5 := h5
  rw [show Try.prog.cellsOf 4 = 1 from by kernel_rfl] at h5
  replace h5 : DataW.trod enc Try.prog w base spare held n5 4 [c15] = some y5 := h5
  obtain ⟨x0Gain, x0Drag, x0Low, x0High, e0, f0_0, f0_1, f0_2, f0_3⟩ := open23 h0 z0
  simp only [List.cons.injEq, and_true] at e0
  obtain ⟨rfl, rfl, rfl, rfl⟩ := e0
  obtain ⟨x1Pos, x1Vel, e1, f1_0, f1_1⟩ := open25 h1 z1
  simp only [List.cons.injEq, and_true] at e1
  obtain ⟨rfl, rfl⟩ := e1
  obtain ⟨x2Rate, x2Soft, x2GainP, x2GainI, x2GainD, x2GainLow, x2GainHigh, e2, f2_0, f2_1, f2_2, f2_3, f2_4, f2_5, f2_6⟩ := open29 h2 z2
  simp only [List.cons.injEq, and_true] at e2
  obtain ⟨rfl, rfl, rfl, rfl, rfl, rfl, rfl⟩ := e2
  obtain ⟨x3, e3, _, f3_0⟩ := DataW.trod_int Try.underlying21 h3
  simp only [List.cons.injEq, and_true] at e3
  obtain rfl := e3
  obtain ⟨x4, e4, _, f4_0⟩ := DataW.trod_int Try.underlying21 h4
  simp only [List.cons.injEq, and_true] at e4
  obtain rfl := e4
  obtain ⟨x5, e5, _⟩ := DataW.trod_bool Try.underlying4 h5
  simp only [List.cons.injEq, and_true] at e5
  obtain rfl := e5
  exact ⟨x0Gain, x0Drag, x0Low, x0High, x1Pos, x1Vel, x2Rate, x2Soft, x2GainP, x2GainI, x2GainD, x2GainLow, x2GainHigh, x3, x4, x5, rfl, f0_0, f0_1, f0_2, f0_3, f1_0, f1_1, f2_0, f2_1, f2_2, f2_3, f2_4, f2_5, f2_6, f3_0, f4_0⟩


/-- the trial that the law begins with -/
def bdy : Tri := ⟨65536, 0, -9, 9, 9, 0, 65536, 0, 0, -9, 9, 65536, 0, false⟩
def one5 : Nat → Pt := fun _ => ⟨5, 3, 0⟩
theorem bdy_I : TI bdy := by
  refine ⟨?_, ?_, ?_, ?_, ⟨?_, ?_, ?_, ?_, ?_⟩, ?_, ?_⟩ <;> (unfold I32 bdy; decide)
theorem bdy_ok : OkT bdy 0 := ⟨by unfold OkB bdy; decide, by unfold OkV bdy; decide, by decide, by decide⟩
theorem one5_ok : chP one5 1 = 0 := chP_ok (by omega) (fun j hj => by unfold okP one5; decide)
theorem bdy_far : msF bdy (sta0 0 0) one5 0 = false := by kernel_rfl
theorem bdy_pos : (ptF bdy (sta0 0 0) one5 1).p = 5 := by kernel_rfl
theorem bdy_n : tsN bdy (sta0 0 0) one5 1 = 1 := fiB_none (fun j hj => by obtain rfl : j = 0 := (by omega); exact bdy_far)
theorem bdy_r : tsR bdy (sta0 0 0) one5 1 = ptF bdy (sta0 0 0) one5 1 := by unfold tsR; rw [bdy_n]; rfl

/-- a trial that is stuck and without load -/
def stk (x : Tri) : Tri := { x with k := true, l := 0 }
theorem s32_id {x : Int} (h : I32 x) : s32 x = x := bnd_mid h.1 h.2
theorem shift_zero (n : Int) : shiftI 0 n = 0 := by
  unfold shiftI
  split
  · exact Int.zero_ediv _
  · rw [Int.zero_mul]
    decide
theorem clamp_self {p lo hi : Int} (h1 : lo ≤ p) (h2 : p ≤ hi) : clampI p lo hi = p := by
  unfold clampI
  rw [if_neg (by omega)]
  exact bnd_mid h1 h2
theorem mul_zero (g : Int) : mulI g 0 = 0 := by unfold mulI scaleI; rw [Int.mul_zero]; decide
theorem stk_stays {x : Tri} {z : Sta} (u : Int) (hp : I32 z.p) (h1 : x.lo ≤ z.p) (h2 : z.p ≤ x.hi) : (nxF (stk x) z u).p = z.p := by
  have e0 : vaF (stk x) z u = 0 := rfl
  have e1 : psI 1 (vaF (stk x) z u) (stk x).o = 0 := by
    rw [e0]
    unfold psI
    rw [act_yes]
    exact mulI_none _
  have e2 : puF (stk x) z u = 0 := by
    unfold puF
    rw [e1, psI_zero]
    show frcI 0 (act 1 0) (act 0 0) (act 0 0) (act 0 0) = 0
    decide
  show posI x.g (x.n + 0) x.lo x.hi z.p (puF (stk x) z u) = z.p
  rw [e2]
  unfold posI wayI
  rw [mul_zero, shift_zero, Int.add_zero, s32_id hp]
  exact clamp_self h1 h2
theorem stk_run {x : Tri} {z : Sta} (u : Int) (hp : I32 z.p) (h1 : x.lo ≤ z.p) (h2 : z.p ≤ x.hi) (k : Nat) : (rnF (stk x) z u k).p = z.p := by
  induction k with
  | zero => rfl
  | succ k ih =>
    show (nxF (stk x) (rnF (stk x) z u k) u).p = z.p
    rw [stk_stays u (by rw [ih]; exact hp) (by rw [ih]; exact h1) (by rw [ih]; exact h2), ih]
theorem stk_pts {x : Tri} {z : Sta} (l : Nat → Pt) (hp : I32 z.p) (h1 : x.lo ≤ z.p) (h2 : z.p ≤ x.hi) (j : Nat) : (ptF (stk x) z l j).p = z.p := by
  induction j with
  | zero => rfl
  | succ j ih =>
    show (rnF (stk x) (ptF (stk x) z l j) (l j).w (l j).f.toNat).p = z.p
    rw [stk_run _ (by rw [ih]; exact hp) (by rw [ih]; exact h1) (by rw [ih]; exact h2), ih]
/-- what the law asks for -/
theorem stk_n {x : Tri} {p v : Int} (l : Nat → Pt) (n : Nat) (hp : I32 p) (h1 : x.lo ≤ p) (h2 : p ≤ x.hi) : tsN (stk x) (sta0 p v) l n = fiB (fun j => faP p (l j)) n :=
  fiB_congr (fun j hj => by
    show faP (ptF (stk x) (sta0 p v) l (j + 1)).p (l j) = faP p (l j)
    rw [stk_pts l (z := sta0 p v) hp h1 h2]
    rfl)

/-- the trial made stuck, its load taken away -/
theorem Bxs.stick {w : World} {L : List (Nat × List Value)} {W : World} (h : Bxs w L W) (i b : Nat) {x : Tri} {p v : Int} (hi : L[i]? = some (b, [.int .i32 x.g, .int .i64 x.n, .int .i32 x.lo, .int .i32 x.hi, .int .i32 p, .int .i32 v, .int .i32 x.r, .int .i64 x.m, .int .i32 x.P, .int .i32 x.I, .int .i32 x.D, .int .i32 x.a, .int .i32 x.b, .int .i32 x.o, .int .i32 x.l, .bool x.k])) :
    ∃ w3, ((W.setCell ⟨b, 15, none⟩ (.bool true)).setCell ⟨b, 14, none⟩ (.int .i32 0)) = w3 ∧ Bxs w (L.set i (b, [.int .i32 (stk x).g, .int .i64 (stk x).n, .int .i32 (stk x).lo, .int .i32 (stk x).hi, .int .i32 p, .int .i32 v, .int .i32 (stk x).r, .int .i64 (stk x).m, .int .i32 (stk x).P, .int .i32 (stk x).I, .int .i32 (stk x).D, .int .i32 (stk x).a, .int .i32 (stk x).b, .int .i32 (stk x).o, .int .i32 (stk x).l, .bool (stk x).k])) w3 :=
  ⟨_, rfl, (h.set i b 15 [.int .i32 x.g, .int .i64 x.n, .int .i32 x.lo, .int .i32 x.hi, .int .i32 p, .int .i32 v, .int .i32 x.r, .int .i64 x.m, .int .i32 x.P, .int .i32 x.I, .int .i32 x.D, .int .i32 x.a, .int .i32 x.b, .int .i32 x.o, .int .i32 x.l, .bool x.k] (.bool true) hi (by simp)).again (j := 14) (.int .i32 0) hi (by simp)⟩

set_option maxHeartbeats 8000000 in
set_option maxRecDepth 100000 in
theorem walk_core (x : Tri) (p v : Int) (la : Option Addr) (ln lc : Nat) (l : Nat → Pt) (w : World) (hl : RowJ w la ln lc l) (hT : TI x) (hp : I32 p) :
    Calls Try.prog 4 #[.agg #[.int .i32 x.g, .int .i64 x.n, .int .i32 x.lo, .int .i32 x.hi, .int .i32 p, .int .i32 v, .int .i32 x.r, .int .i64 x.m, .int .i32 x.P, .int .i32 x.I, .int .i32 x.D, .int .i32 x.a, .int .i32 x.b, .int .i32 x.o, .int .i32 x.l, .bool x.k], .slice la ln lc] w fun e w' => e = .returned (.bool true) ∧ Below w.heap.size w w' := by
  have B0 : Hid (_) := bxsIII w #[.int .i32 x.g, .int .i64 x.n, .int .i32 x.lo, .int .i32 x.hi, .int .i32 p, .int .i32 v, .int .i32 x.r, .int .i64 x.m, .int .i32 x.P, .int .i32 x.I, .int .i32 x.D, .int .i32 x.a, .int .i32 x.b, .int .i32 x.o, .int .i32 x.l, .bool x.k] #[.int .i32 65536, .int .i64 0, .int .i32 (-9), .int .i32 9, .int .i32 0, .int .i32 0, .int .i32 9, .int .i64 0, .int .i32 65536, .int .i32 0, .int .i32 0, .int .i32 (-9), .int .i32 9, .int .i32 65536, .int .i32 0, .bool false] #[.int .i32 5, .int .i64 3, .int .i32 0] 31 31 40
  have HJ : Hid (RowJ w la ln lc l) := hl
  have HT : Hid (TI (stk x)) := ⟨hT.g, hT.lo, hT.hi, hT.r, hT.G, hT.o, I32_zero⟩
  have HP : Hid (I32 p) := hp
  have C1 : Hid (∀ (B : Nat) W, Cells W B [.int .i32 5, .int .i64 3, .int .i32 0] → Calls Try.prog 8 #[.agg #[.int .i32 65536, .int .i64 0, .int .i32 (-9), .int .i32 9, .int .i32 0, .int .i32 0, .int .i32 9, .int .i64 0, .int .i32 65536, .int .i32 0, .int .i32 0, .int .i32 (-9), .int .i32 9, .int .i32 65536, .int .i32 0, .bool false], .slice (some ⟨B, 0, none⟩) 1 1] W fun e w' => e = .returned (.tuple #[.int .i64 1, .agg #[.int .i32 5, .int .i32 (ptF bdy (sta0 0 0) one5 1).v], .int .i64 0]) ∧ Below W.heap.size W w') := fun B W hB => by
    have := test_any bdy 0 0 (some ⟨B, 0, none⟩) 1 1 one5 W (fun _ => ⟨B, 0, rfl, hB.lt, fun j hj => by obtain rfl : j = 0 := (by omega); exact ⟨hB.cell 0 _ rfl, hB.cell 1 _ rfl, hB.cell 2 _ rfl⟩⟩) bdy_I I32_zero (fun j => ⟨by unfold I32 one5; decide, by unfold I32 one5; decide⟩) (tsE_ok one5_ok bdy_ok)
    rw [bdy_n, bdy_r, bdy_pos] at this
    exact this
  generalize (ptF bdy (sta0 0 0) one5 1).v = v1 at C1
  clear hl hT hp
  go_enter Try.func4, Try.ntmps4
  go_wp2_with fail
  refine (C1.out _ _ (B0.out.box 2 _ _ rfl)).mono ?_
  rintro e w1 ⟨rfl, hb⟩
  have B1 : Hid (_) := B0.out.step hb
  clear hb B0 C1
  have tl := (B1.out.box 0 _ _ rfl).lt
  have t0 := (B1.out.box 0 _ _ rfl).cell 0 _ rfl
  have t1 := (B1.out.box 0 _ _ rfl).cell 1 _ rfl
  have t2 := (B1.out.box 0 _ _ rfl).cell 2 _ rfl
  have t3 := (B1.out.box 0 _ _ rfl).cell 3 _ rfl
  have t4 := (B1.out.box 0 _ _ rfl).cell 4 _ rfl
  have t5 := (B1.out.box 0 _ _ rfl).cell 5 _ rfl
  have t6 := (B1.out.box 0 _ _ rfl).cell 6 _ rfl
  have t7 := (B1.out.box 0 _ _ rfl).cell 7 _ rfl
  have t8 := (B1.out.box 0 _ _ rfl).cell 8 _ rfl
  have t9 := (B1.out.box 0 _ _ rfl).cell 9 _ rfl
  have t10 := (B1.out.box 0 _ _ rfl).cell 10 _ rfl
  have t11 := (B1.out.box 0 _ _ rfl).cell 11 _ rfl
  have t12 := (B1.out.box 0 _ _ rfl).cell 12 _ rfl
  have t13 := (B1.out.box 0 _ _ rfl).cell 13 _ rfl
  have t14 := (B1.out.box 0 _ _ rfl).cell 14 _ rfl
  have t15 := (B1.out.box 0 _ _ rfl).cell 15 _ rfl
  have tf0 := (B1.out.box 0 _ _ rfl).froz 0 _ rfl
  have tf1 := (B1.out.box 0 _ _ rfl).froz 1 _ rfl
  have tf2 := (B1.out.box 0 _ _ rfl).froz 2 _ rfl
  have tf3 := (B1.out.box 0 _ _ rfl).froz 3 _ rfl
  have tf4 := (B1.out.box 0 _ _ rfl).froz 4 _ rfl
  have tf5 := (B1.out.box 0 _ _ rfl).froz 5 _ rfl
  have tf6 := (B1.out.box 0 _ _ rfl).froz 6 _ rfl
  have tf7 := (B1.out.box 0 _ _ rfl).froz 7 _ rfl
  have tf8 := (B1.out.box 0 _ _ rfl).froz 8 _ rfl
  have tf9 := (B1.out.box 0 _ _ rfl).froz 9 _ rfl
  have tf10 := (B1.out.box 0 _ _ rfl).froz 10 _ rfl
  have tf11 := (B1.out.box 0 _ _ rfl).froz 11 _ rfl
  have tf12 := (B1.out.box 0 _ _ rfl).froz 12 _ rfl
  have tf13 := (B1.out.box 0 _ _ rfl).froz 13 _ rfl
  have tf14 := (B1.out.box 0 _ _ rfl).froz 14 _ rfl
  have tf15 := (B1.out.box 0 _ _ rfl).froz 15 _ rfl
  go_wp2_with fail
  obtain ⟨w2, hw2, B2⟩ := Bxs.stick B1.out 0 _ rfl
  rw [hw2]
  obtain ⟨N, w3, hw3, hN, B3', lN⟩ := B2.new #[.int .i32 5, .int .i32 v1] 25
  rw [hw3]
  have B3 : Hid (_) := B3'
  clear B3' hw3 B2 hw2 lN B1
  clear tl t0 t1 t2 t3 t4 t5 t6 t7 t8 t9 t10 t11 t12 t13 t14 t15
  clear tf0 tf1 tf2 tf3 tf4 tf5 tf6 tf7 tf8 tf9 tf10 tf11 tf12 tf13 tf14 tf15
  have R3 : Hid (RowP w3 la ln l) := HJ.out.row.step B3.out.bel
  obtain ⟨E, hE⟩ : ∃ E, tsE (stk x) p l ln = E := ⟨_, rfl⟩
  by_cases h0 : E = 0
  · subst h0
    obtain ⟨hC, hO⟩ := tsE_zero hE
    have h1 : x.lo ≤ p := hO.body.1
    have h2 : p ≤ x.hi := hO.body.2.1
    have hwf := HJ.out.wf
    have C2 := test_any (stk x) p v la ln lc l w3 R3.out HT.out HP.out (fun j => ⟨i32_of (hwf j).1, i32_of (hwf j).2.2⟩) hE
    rw [stk_n l ln HP.out h1 h2, show (tsR (stk x) (sta0 p v) l ln).p = p from stk_pts l (z := sta0 p v) HP.out h1 h2 _] at C2
    generalize (tsR (stk x) (sta0 p v) l ln).v = v2 at C2
    have H16 : Hid (ln ≤ 16) := (chP_zero hC).2.1
    obtain ⟨G, hG⟩ : ∃ G : Nat → Bool, (fun j => faP p (l j)) = G := ⟨_, rfl⟩
    have HG : Hid (∀ j, faP p (l j) = G j) := fun j => congrFun hG j
    rw [hG] at C2
    have HW : Hid (∀ j, I32 (l j).w ∧ I32 (l j).d) := fun j => ⟨i32_of (hwf j).1, i32_of (hwf j).2.2⟩
    clear hG hC hO h1 h2 hwf hE
    have L1 := fiB_le G ln
    refine C2.mono ?_
    rintro e w4 ⟨rfl, hb⟩
    have B4 : Hid (_) := B3.out.step hb
    clear hb B3 C2 R3
    have R4 : Hid (RowP w4 la ln l) := HJ.out.row.step B4.out.bel
    have tl := (B4.out.box 0 _ _ rfl).lt
    have t0 := (B4.out.box 0 _ _ rfl).cell 0 _ rfl
    have t1 := (B4.out.box 0 _ _ rfl).cell 1 _ rfl
    have t2 := (B4.out.box 0 _ _ rfl).cell 2 _ rfl
    have t3 := (B4.out.box 0 _ _ rfl).cell 3 _ rfl
    have t4 := (B4.out.box 0 _ _ rfl).cell 4 _ rfl
    have t5 := (B4.out.box 0 _ _ rfl).cell 5 _ rfl
    have t6 := (B4.out.box 0 _ _ rfl).cell 6 _ rfl
    have t7 := (B4.out.box 0 _ _ rfl).cell 7 _ rfl
    have t8 := (B4.out.box 0 _ _ rfl).cell 8 _ rfl
    have t9 := (B4.out.box 0 _ _ rfl).cell 9 _ rfl
    have t10 := (B4.out.box 0 _ _ rfl).cell 10 _ rfl
    have t11 := (B4.out.box 0 _ _ rfl).cell 11 _ rfl
    have t12 := (B4.out.box 0 _ _ rfl).cell 12 _ rfl
    have t13 := (B4.out.box 0 _ _ rfl).cell 13 _ rfl
    have t14 := (B4.out.box 0 _ _ rfl).cell 14 _ rfl
    have t15 := (B4.out.box 0 _ _ rfl).cell 15 _ rfl
    go_wp2_with fail
    obtain ⟨D, w5, hw5, hD, B5', lD⟩ := B4.out.new #[.int .i32 p, .int .i32 v2] 25
    rw [hw5, hD]
    have B5 : Hid (_) := B5'
    clear B5' hw5 hD B4 lD R4
    clear tl t0 t1 t2 t3 t4 t5 t6 t7 t8 t9 t10 t11 t12 t13 t14 t15
    have R5 : Hid (RowP w5 la ln l) := HJ.out.row.step B5.out.bel
    refine (indexP_any la ln lc l G w.heap.size w5 R5.out H16.out (fun j W hj hW => ?_)).mono ?_
    · have := stuckFar_any w.heap.size p (l j) W ((B5.out.step hW).box 0 _ _ rfl |>.cell 4 _ rfl) HP.out (HW.out j).1 (HW.out j).2
      rw [HG.out j] at this
      exact this
    · rintro e w6 ⟨rfl, hb⟩
      have B6 : Hid (_) := B5.out.step hb
      clear hb B5 R5
      have tl := (B6.out.box 0 _ _ rfl).lt
      have t0 := (B6.out.box 0 _ _ rfl).cell 0 _ rfl
      have t1 := (B6.out.box 0 _ _ rfl).cell 1 _ rfl
      have t2 := (B6.out.box 0 _ _ rfl).cell 2 _ rfl
      have t3 := (B6.out.box 0 _ _ rfl).cell 3 _ rfl
      have t4 := (B6.out.box 0 _ _ rfl).cell 4 _ rfl
      have t5 := (B6.out.box 0 _ _ rfl).cell 5 _ rfl
      have t6 := (B6.out.box 0 _ _ rfl).cell 6 _ rfl
      have t7 := (B6.out.box 0 _ _ rfl).cell 7 _ rfl
      have t8 := (B6.out.box 0 _ _ rfl).cell 8 _ rfl
      have t9 := (B6.out.box 0 _ _ rfl).cell 9 _ rfl
      have t10 := (B6.out.box 0 _ _ rfl).cell 10 _ rfl
      have t11 := (B6.out.box 0 _ _ rfl).cell 11 _ rfl
      have t12 := (B6.out.box 0 _ _ rfl).cell 12 _ rfl
      have t13 := (B6.out.box 0 _ _ rfl).cell 13 _ rfl
      have t14 := (B6.out.box 0 _ _ rfl).cell 14 _ rfl
      have t15 := (B6.out.box 0 _ _ rfl).cell 15 _ rfl
      have rl := (B6.out.box 4 _ _ rfl).lt
      have r0 := (B6.out.box 4 _ _ rfl).cell 0 _ rfl
      have r1 := (B6.out.box 4 _ _ rfl).cell 1 _ rfl
      have z0 : (ln : Int) ≤ 16 := by have := H16.out; omega
      by_cases hM : fiB G ln < ln
      · have e1 : ixP G ln = (fiB G ln : Nat) := by unfold ixP; rw [if_pos hM]
        rw [e1]
        clear e1
        generalize fiB G ln = M at *
        have z1 : ¬ (M : Int) < 0 := by omega
        go_wp2_with fail
        go_ret
        exact ⟨rfl, B6.out.bel⟩
      · have e1 : ixP G ln = -1 := by unfold ixP; rw [if_neg hM]
        have e2 : fiB G ln = ln := by omega
        rw [e1, e2]
        clear e1 e2 L1 hM
        go_wp2_with fail
        go_ret
        exact ⟨rfl, B6.out.bel⟩
  · have C2 := test_bad (stk x) p v la ln lc l w3 R3.out E hE h0
    have q : (E != 0) = true := by simpa using h0
    refine C2.mono ?_
    rintro e w4 ⟨rfl, hb⟩
    have B4 : Hid (_) := B3.out.step hb
    clear hb B3 C2 hE h0
    go_wp2_with fail
    go_ret
    exact ⟨rfl, (B4.out.alloc _).bel⟩

theorem walk (tBodyGain : Int) (tBodyDrag : Int) (tBodyLow : Int) (tBodyHigh : Int) (tRamPos : Int) (tRamVel : Int) (tServoRate : Int) (tServoSoft : Int) (tServoGainP : Int) (tServoGainI : Int) (tServoGainD : Int) (tServoGainLow : Int) (tServoGainHigh : Int) (tOil : Int) (tLoad : Int) (tStuck : Bool) (la : Option Addr) (ln lc : Nat) (l : Nat → Pt) (w : World) (h_tBodyGain : (Lit.int .i32 tBodyGain).wf = true) (h_tBodyDrag : (Lit.int .i64 tBodyDrag).wf = true) (h_tBodyLow : (Lit.int .i32 tBodyLow).wf = true) (h_tBodyHigh : (Lit.int .i32 tBodyHigh).wf = true) (h_tRamPos : (Lit.int .i32 tRamPos).wf = true) (h_tRamVel : (Lit.int .i32 tRamVel).wf = true) (h_tServoRate : (Lit.int .i32 tServoRate).wf = true) (h_tServoSoft : (Lit.int .i64 tServoSoft).wf = true) (h_tServoGainP : (Lit.int .i32 tServoGainP).wf = true) (h_tServoGainI : (Lit.int .i32 tServoGainI).wf = true) (h_tServoGainD : (Lit.int .i32 tServoGainD).wf = true) (h_tServoGainLow : (Lit.int .i32 tServoGainLow).wf = true) (h_tServoGainHigh : (Lit.int .i32 tServoGainHigh).wf = true) (h_tOil : (Lit.int .i32 tOil).wf = true) (h_tLoad : (Lit.int .i32 tLoad).wf = true) (h_l : RowJ w la ln lc l) :
    Calls Try.prog 4 #[.agg #[.int .i32 tBodyGain, .int .i64 tBodyDrag, .int .i32 tBodyLow, .int .i32 tBodyHigh, .int .i32 tRamPos, .int .i32 tRamVel, .int .i32 tServoRate, .int .i64 tServoSoft, .int .i32 tServoGainP, .int .i32 tServoGainI, .int .i32 tServoGainD, .int .i32 tServoGainLow, .int .i32 tServoGainHigh, .int .i32 tOil, .int .i32 tLoad, .bool tStuck], .slice la ln lc] w fun e w' => e = .returned (.bool true) ∧ Below w.heap.size w w' :=
  walk_core ⟨tBodyGain, tBodyDrag, tBodyLow, tBodyHigh, tServoRate, tServoSoft, tServoGainP, tServoGainI, tServoGainD, tServoGainLow, tServoGainHigh, tOil, tLoad, tStuck⟩ tRamPos tRamVel la ln lc l w h_l ⟨i32_of h_tBodyGain, i32_of h_tBodyLow, i32_of h_tBodyHigh, i32_of h_tServoRate, ⟨i32_of h_tServoGainP, i32_of h_tServoGainI, i32_of h_tServoGainD, i32_of h_tServoGainLow, i32_of h_tServoGainHigh⟩, i32_of h_tOil, i32_of h_tLoad⟩ (i32_of h_tRamPos)

/-! ### THE ROW's STEP -/
set_option maxRecDepth 100000 in
theorem lifted (os : Os) (started : os.Started) (H : Type) (enc : TypeId × Value → H) :
    ReturnsInHanded {} Try.checked os 4 .any (Rows.strokeStuckSpec.pre6 enc Try.prog Try.f4 Rows.strokeStuckRow.domain false) (Rows.strokeStuckSpec.post enc Try.prog Try.f4 false true false false) := by
  refine returnsInHanded_of_change_sized (C := Try.checked) own started (by kernel_rfl) Try.func4
    (ChangeSpec.witness6 (enc := enc) (C := Try.checked) false ⟨#[], #[.agg #[.int .i32 0, .int .i64 0, .int .i32 0, .int .i32 0, .int .i32 0, .int .i32 0, .int .i32 0, .int .i64 0, .int .i32 0, .int .i32 0, .int .i32 0, .int .i32 0, .int .i32 0, .int .i32 0, .int .i32 0, .bool false], .slice none 0 0], []⟩ 8 (by kernel_rfl) (by kernel_rfl) (by kernel_rfl) (by kernel_rfl)) ?_
  intro W base args ds gs before hval0 hW hcnd hsz0 _
  have hval : ∀ (j : Nat) t v, Try.f4.params[j]? = some t → args[j]? = some v → Value.okWide Try.prog W .any base t v := hval0
  have hW' := hW
  obtain ⟨p, q, hA0, hV, rfl, hfz, hnd⟩ := hW
  have hA : DataW.TrodAll enc Try.prog W 0 (fun _ => true) true Try.f4.params.toList args.toList ds p := hA0
  rw [Try.params4] at hA hval
  obtain ⟨v_0, vs_0, d_0, ds_0, p_0, q_0, hargs, rfl, rfl, h_0, r_0⟩ := trodAll_cons hA
  obtain ⟨v_1, vs_1, d_1, ds_1, p_1, q_1, rfl, rfl, rfl, h_1, r_1⟩ := trodAll_cons r_0
  obtain ⟨rfl, rfl, rfl⟩ := trodAll_nil r_1
  obtain rfl : args = #[v_0, v_1] := by cases args; simp_all
  obtain ⟨rfl, rfl⟩ := trodVars_none hV
  have hz_0 : Light Try.prog 31 d_0 := light_of hsz0 (j := 0) (by first | rfl | (rw [Try.params4]; rfl)) rfl
  have k_0 := h_0
  have lt_0 : ∀ x ∈ p_0, x.block < W.heap.size := by obtain ⟨m, hm⟩ := k_0; exact DataW.trod_lt m _ _ _ hm
  obtain ⟨cs_0, rfl, _⟩ := okWide_struct Try.underlying31 (hval 0 31 v_0 rfl rfl)
  obtain ⟨tBodyGain, tBodyDrag, tBodyLow, tBodyHigh, tRamPos, tRamVel, tServoRate, tServoSoft, tServoGainP, tServoGainI, tServoGainD, tServoGainLow, tServoGainHigh, tOil, tLoad, tStuck, e_0, h_tBodyGain, h_tBodyDrag, h_tBodyLow, h_tBodyHigh, h_tRamPos, h_tRamVel, h_tServoRate, h_tServoSoft, h_tServoGainP, h_tServoGainI, h_tServoGainD, h_tServoGainLow, h_tServoGainHigh, h_tOil, h_tLoad⟩ := (by obtain ⟨fuel, hf⟩ := h_0; exact open31 hf hz_0 : ∃ tBodyGain : Int, ∃ tBodyDrag : Int, ∃ tBodyLow : Int, ∃ tBodyHigh : Int, ∃ tRamPos : Int, ∃ tRamVel : Int, ∃ tServoRate : Int, ∃ tServoSoft : Int, ∃ tServoGainP : Int, ∃ tServoGainI : Int, ∃ tServoGainD : Int, ∃ tServoGainLow : Int, ∃ tServoGainHigh : Int, ∃ tOil : Int, ∃ tLoad : Int, ∃ tStuck : Bool, cs_0.toList = [.int .i32 tBodyGain, .int .i64 tBodyDrag, .int .i32 tBodyLow, .int .i32 tBodyHigh, .int .i32 tRamPos, .int .i32 tRamVel, .int .i32 tServoRate, .int .i64 tServoSoft, .int .i32 tServoGainP, .int .i32 tServoGainI, .int .i32 tServoGainD, .int .i32 tServoGainLow, .int .i32 tServoGainHigh, .int .i32 tOil, .int .i32 tLoad, .bool tStuck] ∧ (Lit.int .i32 tBodyGain).wf = true ∧ (Lit.int .i64 tBodyDrag).wf = true ∧ (Lit.int .i32 tBodyLow).wf = true ∧ (Lit.int .i32 tBodyHigh).wf = true ∧ (Lit.int .i32 tRamPos).wf = true ∧ (Lit.int .i32 tRamVel).wf = true ∧ (Lit.int .i32 tServoRate).wf = true ∧ (Lit.int .i64 tServoSoft).wf = true ∧ (Lit.int .i32 tServoGainP).wf = true ∧ (Lit.int .i32 tServoGainI).wf = true ∧ (Lit.int .i32 tServoGainD).wf = true ∧ (Lit.int .i32 tServoGainLow).wf = true ∧ (Lit.int .i32 tServoGainHigh).wf = true ∧ (Lit.int .i32 tOil).wf = true ∧ (Lit.int .i32 tLoad).wf = true)
  obtain rfl : cs_0 = #[.int .i32 tBodyGain, .int .i64 tBodyDrag, .int .i32 tBodyLow, .int .i32 tBodyHigh, .int .i32 tRamPos, .int .i32 tRamVel, .int .i32 tServoRate, .int .i64 tServoSoft, .int .i32 tServoGainP, .int .i32 tServoGainI, .int .i32 tServoGainD, .int .i32 tServoGainLow, .int .i32 tServoGainHigh, .int .i32 tOil, .int .i32 tLoad, .bool tStuck] := by cases cs_0; simp_all
  clear e_0
  have hz_1 : Light Try.prog 32 d_1 := light_of hsz0 (j := 1) (by first | rfl | (rw [Try.params4]; rfl)) rfl
  have k_1 := h_1
  have lt_1 : ∀ x ∈ p_1, x.block < W.heap.size := by obtain ⟨m, hm⟩ := k_1; exact DataW.trod_lt m _ _ _ hm
  obtain ⟨la, ln, lc, rfl⟩ := okWide_slice Try.underlying32 (hval 1 32 v_1 rfl rfl)
  obtain ⟨l, h_l⟩ : ∃ l, RowJ W la ln lc l := by
    obtain ⟨fuel, hf⟩ := h_1
    obtain ⟨a, m, c, l, hcs, hr⟩ := rowJ_of hf hz_1
    simp [Value.cells] at hcs
    obtain ⟨rfl, rfl, rfl⟩ := hcs
    exact ⟨l, hr⟩
  clear hA0 hval0
  refine (walk tBodyGain tBodyDrag tBodyLow tBodyHigh tRamPos tRamVel tServoRate tServoSoft tServoGainP tServoGainI tServoGainD tServoGainLow tServoGainHigh tOil tLoad tStuck la ln lc l W h_tBodyGain h_tBodyDrag h_tBodyLow h_tBodyHigh h_tRamPos h_tRamVel h_tServoRate h_tServoSoft h_tServoGainP h_tServoGainI h_tServoGainD h_tServoGainLow h_tServoGainHigh h_tOil h_tLoad h_l).mono fun e W' ⟨he, bel⟩ => ?_
  subst he
  exact ⟨_, rfl, _, _, _, [], _, [], hW', trodAll_mk1 (shut_bool Try.underlying4 _), (trodAll_cons_mk (Below.trod laidOut (by kernel_rfl) (of_decide_eq_true (by kernel_rfl)) k_0 bel lt_0) (trodAll_cons_mk (Below.trod laidOut (by kernel_rfl) (of_decide_eq_true (by kernel_rfl)) k_1 bel lt_1) trodAll_mk0)), rfl, bel.frame _, fun h => by cases h⟩

theorem over : Rows.strokeStuckRow.holds Try.pinned (OpenSpec.ofChange Rows.strokeStuckSpec) :=
  OpenClaim.holds_of_wide 4 Try.f4 rfl rfl rfl rfl rfl rfl rfl ⟨rfl, rfl, rfl, rfl, rfl⟩ rfl rfl rfl rfl rfl (by kernel_rfl) Try.func4 (by kernel_rfl)
    (of_decide_eq_true (by kernel_rfl)) (by unfold Func.isWrapper; first | (rw [if_pos (by decide +kernel)]; kernel_rfl) | (rw [if_neg (by decide +kernel)]; exact ⟨rfl, rfl⟩))
    (fun os started H enc _ => lifted os started H enc)


end Go.Proofs.Ytihcioghbidblaa.strokeStuck
namespace Go.Proofs.Ytihcioghbidblaa
/-- THE STATEMENT -/
theorem strokeStuck_holds : Rows.StrokeStuckSaid := strokeStuck.over
#print axioms strokeStuck_holds
end Go.Proofs.Ytihcioghbidblaa
