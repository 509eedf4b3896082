/-
  Whatever is handed in, the law ServoSays returns true: all calls of package servo answer what the document says. No condition.
-/
import Derived.Test.YtbpenfjnfoljoaaRSrv
import Derived.Test.YtbpenfjnfoljoaaOpenZ
import Derived.ProofKit
namespace Go.Proofs.Ytbpenfjnfoljoaa.servoSays
open Go.ChangeShapes Go.WideShapes Go.ChangeAt Go.RowKit
set_option linter.unusedVariables false

theorem own : ownKnob Try.prog.godebug = none := by kernel_rfl
theorem laidOut : laidOutB Try.prog = true := by kernel_rfl

theorem list2 {l : List Value} (h : l.length = 2) : ∃ c0 c1, l = [c0, c1] := by
  match l, h with
  | [c0, c1], _ => exact ⟨c0, c1, rfl⟩

theorem list3 {l : List Value} (h : l.length = 3) : ∃ c0 c1 c2, l = [c0, c1, c2] := by
  match l, h with
  | [c0, c1, c2], _ => exact ⟨c0, c1, c2, rfl⟩

theorem list4 {l : List Value} (h : l.length = 4) : ∃ c0 c1 c2 c3, l = [c0, c1, c2, c3] := by
  match l, h with
  | [c0, c1, c2, c3], _ => exact ⟨c0, c1, c2, c3, rfl⟩

theorem list5 {l : List Value} (h : l.length = 5) : ∃ c0 c1 c2 c3 c4, l = [c0, c1, c2, c3, c4] := by
  match l, h with
  | [c0, c1, c2, c3, c4], _ => exact ⟨c0, c1, c2, c3, c4, rfl⟩

theorem list7 {l : List Value} (h : l.length = 7) : ∃ c0 c1 c2 c3 c4 c5 c6, l = [c0, c1, c2, c3, c4, c5, c6] := by
  match l, h with
  | [c0, c1, c2, c3, c4, c5, c6], _ => exact ⟨c0, c1, c2, c3, c4, c5, c6, rfl⟩

theorem open23 {H : Type} {enc : TypeId × Value → H} {w : World} {base : Nat} {spare : Nat → Bool} {held : Bool} {fuel : Nat} {cs : List Value} {x : DataW H × List MemPlace} (h : DataW.trod enc Try.prog w base spare held fuel 23 cs = some x) (hz : Light Try.prog 23 x.1) :
    ∃ vSum : Int, ∃ vWide : Int, ∃ vFull : Int, cs = [.int .i32 vSum, .int .i32 vWide, .int .i32 vFull] ∧ (Lit.int .i32 vSum).wf = true ∧ (Lit.int .i32 vWide).wf = true ∧ (Lit.int .i32 vFull).wf = true := by
  obtain ⟨hl, hf⟩ := trod_field_z Try.underlying23 h hz
  rw [show Try.prog.cellsOf 23 = 3 from by kernel_rfl] at hl
  obtain ⟨c0, c1, c2, rfl⟩ := list3 hl
  obtain ⟨n0, y0, h0, z0⟩ := hf 0 _ rfl
  replace h0 : DataW.trod enc Try.prog w base spare held n0 21 (([c0, c1, c2] : List Value).drop 0 |>.take (Try.prog.cellsOf 21)) = some y0 := h0
  rw [show Try.prog.cellsOf 21 = 1 from by kernel_rfl] at h0
  replace h0 : DataW.trod enc Try.prog w base spare held n0 21 [c0] = some y0 := h0
  obtain ⟨n1, y1, h1, z1⟩ := hf 1 _ rfl
  replace h1 : DataW.trod enc Try.prog w base spare held n1 21 (([c0, c1, c2] : List Value).drop 1 |>.take (Try.prog.cellsOf 21)) = some y1 := h1
  rw [show Try.prog.cellsOf 21 = 1 from by kernel_rfl] at h1
  replace h1 : DataW.trod enc Try.prog w base spare held n1 21 [c1] = some y1 := h1
  obtain ⟨n2, y2, h2, z2⟩ := hf 2 _ rfl
  replace h2 : DataW.trod enc Try.prog w base spare held n2 21 (([c0, c1, c2] : List Value).drop 2 |>.take (Try.prog.cellsOf 21)) = some y2 := h2
  rw [show Try.prog.cellsOf 21 = 1 from by kernel_rfl] at h2
  replace h2 : DataW.trod enc Try.prog w base spare held n2 21 [c2] = some y2 := h2
  obtain ⟨x0, e0, _, f0_0⟩ := DataW.trod_int Try.underlying21 h0
  simp only [List.cons.injEq, and_true] at e0
  obtain rfl := e0
  obtain ⟨x1, e1, _, f1_0⟩ := DataW.trod_int Try.underlying21 h1
  simp only [List.cons.injEq, and_true] at e1
  obtain rfl := e1
  obtain ⟨x2, e2, _, f2_0⟩ := DataW.trod_int Try.underlying21 h2
  simp only [List.cons.injEq, and_true] at e2
  obtain rfl := e2
  exact ⟨x0, x1, x2, rfl, f0_0, f1_0, f2_0⟩

theorem open25 {H : Type} {enc : TypeId × Value → H} {w : World} {base : Nat} {spare : Nat → Bool} {held : Bool} {fuel : Nat} {cs : List Value} {x : DataW H × List MemPlace} (h : DataW.trod enc Try.prog w base spare held fuel 25 cs = some x) (hz : Light Try.prog 25 x.1) :
    ∃ vP : Int, ∃ vI : Int, ∃ vD : Int, ∃ vLow : Int, ∃ vHigh : Int, cs = [.int .i32 vP, .int .i32 vI, .int .i32 vD, .int .i32 vLow, .int .i32 vHigh] ∧ (Lit.int .i32 vP).wf = true ∧ (Lit.int .i32 vI).wf = true ∧ (Lit.int .i32 vD).wf = true ∧ (Lit.int .i32 vLow).wf = true ∧ (Lit.int .i32 vHigh).wf = true := by
  obtain ⟨hl, hf⟩ := trod_field_z Try.underlying25 h hz
  rw [show Try.prog.cellsOf 25 = 5 from by kernel_rfl] at hl
  obtain ⟨c0, c1, c2, c3, c4, rfl⟩ := list5 hl
  obtain ⟨n0, y0, h0, z0⟩ := hf 0 _ rfl
  replace h0 : DataW.trod enc Try.prog w base spare held n0 21 (([c0, c1, c2, c3, c4] : List Value).drop 0 |>.take (Try.prog.cellsOf 21)) = some y0 := h0
  rw [show Try.prog.cellsOf 21 = 1 from by kernel_rfl] at h0
  replace h0 : DataW.trod enc Try.prog w base spare held n0 21 [c0] = some y0 := h0
  obtain ⟨n1, y1, h1, z1⟩ := hf 1 _ rfl
  replace h1 : DataW.trod enc Try.prog w base spare held n1 21 (([c0, c1, c2, c3, c4] : List Value).drop 1 |>.take (Try.prog.cellsOf 21)) = some y1 := h1
  rw [show Try.prog.cellsOf 21 = 1 from by kernel_rfl] at h1
  replace h1 : DataW.trod enc Try.prog w base spare held n1 21 [c1] = some y1 := h1
  obtain ⟨n2, y2, h2, z2⟩ := hf 2 _ rfl
  replace h2 : DataW.trod enc Try.prog w base spare held n2 21 (([c0, c1, c2, c3, c4] : List Value).drop 2 |>.take (Try.prog.cellsOf 21)) = some y2 := h2
  rw [show Try.prog.cellsOf 21 = 1 from by kernel_rfl] at h2
  replace h2 : DataW.trod enc Try.prog w base spare held n2 21 [c2] = some y2 := h2
  obtain ⟨n3, y3, h3, z3⟩ := hf 3 _ rfl
  replace h3 : DataW.trod enc Try.prog w base spare held n3 21 (([c0, c1, c2, c3, c4] : List Value).drop 3 |>.take (Try.prog.cellsOf 21)) = some y3 := h3
  rw [show Try.prog.cellsOf 21 = 1 from by kernel_rfl] at h3
  replace h3 : DataW.trod enc Try.prog w base spare held n3 21 [c3] = some y3 := h3
  obtain ⟨n4, y4, h4, z4⟩ := hf 4 _ rfl
  replace h4 : DataW.trod enc Try.prog w base spare held n4 21 (([c0, c1, c2, c3, c4] : List Value).drop 4 |>.take (Try.prog.cellsOf 21)) = some y4 := h4
  rw [show Try.prog.cellsOf 21 = 1 from by kernel_rfl] at h4
  replace h4 : DataW.trod enc Try.prog w base spare held n4 21 [c4] = some y4 := h4
  obtain ⟨x0, e0, _, f0_0⟩ := DataW.trod_int Try.underlying21 h0
  simp only [List.cons.injEq, and_true] at e0
  obtain rfl := e0
  obtain ⟨x1, e1, _, f1_0⟩ := DataW.trod_int Try.underlying21 h1
  simp only [List.cons.injEq, and_true] at e1
  obtain rfl := e1
  obtain ⟨x2, e2, _, f2_0⟩ := DataW.trod_int Try.underlying21 h2
  simp only [List.cons.injEq, and_true] at e2
  obtain rfl := e2
  obtain ⟨x3, e3, _, f3_0⟩ := DataW.trod_int Try.underlying21 h3
  simp only [List.cons.injEq, and_true] at e3
  obtain rfl := e3
  obtain ⟨x4, e4, _, f4_0⟩ := DataW.trod_int Try.underlying21 h4
  simp only [List.cons.injEq, and_true] at e4
  obtain rfl := e4
  exact ⟨x0, x1, x2, x3, x4, rfl, f0_0, f1_0, f2_0, f3_0, f4_0⟩

theorem open27 {H : Type} {enc : TypeId × Value → H} {w : World} {base : Nat} {spare : Nat → Bool} {held : Bool} {fuel : Nat} {cs : List Value} {x : DataW H × List MemPlace} (h : DataW.trod enc Try.prog w base spare held fuel 27 cs = some x) (hz : Light Try.prog 27 x.1) :
    ∃ vRate : Int, ∃ vSoft : Int, ∃ vGainP : Int, ∃ vGainI : Int, ∃ vGainD : Int, ∃ vGainLow : Int, ∃ vGainHigh : Int, cs = [.int .i32 vRate, .int .i64 vSoft, .int .i32 vGainP, .int .i32 vGainI, .int .i32 vGainD, .int .i32 vGainLow, .int .i32 vGainHigh] ∧ (Lit.int .i32 vRate).wf = true ∧ (Lit.int .i64 vSoft).wf = true ∧ (Lit.int .i32 vGainP).wf = true ∧ (Lit.int .i32 vGainI).wf = true ∧ (Lit.int .i32 vGainD).wf = true ∧ (Lit.int .i32 vGainLow).wf = true ∧ (Lit.int .i32 vGainHigh).wf = true := by
  obtain ⟨hl, hf⟩ := trod_field_z Try.underlying27 h hz
  rw [show Try.prog.cellsOf 27 = 7 from by kernel_rfl] at hl
  obtain ⟨c0, c1, c2, c3, c4, c5, c6, rfl⟩ := list7 hl
  obtain ⟨n0, y0, h0, z0⟩ := hf 0 _ rfl
  replace h0 : DataW.trod enc Try.prog w base spare held n0 21 (([c0, c1, c2, c3, c4, c5, c6] : List Value).drop 0 |>.take (Try.prog.cellsOf 21)) = some y0 := h0
  rw [show Try.prog.cellsOf 21 = 1 from by kernel_rfl] at h0
  replace h0 : DataW.trod enc Try.prog w base spare held n0 21 [c0] = some y0 := h0
  obtain ⟨n1, y1, h1, z1⟩ := hf 1 _ rfl
  replace h1 : DataW.trod enc Try.prog w base spare held n1 3 (([c0, c1, c2, c3, c4, c5, c6] : List Value).drop 1 |>.take (Try.prog.cellsOf 3)) = some y1 := h1
  rw [show Try.prog.cellsOf 3 = 1 from by kernel_rfl] at h1
  replace h1 : DataW.trod enc Try.prog w base spare held n1 3 [c1] = some y1 := h1
  obtain ⟨n2, y2, h2, z2⟩ := hf 2 _ rfl
  replace h2 : DataW.trod enc Try.prog w base spare held n2 25 (([c0, c1, c2, c3, c4, c5, c6] : List Value).drop 2 |>.take (Try.prog.cellsOf 25)) = some y2 := h2
  rw [show Try.prog.cellsOf 25 = 5 from by kernel_rfl] at h2
  replace h2 : DataW.trod enc Try.prog w base spare held n2 25 [c2, c3, c4, c5, c6] = some y2 := h2
  obtain ⟨x0, e0, _, f0_0⟩ := DataW.trod_int Try.underlying21 h0
  simp only [List.cons.injEq, and_true] at e0
  obtain rfl := e0
  obtain ⟨x1, e1, _, f1_0⟩ := DataW.trod_int Try.underlying3 h1
  simp only [List.cons.injEq, and_true] at e1
  obtain rfl := e1
  obtain ⟨x2P, x2I, x2D, x2Low, x2High, e2, f2_0, f2_1, f2_2, f2_3, f2_4⟩ := open25 h2 z2
  simp only [List.cons.injEq, and_true] at e2
  obtain ⟨rfl, rfl, rfl, rfl, rfl⟩ := e2
  exact ⟨x0, x1, x2P, x2I, x2D, x2Low, x2High, rfl, f0_0, f1_0, f2_0, f2_1, f2_2, f2_3, f2_4⟩

theorem open29 {H : Type} {enc : TypeId × Value → H} {w : World} {base : Nat} {spare : Nat → Bool} {held : Bool} {fuel : Nat} {cs : List Value} {x : DataW H × List MemPlace} (h : DataW.trod enc Try.prog w base spare held fuel 29 cs = some x) (hz : Light Try.prog 29 x.1) :
    ∃ vSum : Int, ∃ vLast : Int, cs = [.int .i32 vSum, .int .i32 vLast] ∧ (Lit.int .i32 vSum).wf = true ∧ (Lit.int .i32 vLast).wf = true := by
  obtain ⟨hl, hf⟩ := trod_field_z Try.underlying29 h hz
  rw [show Try.prog.cellsOf 29 = 2 from by kernel_rfl] at hl
  obtain ⟨c0, c1, rfl⟩ := list2 hl
  obtain ⟨n0, y0, h0, z0⟩ := hf 0 _ rfl
  replace h0 : DataW.trod enc Try.prog w base spare held n0 21 (([c0, c1] : List Value).drop 0 |>.take (Try.prog.cellsOf 21)) = some y0 := h0
  rw [show Try.prog.cellsOf 21 = 1 from by kernel_rfl] at h0
  replace h0 : DataW.trod enc Try.prog w base spare held n0 21 [c0] = some y0 := h0
  obtain ⟨n1, y1, h1, z1⟩ := hf 1 _ rfl
  replace h1 : DataW.trod enc Try.prog w base spare held n1 21 (([c0, c1] : List Value).drop 1 |>.take (Try.prog.cellsOf 21)) = some y1 := h1
  rw [show Try.prog.cellsOf 21 = 1 from by kernel_rfl] at h1
  replace h1 : DataW.trod enc Try.prog w base spare held n1 21 [c1] = some y1 := h1
  obtain ⟨x0, e0, _, f0_0⟩ := DataW.trod_int Try.underlying21 h0
  simp only [List.cons.injEq, and_true] at e0
  obtain rfl := e0
  obtain ⟨x1, e1, _, f1_0⟩ := DataW.trod_int Try.underlying21 h1
  simp only [List.cons.injEq, and_true] at e1
  obtain rfl := e1
  exact ⟨x0, x1, rfl, f0_0, f1_0⟩

theorem open31 {H : Type} {enc : TypeId × Value → H} {w : World} {base : Nat} {spare : Nat → Bool} {held : Bool} {fuel : Nat} {cs : List Value} {x : DataW H × List MemPlace} (h : DataW.trod enc Try.prog w base spare held fuel 31 cs = some x) (hz : Light Try.prog 31 x.1) :
    ∃ vGoal : Int, ∃ vPidSum : Int, ∃ vPidLast : Int, ∃ vValve : Int, cs = [.int .i32 vGoal, .int .i32 vPidSum, .int .i32 vPidLast, .int .i32 vValve] ∧ (Lit.int .i32 vGoal).wf = true ∧ (Lit.int .i32 vPidSum).wf = true ∧ (Lit.int .i32 vPidLast).wf = true ∧ (Lit.int .i32 vValve).wf = true := by
  obtain ⟨hl, hf⟩ := trod_field_z Try.underlying31 h hz
  rw [show Try.prog.cellsOf 31 = 4 from by kernel_rfl] at hl
  obtain ⟨c0, c1, c2, c3, rfl⟩ := list4 hl
  obtain ⟨n0, y0, h0, z0⟩ := hf 0 _ rfl
  replace h0 : DataW.trod enc Try.prog w base spare held n0 21 (([c0, c1, c2, c3] : List Value).drop 0 |>.take (Try.prog.cellsOf 21)) = some y0 := h0
  rw [show Try.prog.cellsOf 21 = 1 from by kernel_rfl] at h0
  replace h0 : DataW.trod enc Try.prog w base spare held n0 21 [c0] = some y0 := h0
  obtain ⟨n1, y1, h1, z1⟩ := hf 1 _ rfl
  replace h1 : DataW.trod enc Try.prog w base spare held n1 29 (([c0, c1, c2, c3] : List Value).drop 1 |>.take (Try.prog.cellsOf 29)) = some y1 := h1
  rw [show Try.prog.cellsOf 29 = 2 from by kernel_rfl] at h1
  replace h1 : DataW.trod enc Try.prog w base spare held n1 29 [c1, c2] = some y1 := h1
  obtain ⟨n2, y2, h2, z2⟩ := hf 2 _ rfl
  replace h2 : DataW.trod enc Try.prog w base spare held n2 21 (([c0, c1, c2, c3] : List Value).drop 3 |>.take (Try.prog.cellsOf 21)) = some y2 := h2
  rw [show Try.prog.cellsOf 21 = 1 from by kernel_rfl] at h2
  replace h2 : DataW.trod enc Try.prog w base spare held n2 21 [c3] = some y2 := h2
  obtain ⟨x0, e0, _, f0_0⟩ := DataW.trod_int Try.underlying21 h0
  simp only [List.cons.injEq, and_true] at e0
  obtain rfl := e0
  obtain ⟨x1Sum, x1Last, e1, f1_0, f1_1⟩ := open29 h1 z1
  simp only [List.cons.injEq, and_true] at e1
  obtain ⟨rfl, rfl⟩ := e1
  obtain ⟨x2, e2, _, f2_0⟩ := DataW.trod_int Try.underlying21 h2
  simp only [List.cons.injEq, and_true] at e2
  obtain rfl := e2
  exact ⟨x0, x1Sum, x1Last, x2, rfl, f0_0, f1_0, f1_1, f2_0⟩


/-- the boxes of a sensor, a servo, and what it keeps -/
structure Sz (w : World) (S U F r m P I D lo hi g s t v : Int) (W : World) : Prop where
  bel : Below w.heap.size w W
  sn : Cells W w.heap.size [.int .i32 S, .int .i32 U, .int .i32 F]
  sv : Cells W (w.heap.size + 1) [.int .i32 r, .int .i64 m, .int .i32 P, .int .i32 I, .int .i32 D, .int .i32 lo, .int .i32 hi]
  dr : Cells W (w.heap.size + 1 + 1) [.int .i32 g, .int .i32 s, .int .i32 t, .int .i32 v]
theorem Sz.step {w : World} {S U F r m P I D lo hi g s t v : Int} {W W' : World} (h : Sz w S U F r m P I D lo hi g s t v W) (hb : Below W.heap.size W W') : Sz w S U F r m P I D lo hi g s t v W' :=
  ⟨below_then h.bel hb, h.sn.step hb, h.sv.step hb, h.dr.step hb⟩
theorem Sz.alloc {w : World} {S U F r m P I D lo hi g s t v : Int} {W : World} (h : Sz w S U F r m P I D lo hi g s t v W) (x : Obj) : Sz w S U F r m P I D lo hi g s t v (W.alloc x) := h.step ((Below.refl _ W).alloc (Nat.le_refl _) _)
theorem sz_new (w : World) (S U F r m P I D lo hi g s t v : Int) (t1 t2 t3 : TypeId) : Sz w S U F r m P I D lo hi g s t v (((w.alloc (.cells #[.int .i32 S, .int .i32 U, .int .i32 F] t1)).alloc (.cells #[.int .i32 r, .int .i64 m, .int .i32 P, .int .i32 I, .int .i32 D, .int .i32 lo, .int .i32 hi] t2)).alloc (.cells #[.int .i32 g, .int .i32 s, .int .i32 t, .int .i32 v] t3)) :=
  ⟨((((Below.refl _ w).alloc (Nat.le_refl _) _).alloc (by simp) _).alloc (by simp; omega) _), ((cells_new w #[.int .i32 S, .int .i32 U, .int .i32 F] t1).alloc _).alloc _, by simpa using (cells_new (w.alloc (.cells #[.int .i32 S, .int .i32 U, .int .i32 F] t1)) #[.int .i32 r, .int .i64 m, .int .i32 P, .int .i32 I, .int .i32 D, .int .i32 lo, .int .i32 hi] t2).alloc (.cells #[.int .i32 g, .int .i32 s, .int .i32 t, .int .i32 v] t3), by simpa using cells_new ((w.alloc (.cells #[.int .i32 S, .int .i32 U, .int .i32 F] t1)).alloc (.cells #[.int .i32 r, .int .i64 m, .int .i32 P, .int .i32 I, .int .i32 D, .int .i32 lo, .int .i32 hi] t2)) #[.int .i32 g, .int .i32 s, .int .i32 t, .int .i32 v] t3⟩
theorem Sz.facts {w : World} {S U F r m P I D lo hi g s t v : Int} {W : World} (h : Sz w S U F r m P I D lo hi g s t v W) :
    (W.cell? ⟨w.heap.size, 0, none⟩ = some (.int .i32 S) ∧ W.cell? ⟨w.heap.size, 1, none⟩ = some (.int .i32 U) ∧ W.cell? ⟨w.heap.size, 2, none⟩ = some (.int .i32 F)) ∧ (W.cell? ⟨w.heap.size + 1, 0, none⟩ = some (.int .i32 r) ∧ W.cell? ⟨w.heap.size + 1, 1, none⟩ = some (.int .i64 m) ∧ W.cell? ⟨w.heap.size + 1, 2, none⟩ = some (.int .i32 P) ∧ W.cell? ⟨w.heap.size + 1, 3, none⟩ = some (.int .i32 I) ∧ W.cell? ⟨w.heap.size + 1, 4, none⟩ = some (.int .i32 D) ∧ W.cell? ⟨w.heap.size + 1, 5, none⟩ = some (.int .i32 lo) ∧ W.cell? ⟨w.heap.size + 1, 6, none⟩ = some (.int .i32 hi)) ∧ W.cell? ⟨w.heap.size + 1 + 1, 0, none⟩ = some (.int .i32 g) ∧ W.cell? ⟨w.heap.size + 1 + 1, 1, none⟩ = some (.int .i32 s) ∧ W.cell? ⟨w.heap.size + 1 + 1, 2, none⟩ = some (.int .i32 t) ∧ W.cell? ⟨w.heap.size + 1 + 1, 3, none⟩ = some (.int .i32 v) :=
  ⟨⟨h.sn.cell 0 _ rfl, h.sn.cell 1 _ rfl, h.sn.cell 2 _ rfl⟩, ⟨h.sv.cell 0 _ rfl, h.sv.cell 1 _ rfl, h.sv.cell 2 _ rfl, h.sv.cell 3 _ rfl, h.sv.cell 4 _ rfl, h.sv.cell 5 _ rfl, h.sv.cell 6 _ rfl⟩, h.dr.cell 0 _ rfl, h.dr.cell 1 _ rfl, h.dr.cell 2 _ rfl, h.dr.cell 3 _ rfl⟩

theorem sense_any (a b S U F : Int) (ha : I32 a) (hb : I32 b) (hS : I32 S) (hU : I32 U) (hF : I32 F) : ∃ (X : Int) (K : Bool) (E : Int), (∀ W, Calls Try.prog 6 #[.int .i32 a, .int .i32 b, .agg #[.int .i32 S, .int .i32 U, .int .i32 F]] W fun r w' => r = .returned (.tuple #[.int .i32 X, .bool K, .int .i64 E]) ∧ Below W.heap.size W w') ∧ (∀ W, Calls Try.prog 7 #[.int .i32 a, .int .i32 b, .agg #[.int .i32 S, .int .i32 U, .int .i32 F]] W fun r w' => r = .returned (.tuple #[.int .i32 X, .bool K, .int .i64 E]) ∧ Below W.heap.size W w') := by
  by_cases h : OkS S U F
  · by_cases h2 : Fits a b S U
    · exact ⟨_, _, _, fun W => sense_yes _ _ _ _ _ W ha hb hS hU hF h h2, fun W => rsense_yes _ _ _ _ _ W ha hb hS hU hF h h2⟩
    · exact ⟨_, _, _, fun W => sense_no _ _ _ _ _ W ha hb hS hU h h2, fun W => rsense_no _ _ _ _ _ W ha hb hS hU h h2⟩
  · exact ⟨_, _, _, fun W => sense_bad _ _ _ _ _ W h, fun W => rsense_bad _ _ _ _ _ W h⟩

set_option maxHeartbeats 8000000 in
set_option maxRecDepth 100000 in
theorem walk_bad (a b S U F r m P I D lo hi g s t v x p X : Int) (K : Bool) (E : Int) (w : World) (C1 : Hid (∀ W, Calls Try.prog 6 #[.int .i32 a, .int .i32 b, .agg #[.int .i32 S, .int .i32 U, .int .i32 F]] W fun r w' => r = .returned (.tuple #[.int .i32 X, .bool K, .int .i64 E]) ∧ Below W.heap.size W w')) (C2 : Hid (∀ W, Calls Try.prog 7 #[.int .i32 a, .int .i32 b, .agg #[.int .i32 S, .int .i32 U, .int .i32 F]] W fun r w' => r = .returned (.tuple #[.int .i32 X, .bool K, .int .i64 E]) ∧ Below W.heap.size W w')) (h : ¬ (OkV r m ∧ lo ≤ s ∧ s ≤ hi)) :
    Calls Try.prog 3 #[.int .i32 a, .int .i32 b, .agg #[.int .i32 S, .int .i32 U, .int .i32 F], .agg #[.int .i32 r, .int .i64 m, .int .i32 P, .int .i32 I, .int .i32 D, .int .i32 lo, .int .i32 hi], .agg #[.int .i32 g, .int .i32 s, .int .i32 t, .int .i32 v], .int .i32 x, .int .i32 p] w fun r w' => r = .returned (.bool true) ∧ Below w.heap.size w w' := by
  have B0 : Hid (_) := sz_new w S U F r m P I D lo hi g s t v 23 27 31
  have C3 : Hid (_) := fun W => rsrvErr_bad r m P I D lo hi g s t v W h
  have C4 : Hid (_) := fun W => srvStep_bad r m P I D lo hi g s t v x p W h
  have C5 : Hid (_) := fun W => srvCheck_bad r m P I D lo hi g s t v W h
  clear h
  go_enter Try.func3, Try.ntmps3
  go_wp2_with fail
  refine (C1.out _).mono ?_
  rintro e' w1 ⟨rfl, hb⟩
  have B1 : Hid (_) := B0.out.step hb
  clear hb B0
  obtain ⟨⟨n0, n1, n2⟩, ⟨p0, p1, p2, p3, p4, p5, p6⟩, s0, s1, s2, s3⟩ := B1.out.facts
  go_wp2_with fail
  refine (C2.out _).mono ?_
  rintro e' w2 ⟨rfl, hb⟩
  have B2 : Hid (_) := B1.out.step hb
  clear hb B1 n0 n1 n2 p0 p1 p2 p3 p4 p5 p6 s0 s1 s2 s3
  obtain ⟨⟨n0, n1, n2⟩, ⟨p0, p1, p2, p3, p4, p5, p6⟩, s0, s1, s2, s3⟩ := B2.out.facts
  go_wp2_with fail
  refine (C3.out _).mono ?_
  rintro e' w3 ⟨rfl, hb⟩
  have B3 : Hid (_) := B2.out.step hb
  clear hb B2 n0 n1 n2 p0 p1 p2 p3 p4 p5 p6 s0 s1 s2 s3
  obtain ⟨⟨n0, n1, n2⟩, ⟨p0, p1, p2, p3, p4, p5, p6⟩, s0, s1, s2, s3⟩ := B3.out.facts
  go_wp2_with fail
  refine (C4.out _).mono ?_
  rintro e' w4 ⟨rfl, hb⟩
  have B4 : Hid (_) := (B3.out.step hb).alloc (.cells #[.int .i32 0, .int .i32 0, .int .i32 0, .int .i32 0] 31)
  have X4 : Hid (_) := cells_new w4 #[.int .i32 0, .int .i32 0, .int .i32 0, .int .i32 0] 31
  clear hb B3 n0 n1 n2 p0 p1 p2 p3 p4 p5 p6 s0 s1 s2 s3
  go_upto_region 5 with (fail)
  generalize w4.alloc (.cells #[.int .i32 0, .int .i32 0, .int .i32 0, .int .i32 0] 31) = w5 at *
  generalize w4.heap.size = N at *
  obtain ⟨⟨n0, n1, n2⟩, ⟨p0, p1, p2, p3, p4, p5, p6⟩, s0, s1, s2, s3⟩ := B4.out.facts
  go_wp2_with fail
  refine (C5.out _).mono ?_
  rintro e' w6 ⟨rfl, hb⟩
  have B5 : Hid (_) := B4.out.step hb
  have X5 : Hid (_) := X4.out.step hb
  clear hb B4 X4 n0 n1 n2 p0 p1 p2 p3 p4 p5 p6 s0 s1 s2 s3
  obtain ⟨⟨n0, n1, n2⟩, ⟨p0, p1, p2, p3, p4, p5, p6⟩, s0, s1, s2, s3⟩ := B5.out.facts
  go_wp2_with fail
  refine (rest_any g s t v p _).mono ?_
  rintro e' w7 ⟨rfl, hb⟩
  have B6 : Hid (_) := B5.out.step hb
  have X6 : Hid (_) := X5.out.step hb
  clear hb B5 X5 n0 n1 n2 p0 p1 p2 p3 p4 p5 p6 s0 s1 s2 s3
  have x0 := X6.out.cell 0 _ rfl
  have x1 := X6.out.cell 1 _ rfl
  have x2 := X6.out.cell 2 _ rfl
  have x3 := X6.out.cell 3 _ rfl
  go_wp2_with fail
  go_ret
  exact ⟨rfl, B6.out.bel⟩

set_option maxHeartbeats 8000000 in
set_option maxRecDepth 100000 in
theorem walk_ok (a b S U F r m P I D lo hi g s t v x p X : Int) (K : Bool) (E : Int) (w : World) (C1 : Hid (∀ W, Calls Try.prog 6 #[.int .i32 a, .int .i32 b, .agg #[.int .i32 S, .int .i32 U, .int .i32 F]] W fun r w' => r = .returned (.tuple #[.int .i32 X, .bool K, .int .i64 E]) ∧ Below W.heap.size W w')) (C2 : Hid (∀ W, Calls Try.prog 7 #[.int .i32 a, .int .i32 b, .agg #[.int .i32 S, .int .i32 U, .int .i32 F]] W fun r w' => r = .returned (.tuple #[.int .i32 X, .bool K, .int .i64 E]) ∧ Below W.heap.size W w')) (G : GI P I D lo hi) (Q : SI r g t v x p) (h : OkV r m) (h1 : lo ≤ s) (h2 : s ≤ hi) :
    Calls Try.prog 3 #[.int .i32 a, .int .i32 b, .agg #[.int .i32 S, .int .i32 U, .int .i32 F], .agg #[.int .i32 r, .int .i64 m, .int .i32 P, .int .i32 I, .int .i32 D, .int .i32 lo, .int .i32 hi], .agg #[.int .i32 g, .int .i32 s, .int .i32 t, .int .i32 v], .int .i32 x, .int .i32 p] w fun r w' => r = .returned (.bool true) ∧ Below w.heap.size w w' := by
  have B0 : Hid (_) := sz_new w S U F r m P I D lo hi g s t v 23 27 31
  obtain ⟨q, hq⟩ : ∃ q, rateI g x r = q := ⟨_, rfl⟩
  obtain ⟨e, he⟩ : ∃ e, s32 (q - p) = e := ⟨_, rfl⟩
  obtain ⟨s', hs⟩ : ∃ z, stS P I D lo hi s t e = z := ⟨_, rfl⟩
  obtain ⟨o, ho⟩ : ∃ z, stO P I D lo hi s t e = z := ⟨_, rfl⟩
  obtain ⟨y, hy⟩ : ∃ z, lowI v o m.toNat = z := ⟨_, rfl⟩
  have C3 : Hid (_) := fun W => rsrvErr_ok r m P I D lo hi g s t v W h h1 h2
  have C4 : Hid (_) := fun W => srvStep_ok r m P I D lo hi g s t v x p W G Q h h1 h2 q e s' o y hq he hs ho hy
  have C5 : Hid (_) := fun W => srvCheck_ok r m P I D lo hi g s t v W h h1 h2
  have C6 : Hid (_) := fun W => rsrvStep_ok r m P I D lo hi g s t v x p W G Q h h1 h2 q e s' o y hq he hs ho hy
  clear G Q h h1 h2 hq he hs ho hy
  go_enter Try.func3, Try.ntmps3
  go_wp2_with fail
  refine (C1.out _).mono ?_
  rintro e' w1 ⟨rfl, hb⟩
  have B1 : Hid (_) := B0.out.step hb
  clear hb B0
  obtain ⟨⟨n0, n1, n2⟩, ⟨p0, p1, p2, p3, p4, p5, p6⟩, s0, s1, s2, s3⟩ := B1.out.facts
  go_wp2_with fail
  refine (C2.out _).mono ?_
  rintro e' w2 ⟨rfl, hb⟩
  have B2 : Hid (_) := B1.out.step hb
  clear hb B1 n0 n1 n2 p0 p1 p2 p3 p4 p5 p6 s0 s1 s2 s3
  obtain ⟨⟨n0, n1, n2⟩, ⟨p0, p1, p2, p3, p4, p5, p6⟩, s0, s1, s2, s3⟩ := B2.out.facts
  go_wp2_with fail
  refine (C3.out _).mono ?_
  rintro e' w3 ⟨rfl, hb⟩
  have B3 : Hid (_) := B2.out.step hb
  clear hb B2 n0 n1 n2 p0 p1 p2 p3 p4 p5 p6 s0 s1 s2 s3
  obtain ⟨⟨n0, n1, n2⟩, ⟨p0, p1, p2, p3, p4, p5, p6⟩, s0, s1, s2, s3⟩ := B3.out.facts
  go_wp2_with fail
  refine (C4.out _).mono ?_
  rintro e' w4 ⟨rfl, hb⟩
  have B4 : Hid (_) := (B3.out.step hb).alloc (.cells #[.int .i32 q, .int .i32 s', .int .i32 e, .int .i32 y] 31)
  have X4 : Hid (_) := cells_new w4 #[.int .i32 q, .int .i32 s', .int .i32 e, .int .i32 y] 31
  clear hb B3 n0 n1 n2 p0 p1 p2 p3 p4 p5 p6 s0 s1 s2 s3
  go_upto_region 5 with (fail)
  generalize w4.alloc (.cells #[.int .i32 q, .int .i32 s', .int .i32 e, .int .i32 y] 31) = w5 at *
  generalize w4.heap.size = N at *
  obtain ⟨⟨n0, n1, n2⟩, ⟨p0, p1, p2, p3, p4, p5, p6⟩, s0, s1, s2, s3⟩ := B4.out.facts
  go_wp2_with fail
  refine (C5.out _).mono ?_
  rintro e' w6 ⟨rfl, hb⟩
  have B5 : Hid (_) := B4.out.step hb
  have X5 : Hid (_) := X4.out.step hb
  clear hb B4 X4 n0 n1 n2 p0 p1 p2 p3 p4 p5 p6 s0 s1 s2 s3
  obtain ⟨⟨n0, n1, n2⟩, ⟨p0, p1, p2, p3, p4, p5, p6⟩, s0, s1, s2, s3⟩ := B5.out.facts
  go_wp2_with fail
  refine (rest_any g s t v p _).mono ?_
  rintro e' w7 ⟨rfl, hb⟩
  have B6 : Hid (_) := B5.out.step hb
  have X6 : Hid (_) := X5.out.step hb
  clear hb B5 X5 n0 n1 n2 p0 p1 p2 p3 p4 p5 p6 s0 s1 s2 s3
  obtain ⟨⟨n0, n1, n2⟩, ⟨p0, p1, p2, p3, p4, p5, p6⟩, s0, s1, s2, s3⟩ := B6.out.facts
  go_wp2_with fail
  refine (C6.out _).mono ?_
  rintro e' w8 ⟨rfl, hb⟩
  have B7 : Hid (_) := B6.out.step hb
  have X7 : Hid (_) := X6.out.step hb
  clear hb B6 X6 n0 n1 n2 p0 p1 p2 p3 p4 p5 p6 s0 s1 s2 s3
  have x0 := X7.out.cell 0 _ rfl
  have x1 := X7.out.cell 1 _ rfl
  have x2 := X7.out.cell 2 _ rfl
  have x3 := X7.out.cell 3 _ rfl
  have lx := X7.out.lt
  go_wp2_with fail
  go_ret
  exact ⟨rfl, (B7.out.alloc _).bel⟩

theorem walk (a : Int) (b : Int) (nSum : Int) (nWide : Int) (nFull : Int) (cRate : Int) (cSoft : Int) (cGainP : Int) (cGainI : Int) (cGainD : Int) (cGainLow : Int) (cGainHigh : Int) (sGoal : Int) (sPidSum : Int) (sPidLast : Int) (sValve : Int) (want : Int) (pos : Int) (w : World) (h_a : (Lit.int .i32 a).wf = true) (h_b : (Lit.int .i32 b).wf = true) (h_nSum : (Lit.int .i32 nSum).wf = true) (h_nWide : (Lit.int .i32 nWide).wf = true) (h_nFull : (Lit.int .i32 nFull).wf = true) (h_cRate : (Lit.int .i32 cRate).wf = true) (h_cSoft : (Lit.int .i64 cSoft).wf = true) (h_cGainP : (Lit.int .i32 cGainP).wf = true) (h_cGainI : (Lit.int .i32 cGainI).wf = true) (h_cGainD : (Lit.int .i32 cGainD).wf = true) (h_cGainLow : (Lit.int .i32 cGainLow).wf = true) (h_cGainHigh : (Lit.int .i32 cGainHigh).wf = true) (h_sGoal : (Lit.int .i32 sGoal).wf = true) (h_sPidSum : (Lit.int .i32 sPidSum).wf = true) (h_sPidLast : (Lit.int .i32 sPidLast).wf = true) (h_sValve : (Lit.int .i32 sValve).wf = true) (h_want : (Lit.int .i32 want).wf = true) (h_pos : (Lit.int .i32 pos).wf = true) :
    Calls Try.prog 3 #[.int .i32 a, .int .i32 b, .agg #[.int .i32 nSum, .int .i32 nWide, .int .i32 nFull], .agg #[.int .i32 cRate, .int .i64 cSoft, .int .i32 cGainP, .int .i32 cGainI, .int .i32 cGainD, .int .i32 cGainLow, .int .i32 cGainHigh], .agg #[.int .i32 sGoal, .int .i32 sPidSum, .int .i32 sPidLast, .int .i32 sValve], .int .i32 want, .int .i32 pos] w fun e w' => e = .returned (.bool true) ∧ Below w.heap.size w w' := by
  obtain ⟨X, K, E, C1, C2⟩ := sense_any a b nSum nWide nFull (i32_of h_a) (i32_of h_b) (i32_of h_nSum) (i32_of h_nWide) (i32_of h_nFull)
  by_cases h : OkV cRate cSoft ∧ cGainLow ≤ sPidSum ∧ sPidSum ≤ cGainHigh
  · exact walk_ok _ _ _ _ _ _ _ _ _ _ _ _ _ _ _ _ _ _ X K E w C1 C2 ⟨i32_of h_cGainP, i32_of h_cGainI, i32_of h_cGainD, i32_of h_cGainLow, i32_of h_cGainHigh⟩ ⟨i32_of h_cRate, i32_of h_sGoal, i32_of h_sPidLast, i32_of h_sValve, i32_of h_want, i32_of h_pos⟩ h.1 h.2.1 h.2.2
  · exact walk_bad _ _ _ _ _ _ _ _ _ _ _ _ _ _ _ _ _ _ X K E w C1 C2 h

/-! ### THE ROW's STEP -/
set_option maxRecDepth 100000 in
theorem lifted (os : Os) (started : os.Started) (H : Type) (enc : TypeId × Value → H) :
    ReturnsInHanded {} Try.checked os 3 .any (Rows.servoSaysSpec.pre6 enc Try.prog Try.f3 Rows.servoSaysRow.domain false) (Rows.servoSaysSpec.post enc Try.prog Try.f3 false true false false) := by
  refine returnsInHanded_of_change_sized (C := Try.checked) own started (by kernel_rfl) Try.func3
    (ChangeSpec.witness6 (enc := enc) (C := Try.checked) false ⟨#[], #[.int .i32 0, .int .i32 0, .agg #[.int .i32 0, .int .i32 0, .int .i32 0], .agg #[.int .i32 0, .int .i64 0, .int .i32 0, .int .i32 0, .int .i32 0, .int .i32 0, .int .i32 0], .agg #[.int .i32 0, .int .i32 0, .int .i32 0, .int .i32 0], .int .i32 0, .int .i32 0], []⟩ 8 (by kernel_rfl) (by kernel_rfl) (by kernel_rfl) (by kernel_rfl)) ?_
  intro W base args ds gs before hval0 hW hcnd hsz0 _
  have hval : ∀ (j : Nat) t v, Try.f3.params[j]? = some t → args[j]? = some v → Value.okWide Try.prog W .any base t v := hval0
  have hW' := hW
  obtain ⟨p, q, hA0, hV, rfl, hfz, hnd⟩ := hW
  have hA : DataW.TrodAll enc Try.prog W 0 (fun _ => true) true Try.f3.params.toList args.toList ds p := hA0
  rw [Try.params3] at hA hval
  obtain ⟨v_0, vs_0, d_0, ds_0, p_0, q_0, hargs, rfl, rfl, h_0, r_0⟩ := trodAll_cons hA
  obtain ⟨v_1, vs_1, d_1, ds_1, p_1, q_1, rfl, rfl, rfl, h_1, r_1⟩ := trodAll_cons r_0
  obtain ⟨v_2, vs_2, d_2, ds_2, p_2, q_2, rfl, rfl, rfl, h_2, r_2⟩ := trodAll_cons r_1
  obtain ⟨v_3, vs_3, d_3, ds_3, p_3, q_3, rfl, rfl, rfl, h_3, r_3⟩ := trodAll_cons r_2
  obtain ⟨v_4, vs_4, d_4, ds_4, p_4, q_4, rfl, rfl, rfl, h_4, r_4⟩ := trodAll_cons r_3
  obtain ⟨v_5, vs_5, d_5, ds_5, p_5, q_5, rfl, rfl, rfl, h_5, r_5⟩ := trodAll_cons r_4
  obtain ⟨v_6, vs_6, d_6, ds_6, p_6, q_6, rfl, rfl, rfl, h_6, r_6⟩ := trodAll_cons r_5
  obtain ⟨rfl, rfl, rfl⟩ := trodAll_nil r_6
  obtain rfl : args = #[v_0, v_1, v_2, v_3, v_4, v_5, v_6] := by cases args; simp_all
  obtain ⟨rfl, rfl⟩ := trodVars_none hV
  have hz_0 : Light Try.prog 21 d_0 := light_of hsz0 (j := 0) (by first | rfl | (rw [Try.params3]; rfl)) rfl
  have k_0 := h_0
  have lt_0 : ∀ x ∈ p_0, x.block < W.heap.size := by obtain ⟨m, hm⟩ := k_0; exact DataW.trod_lt m _ _ _ hm
  obtain ⟨a, rfl, rfl, rfl, h_a⟩ := open_int Try.underlying21 (hval 0 21 v_0 rfl rfl) h_0
  have hz_1 : Light Try.prog 21 d_1 := light_of hsz0 (j := 1) (by first | rfl | (rw [Try.params3]; rfl)) rfl
  have k_1 := h_1
  have lt_1 : ∀ x ∈ p_1, x.block < W.heap.size := by obtain ⟨m, hm⟩ := k_1; exact DataW.trod_lt m _ _ _ hm
  obtain ⟨b, rfl, rfl, rfl, h_b⟩ := open_int Try.underlying21 (hval 1 21 v_1 rfl rfl) h_1
  have hz_2 : Light Try.prog 23 d_2 := light_of hsz0 (j := 2) (by first | rfl | (rw [Try.params3]; rfl)) rfl
  have k_2 := h_2
  have lt_2 : ∀ x ∈ p_2, x.block < W.heap.size := by obtain ⟨m, hm⟩ := k_2; exact DataW.trod_lt m _ _ _ hm
  obtain ⟨cs_2, rfl, _⟩ := okWide_struct Try.underlying23 (hval 2 23 v_2 rfl rfl)
  obtain ⟨nSum, nWide, nFull, e_2, h_nSum, h_nWide, h_nFull⟩ := (by obtain ⟨fuel, hf⟩ := h_2; exact open23 hf hz_2 : ∃ nSum : Int, ∃ nWide : Int, ∃ nFull : Int, cs_2.toList = [.int .i32 nSum, .int .i32 nWide, .int .i32 nFull] ∧ (Lit.int .i32 nSum).wf = true ∧ (Lit.int .i32 nWide).wf = true ∧ (Lit.int .i32 nFull).wf = true)
  obtain rfl : cs_2 = #[.int .i32 nSum, .int .i32 nWide, .int .i32 nFull] := by cases cs_2; simp_all
  clear e_2
  have hz_3 : Light Try.prog 27 d_3 := light_of hsz0 (j := 3) (by first | rfl | (rw [Try.params3]; rfl)) rfl
  have k_3 := h_3
  have lt_3 : ∀ x ∈ p_3, x.block < W.heap.size := by obtain ⟨m, hm⟩ := k_3; exact DataW.trod_lt m _ _ _ hm
  obtain ⟨cs_3, rfl, _⟩ := okWide_struct Try.underlying27 (hval 3 27 v_3 rfl rfl)
  obtain ⟨cRate, cSoft, cGainP, cGainI, cGainD, cGainLow, cGainHigh, e_3, h_cRate, h_cSoft, h_cGainP, h_cGainI, h_cGainD, h_cGainLow, h_cGainHigh⟩ := (by obtain ⟨fuel, hf⟩ := h_3; exact open27 hf hz_3 : ∃ cRate : Int, ∃ cSoft : Int, ∃ cGainP : Int, ∃ cGainI : Int, ∃ cGainD : Int, ∃ cGainLow : Int, ∃ cGainHigh : Int, cs_3.toList = [.int .i32 cRate, .int .i64 cSoft, .int .i32 cGainP, .int .i32 cGainI, .int .i32 cGainD, .int .i32 cGainLow, .int .i32 cGainHigh] ∧ (Lit.int .i32 cRate).wf = true ∧ (Lit.int .i64 cSoft).wf = true ∧ (Lit.int .i32 cGainP).wf = true ∧ (Lit.int .i32 cGainI).wf = true ∧ (Lit.int .i32 cGainD).wf = true ∧ (Lit.int .i32 cGainLow).wf = true ∧ (Lit.int .i32 cGainHigh).wf = true)
  obtain rfl : cs_3 = #[.int .i32 cRate, .int .i64 cSoft, .int .i32 cGainP, .int .i32 cGainI, .int .i32 cGainD, .int .i32 cGainLow, .int .i32 cGainHigh] := by cases cs_3; simp_all
  clear e_3
  have hz_4 : Light Try.prog 31 d_4 := light_of hsz0 (j := 4) (by first | rfl | (rw [Try.params3]; rfl)) rfl
  have k_4 := h_4
  have lt_4 : ∀ x ∈ p_4, x.block < W.heap.size := by obtain ⟨m, hm⟩ := k_4; exact DataW.trod_lt m _ _ _ hm
  obtain ⟨cs_4, rfl, _⟩ := okWide_struct Try.underlying31 (hval 4 31 v_4 rfl rfl)
  obtain ⟨sGoal, sPidSum, sPidLast, sValve, e_4, h_sGoal, h_sPidSum, h_sPidLast, h_sValve⟩ := (by obtain ⟨fuel, hf⟩ := h_4; exact open31 hf hz_4 : ∃ sGoal : Int, ∃ sPidSum : Int, ∃ sPidLast : Int, ∃ sValve : Int, cs_4.toList = [.int .i32 sGoal, .int .i32 sPidSum, .int .i32 sPidLast, .int .i32 sValve] ∧ (Lit.int .i32 sGoal).wf = true ∧ (Lit.int .i32 sPidSum).wf = true ∧ (Lit.int .i32 sPidLast).wf = true ∧ (Lit.int .i32 sValve).wf = true)
  obtain rfl : cs_4 = #[.int .i32 sGoal, .int .i32 sPidSum, .int .i32 sPidLast, .int .i32 sValve] := by cases cs_4; simp_all
  clear e_4
  have hz_5 : Light Try.prog 21 d_5 := light_of hsz0 (j := 5) (by first | rfl | (rw [Try.params3]; rfl)) rfl
  have k_5 := h_5
  have lt_5 : ∀ x ∈ p_5, x.block < W.heap.size := by obtain ⟨m, hm⟩ := k_5; exact DataW.trod_lt m _ _ _ hm
  obtain ⟨want, rfl, rfl, rfl, h_want⟩ := open_int Try.underlying21 (hval 5 21 v_5 rfl rfl) h_5
  have hz_6 : Light Try.prog 21 d_6 := light_of hsz0 (j := 6) (by first | rfl | (rw [Try.params3]; rfl)) rfl
  have k_6 := h_6
  have lt_6 : ∀ x ∈ p_6, x.block < W.heap.size := by obtain ⟨m, hm⟩ := k_6; exact DataW.trod_lt m _ _ _ hm
  obtain ⟨pos, rfl, rfl, rfl, h_pos⟩ := open_int Try.underlying21 (hval 6 21 v_6 rfl rfl) h_6
  clear hA0 hval0
  refine (walk a b nSum nWide nFull cRate cSoft cGainP cGainI cGainD cGainLow cGainHigh sGoal sPidSum sPidLast sValve want pos W h_a h_b h_nSum h_nWide h_nFull h_cRate h_cSoft h_cGainP h_cGainI h_cGainD h_cGainLow h_cGainHigh h_sGoal h_sPidSum h_sPidLast h_sValve h_want h_pos).mono fun e W' ⟨he, bel⟩ => ?_
  subst he
  exact ⟨_, rfl, _, _, _, [], _, [], hW', trodAll_mk1 (shut_bool Try.underlying4 _), (trodAll_cons_mk (Below.trod laidOut (by kernel_rfl) (of_decide_eq_true (by kernel_rfl)) k_0 bel lt_0) (trodAll_cons_mk (Below.trod laidOut (by kernel_rfl) (of_decide_eq_true (by kernel_rfl)) k_1 bel lt_1) (trodAll_cons_mk (Below.trod laidOut (by kernel_rfl) (of_decide_eq_true (by kernel_rfl)) k_2 bel lt_2) (trodAll_cons_mk (Below.trod laidOut (by kernel_rfl) (of_decide_eq_true (by kernel_rfl)) k_3 bel lt_3) (trodAll_cons_mk (Below.trod laidOut (by kernel_rfl) (of_decide_eq_true (by kernel_rfl)) k_4 bel lt_4) (trodAll_cons_mk (Below.trod laidOut (by kernel_rfl) (of_decide_eq_true (by kernel_rfl)) k_5 bel lt_5) (trodAll_cons_mk (Below.trod laidOut (by kernel_rfl) (of_decide_eq_true (by kernel_rfl)) k_6 bel lt_6) trodAll_mk0))))))), rfl, bel.frame _, fun h => by cases h⟩

theorem over : Rows.servoSaysRow.holds Try.pinned (OpenSpec.ofChange Rows.servoSaysSpec) :=
  OpenClaim.holds_of_wide 3 Try.f3 rfl rfl rfl rfl rfl rfl rfl ⟨rfl, rfl, rfl, rfl, rfl⟩ rfl rfl rfl rfl rfl (by kernel_rfl) Try.func3 (by kernel_rfl)
    (of_decide_eq_true (by kernel_rfl)) (by unfold Func.isWrapper; first | (rw [if_pos (by decide +kernel)]; kernel_rfl) | (rw [if_neg (by decide +kernel)]; exact ⟨rfl, rfl⟩))
    (fun os started H enc _ => lifted os started H enc)


end Go.Proofs.Ytbpenfjnfoljoaa.servoSays
namespace Go.Proofs.Ytbpenfjnfoljoaa
/-- THE STATEMENT -/
theorem servoSays_holds : Rows.ServoSaysSaid := servoSays.over
#print axioms servoSays_holds
end Go.Proofs.Ytbpenfjnfoljoaa
