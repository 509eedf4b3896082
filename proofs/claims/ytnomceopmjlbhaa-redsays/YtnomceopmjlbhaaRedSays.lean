/-
  Whatever is handed in, the law RedSays returns true: all calls of package red answer what the document says. No condition.
-/
import Derived.Test.YtnomceopmjlbhaaRedMath
import Derived.Test.YtnomceopmjlbhaaRedEq
import Derived.Test.YtnomceopmjlbhaaOpenZ
import Derived.Deep.RegionHeld3
import Derived.ProofKit
namespace Go.Proofs.Ytnomceopmjlbhaa.redSays
open Go.ChangeShapes Go.WideShapes Go.ChangeAt Go.RowKit
set_option linter.unusedVariables false

theorem own : ownKnob Try.prog.godebug = none := by kernel_rfl
theorem laidOut : laidOutB Try.prog = true := by kernel_rfl

theorem list3 {l : List Value} (h : l.length = 3) : ∃ c0 c1 c2, l = [c0, c1, c2] := by
  match l, h with
  | [c0, c1, c2], _ => exact ⟨c0, c1, c2, rfl⟩

theorem list4 {l : List Value} (h : l.length = 4) : ∃ c0 c1 c2 c3, l = [c0, c1, c2, c3] := by
  match l, h with
  | [c0, c1, c2, c3], _ => exact ⟨c0, c1, c2, c3, rfl⟩

theorem list12 {l : List Value} (h : l.length = 12) : ∃ c0 c1 c2 c3 c4 c5 c6 c7 c8 c9 c10 c11, l = [c0, c1, c2, c3, c4, c5, c6, c7, c8, c9, c10, c11] := by
  match l, h with
  | [c0, c1, c2, c3, c4, c5, c6, c7, c8, c9, c10, c11], _ => exact ⟨c0, c1, c2, c3, c4, c5, c6, c7, c8, c9, c10, c11, rfl⟩

theorem open23 {H : Type} {enc : TypeId × Value → H} {w : World} {base : Nat} {spare : Nat → Bool} {held : Bool} {fuel : Nat} {cs : List Value} {x : DataW H × List MemPlace} (h : DataW.trod enc Try.prog w base spare held fuel 23 cs = some x) (hz : Light Try.prog 23 x.1) :
    ∃ vMode : Int, ∃ vFailed : Bool, ∃ vFor : Int, cs = [.int .i64 vMode, .bool vFailed, .int .i64 vFor] ∧ (Lit.int .i64 vMode).wf = true ∧ (Lit.int .i64 vFor).wf = true := by
  obtain ⟨hl, hf⟩ := trod_field_z Try.underlying23 h hz
  rw [show Try.prog.cellsOf 23 = 3 from by kernel_rfl] at hl
  obtain ⟨c0, c1, c2, rfl⟩ := list3 hl
  obtain ⟨n0, y0, h0, z0⟩ := hf 0 _ rfl
  replace h0 : DataW.trod enc Try.prog w base spare held n0 3 (([c0, c1, c2] : List Value).drop 0 |>.take (Try.prog.cellsOf 3)) = some y0 := h0
  rw [show Try.prog.cellsOf 3 = 1 from by kernel_rfl] at h0
  replace h0 : DataW.trod enc Try.prog w base spare held n0 3 [c0] = some y0 := h0
  obtain ⟨n1, y1, h1, z1⟩ := hf 1 _ rfl
  replace h1 : DataW.trod enc Try.prog w base spare held n1 4 (([c0, c1, c2] : List Value).drop 1 |>.take (Try.prog.cellsOf 4)) = some y1 := h1
  rw [show Try.prog.cellsOf 4 = 1 from by kernel_rfl] at h1
  replace h1 : DataW.trod enc Try.prog w base spare held n1 4 [c1] = some y1 := h1
  obtain ⟨n2, y2, h2, z2⟩ := hf 2 _ rfl
  replace h2 : DataW.trod enc Try.prog w base spare held n2 3 (([c0, c1, c2] : List Value).drop 2 |>.take (Try.prog.cellsOf 3)) = some y2 := h2
  rw [show Try.prog.cellsOf 3 = 1 from by kernel_rfl] at h2
  replace h2 : DataW.trod enc Try.prog w base spare held n2 3 [c2] = some y2 := h2
  obtain ⟨x0, e0, _, f0_0⟩ := DataW.trod_int Try.underlying3 h0
  simp only [List.cons.injEq, and_true] at e0
  obtain rfl := e0
  obtain ⟨x1, e1, _⟩ := DataW.trod_bool Try.underlying4 h1
  simp only [List.cons.injEq, and_true] at e1
  obtain rfl := e1
  obtain ⟨x2, e2, _, f2_0⟩ := DataW.trod_int Try.underlying3 h2
  simp only [List.cons.injEq, and_true] at e2
  obtain rfl := e2
  exact ⟨x0, x1, x2, rfl, f0_0, f2_0⟩

theorem open25 {H : Type} {enc : TypeId × Value → H} {w : World} {base : Nat} {spare : Nat → Bool} {held : Bool} {fuel : Nat} {cs : List Value} {x : DataW H × List MemPlace} (h : DataW.trod enc Try.prog w base spare held fuel 25 cs = some x) (hz : Light Try.prog 25 x.1) :
    ∃ v0Mode : Int, ∃ v0Failed : Bool, ∃ v0For : Int, ∃ v1Mode : Int, ∃ v1Failed : Bool, ∃ v1For : Int, ∃ v2Mode : Int, ∃ v2Failed : Bool, ∃ v2For : Int, ∃ v3Mode : Int, ∃ v3Failed : Bool, ∃ v3For : Int, cs = [.int .i64 v0Mode, .bool v0Failed, .int .i64 v0For, .int .i64 v1Mode, .bool v1Failed, .int .i64 v1For, .int .i64 v2Mode, .bool v2Failed, .int .i64 v2For, .int .i64 v3Mode, .bool v3Failed, .int .i64 v3For] ∧ (Lit.int .i64 v0Mode).wf = true ∧ (Lit.int .i64 v0For).wf = true ∧ (Lit.int .i64 v1Mode).wf = true ∧ (Lit.int .i64 v1For).wf = true ∧ (Lit.int .i64 v2Mode).wf = true ∧ (Lit.int .i64 v2For).wf = true ∧ (Lit.int .i64 v3Mode).wf = true ∧ (Lit.int .i64 v3For).wf = true := by
  obtain ⟨hl, hf⟩ := trod_elem_z Try.underlying25 h hz
  rw [show Try.prog.cellsOf 25 = 12 from by kernel_rfl] at hl
  obtain ⟨c0, c1, c2, c3, c4, c5, c6, c7, c8, c9, c10, c11, rfl⟩ := list12 hl
  obtain ⟨n0, y0, h0, z0⟩ := hf 0 (by decide)
  replace h0 : DataW.trod enc Try.prog w base spare held n0 23 (([c0, c1, c2, c3, c4, c5, c6, c7, c8, c9, c10, c11] : List Value).drop (0 * Try.prog.cellsOf 23) |>.take (Try.prog.cellsOf 23)) = some y0 := h0
  rw [show Try.prog.cellsOf 23 = 3 from by kernel_rfl] at h0
  replace h0 : DataW.trod enc Try.prog w base spare held n0 23 [c0, c1, c2] = some y0 := h0
  obtain ⟨n1, y1, h1, z1⟩ := hf 1 (by decide)
  replace h1 : DataW.trod enc Try.prog w base spare held n1 23 (([c0, c1, c2, c3, c4, c5, c6, c7, c8, c9, c10, c11] : List Value).drop (1 * Try.prog.cellsOf 23) |>.take (Try.prog.cellsOf 23)) = some y1 := h1
  rw [show Try.prog.cellsOf 23 = 3 from by kernel_rfl] at h1
  replace h1 : DataW.trod enc Try.prog w base spare held n1 23 [c3, c4, c5] = some y1 := h1
  obtain ⟨n2, y2, h2, z2⟩ := hf 2 (by decide)
  replace h2 : DataW.trod enc Try.prog w base spare held n2 23 (([c0, c1, c2, c3, c4, c5, c6, c7, c8, c9, c10, c11] : List Value).drop (2 * Try.prog.cellsOf 23) |>.take (Try.prog.cellsOf 23)) = some y2 := h2
  rw [show Try.prog.cellsOf 23 = 3 from by kernel_rfl] at h2
  replace h2 : DataW.trod enc Try.prog w base spare held n2 23 [c6, c7, c8] = some y2 := h2
  obtain ⟨n3, y3, h3, z3⟩ := hf 3 (by decide)
  replace h3 : DataW.trod enc Try.prog w base spare held n3 23 (([c0, c1, c2, c3, c4, c5, c6, c7, c8, c9, c10, c11] : List Value).drop (3 * Try.prog.cellsOf 23) |>.take (Try.prog.cellsOf 23)) = some y3 := h3
  rw [show Try.prog.cellsOf 23 = 3 from by kernel_rfl] at h3
  replace h3 : DataW.trod enc Try.prog w base spare held n3 23 [c9, c10, c11] = some y3 := h3
  obtain ⟨x0Mode, x0Failed, x0For, e0, f0_0, f0_1⟩ := open23 h0 z0
  simp only [List.cons.injEq, and_true] at e0
  obtain ⟨rfl, rfl, rfl⟩ := e0
  obtain ⟨x1Mode, x1Failed, x1For, e1, f1_0, f1_1⟩ := open23 h1 z1
  simp only [List.cons.injEq, and_true] at e1
  obtain ⟨rfl, rfl, rfl⟩ := e1
  obtain ⟨x2Mode, x2Failed, x2For, e2, f2_0, f2_1⟩ := open23 h2 z2
  simp only [List.cons.injEq, and_true] at e2
  obtain ⟨rfl, rfl, rfl⟩ := e2
  obtain ⟨x3Mode, x3Failed, x3For, e3, f3_0, f3_1⟩ := open23 h3 z3
  simp only [List.cons.injEq, and_true] at e3
  obtain ⟨rfl, rfl, rfl⟩ := e3
  exact ⟨x0Mode, x0Failed, x0For, x1Mode, x1Failed, x1For, x2Mode, x2Failed, x2For, x3Mode, x3Failed, x3For, rfl, f0_0, f0_1, f1_0, f1_1, f2_0, f2_1, f3_0, f3_1⟩

theorem open26 {H : Type} {enc : TypeId × Value → H} {w : World} {base : Nat} {spare : Nat → Bool} {held : Bool} {fuel : Nat} {cs : List Value} {x : DataW H × List MemPlace} (h : DataW.trod enc Try.prog w base spare held fuel 26 cs = some x) (hz : Light Try.prog 26 x.1) :
    ∃ v0 : Bool, ∃ v1 : Bool, ∃ v2 : Bool, ∃ v3 : Bool, cs = [.bool v0, .bool v1, .bool v2, .bool v3] := by
  obtain ⟨hl, hf⟩ := trod_elem_z Try.underlying26 h hz
  rw [show Try.prog.cellsOf 26 = 4 from by kernel_rfl] at hl
  obtain ⟨c0, c1, c2, c3, rfl⟩ := list4 hl
  obtain ⟨n0, y0, h0, z0⟩ := hf 0 (by decide)
  replace h0 : DataW.trod enc Try.prog w base spare held n0 4 (([c0, c1, c2, c3] : List Value).drop (0 * Try.prog.cellsOf 4) |>.take (Try.prog.cellsOf 4)) = some y0 := h0
  rw [show Try.prog.cellsOf 4 = 1 from by kernel_rfl] at h0
  replace h0 : DataW.trod enc Try.prog w base spare held n0 4 [c0] = some y0 := h0
  obtain ⟨n1, y1, h1, z1⟩ := hf 1 (by decide)
  replace h1 : DataW.trod enc Try.prog w base spare held n1 4 (([c0, c1, c2, c3] : List Value).drop (1 * Try.prog.cellsOf 4) |>.take (Try.prog.cellsOf 4)) = some y1 := h1
  rw [show Try.prog.cellsOf 4 = 1 from by kernel_rfl] at h1
  replace h1 : DataW.trod enc Try.prog w base spare held n1 4 [c1] = some y1 := h1
  obtain ⟨n2, y2, h2, z2⟩ := hf 2 (by decide)
  replace h2 : DataW.trod enc Try.prog w base spare held n2 4 (([c0, c1, c2, c3] : List Value).drop (2 * Try.prog.cellsOf 4) |>.take (Try.prog.cellsOf 4)) = some y2 := h2
  rw [show Try.prog.cellsOf 4 = 1 from by kernel_rfl] at h2
  replace h2 : DataW.trod enc Try.prog w base spare held n2 4 [c2] = some y2 := h2
  obtain ⟨n3, y3, h3, z3⟩ := hf 3 (by decide)
  replace h3 : DataW.trod enc Try.prog w base spare held n3 4 (([c0, c1, c2, c3] : List Value).drop (3 * Try.prog.cellsOf 4) |>.take (Try.prog.cellsOf 4)) = some y3 := h3
  rw [show Try.prog.cellsOf 4 = 1 from by kernel_rfl] at h3
  replace h3 : DataW.trod enc Try.prog w base spare held n3 4 [c3] = some y3 := h3
  obtain ⟨x0, e0, _⟩ := DataW.trod_bool Try.underlying4 h0
  simp only [List.cons.injEq, and_true] at e0
  obtain rfl := e0
  obtain ⟨x1, e1, _⟩ := DataW.trod_bool Try.underlying4 h1
  simp only [List.cons.injEq, and_true] at e1
  obtain rfl := e1
  obtain ⟨x2, e2, _⟩ := DataW.trod_bool Try.underlying4 h2
  simp only [List.cons.injEq, and_true] at e2
  obtain rfl := e2
  obtain ⟨x3, e3, _⟩ := DataW.trod_bool Try.underlying4 h3
  simp only [List.cons.injEq, and_true] at e3
  obtain rfl := e3
  exact ⟨x0, x1, x2, x3, rfl⟩


def z0 : Nat → St := fun _ => ⟨0, false, 0⟩

set_option maxHeartbeats 16000000 in
set_option maxRecDepth 100000 in
theorem walk_bad (t : Nat → St) (o f : Nat → Bool) (k : Int) (g : Bool) (E : Int) (N : Nat) (U : Nat → Nat) (w : World) (hE : E = 1 ∨ E = 4) (hN : N ≤ 4) (CE : Hid (∀ W, Calls Try.prog 7 #[.agg #[.int .i64 (t 0).m, .bool (t 0).f, .int .i64 (t 0).n, .int .i64 (t 1).m, .bool (t 1).f, .int .i64 (t 1).n, .int .i64 (t 2).m, .bool (t 2).f, .int .i64 (t 2).n, .int .i64 (t 3).m, .bool (t 3).f, .int .i64 (t 3).n]] W fun r w' => r = .returned (.int .i64 E) ∧ Below W.heap.size W w')) (CK : Hid (∀ W, Calls Try.prog 11 #[.agg #[.int .i64 (t 0).m, .bool (t 0).f, .int .i64 (t 0).n, .int .i64 (t 1).m, .bool (t 1).f, .int .i64 (t 1).n, .int .i64 (t 2).m, .bool (t 2).f, .int .i64 (t 2).n, .int .i64 (t 3).m, .bool (t 3).f, .int .i64 (t 3).n]] W fun r w' => r = .returned (.int .i64 E) ∧ Below W.heap.size W w'))
    (CP : Hid (∀ W, Calls Try.prog 8 #[.agg #[.int .i64 (t 0).m, .bool (t 0).f, .int .i64 (t 0).n, .int .i64 (t 1).m, .bool (t 1).f, .int .i64 (t 1).n, .int .i64 (t 2).m, .bool (t 2).f, .int .i64 (t 2).n, .int .i64 (t 3).m, .bool (t 3).f, .int .i64 (t 3).n], .agg #[.bool (o 0), .bool (o 1), .bool (o 2), .bool (o 3)], .agg #[.bool (f 0), .bool (f 1), .bool (f 2), .bool (f 3)]] W fun r w' => r = .returned (.tuple #[.agg #[.int .i64 0, .bool false, .int .i64 0, .int .i64 0, .bool false, .int .i64 0, .int .i64 0, .bool false, .int .i64 0, .int .i64 0, .bool false, .int .i64 0], .agg #[.int .i64 0, .int .i64 0, .bool false], .int .i64 E]) ∧ Below W.heap.size W w'))
    (CR : Hid (∀ W, Calls Try.prog 9 #[.agg #[.int .i64 (t 0).m, .bool (t 0).f, .int .i64 (t 0).n, .int .i64 (t 1).m, .bool (t 1).f, .int .i64 (t 1).n, .int .i64 (t 2).m, .bool (t 2).f, .int .i64 (t 2).n, .int .i64 (t 3).m, .bool (t 3).f, .int .i64 (t 3).n], .int .i64 k, .bool g] W fun r w' => r = .returned (.tuple #[.agg #[.int .i64 0, .bool false, .int .i64 0, .int .i64 0, .bool false, .int .i64 0, .int .i64 0, .bool false, .int .i64 0, .int .i64 0, .bool false, .int .i64 0], .int .i64 E]) ∧ Below W.heap.size W w'))
    (CT : Hid (∀ W, Calls Try.prog 10 #[.agg #[.int .i64 (t 0).m, .bool (t 0).f, .int .i64 (t 0).n, .int .i64 (t 1).m, .bool (t 1).f, .int .i64 (t 1).n, .int .i64 (t 2).m, .bool (t 2).f, .int .i64 (t 2).n, .int .i64 (t 3).m, .bool (t 3).f, .int .i64 (t 3).n]] W fun r w' => r = .returned (.tuple #[.agg #[.int .i64 0, .bool false, .int .i64 0, .int .i64 0, .bool false, .int .i64 0, .int .i64 0, .bool false, .int .i64 0, .int .i64 0, .bool false, .int .i64 0], .int .i64 E]) ∧ Below W.heap.size W w'))
    (CU : Hid (∀ W, Calls Try.prog 13 #[.agg #[.int .i64 (t 0).m, .bool (t 0).f, .int .i64 (t 0).n, .int .i64 (t 1).m, .bool (t 1).f, .int .i64 (t 1).n, .int .i64 (t 2).m, .bool (t 2).f, .int .i64 (t 2).n, .int .i64 (t 3).m, .bool (t 3).f, .int .i64 (t 3).n], .agg #[.bool (o 0), .bool (o 1), .bool (o 2), .bool (o 3)]] W fun e w' => ∃ a c, e = .returned (.slice a N c) ∧ RI w' a N U ∧ Below W.heap.size W w'))
    (CV : Hid (∀ W, Calls Try.prog 14 #[.agg #[.int .i64 (t 0).m, .bool (t 0).f, .int .i64 (t 0).n, .int .i64 (t 1).m, .bool (t 1).f, .int .i64 (t 1).n, .int .i64 (t 2).m, .bool (t 2).f, .int .i64 (t 2).n, .int .i64 (t 3).m, .bool (t 3).f, .int .i64 (t 3).n], .agg #[.bool (o 0), .bool (o 1), .bool (o 2), .bool (o 3)]] W fun e w' => ∃ a c, e = .returned (.slice a N c) ∧ RI w' a N U ∧ Below W.heap.size W w')) :
    Calls Try.prog 3 #[.agg #[.int .i64 (t 0).m, .bool (t 0).f, .int .i64 (t 0).n, .int .i64 (t 1).m, .bool (t 1).f, .int .i64 (t 1).n, .int .i64 (t 2).m, .bool (t 2).f, .int .i64 (t 2).n, .int .i64 (t 3).m, .bool (t 3).f, .int .i64 (t 3).n], .agg #[.bool (o 0), .bool (o 1), .bool (o 2), .bool (o 3)], .agg #[.bool (f 0), .bool (f 1), .bool (f 2), .bool (f 3)], .int .i64 k, .bool g] w fun r w' => r = .returned (.bool true) ∧ Below w.heap.size w w' := by
  have Q1 : Hid (∀ W, (Op.equalIn 10000 25 (.agg #[.int .i64 0, .bool false, .int .i64 0, .int .i64 0, .bool false, .int .i64 0, .int .i64 0, .bool false, .int .i64 0, .int .i64 0, .bool false, .int .i64 0]) (.agg #[.int .i64 0, .bool false, .int .i64 0, .int .i64 0, .bool false, .int .i64 0, .int .i64 0, .bool false, .int .i64 0, .int .i64 0, .bool false, .int .i64 0])).run Try.prog W = .ok true W) := fun W => eqT z0 W
  have B0 : Hid (_) := bxs_three w #[.int .i64 (t 0).m, .bool (t 0).f, .int .i64 (t 0).n, .int .i64 (t 1).m, .bool (t 1).f, .int .i64 (t 1).n, .int .i64 (t 2).m, .bool (t 2).f, .int .i64 (t 2).n, .int .i64 (t 3).m, .bool (t 3).f, .int .i64 (t 3).n] #[.bool (o 0), .bool (o 1), .bool (o 2), .bool (o 3)] #[.bool (f 0), .bool (f 1), .bool (f 2), .bool (f 3)] 25 26 26
  go_enter Try.func3, Try.ntmps3
  go_wp2_with fail
  refine (CE.out _).mono ?_
  rintro r w1 ⟨rfl, hb⟩
  have B1 : Hid (_) := B0.out.step hb
  clear hb B0 CE
  have cl := (B1.out.box 0 _ _ rfl).lt
  have c0 := (B1.out.box 0 _ _ rfl).cell 0 _ rfl
  have c1 := (B1.out.box 0 _ _ rfl).cell 1 _ rfl
  have c2 := (B1.out.box 0 _ _ rfl).cell 2 _ rfl
  have c3 := (B1.out.box 0 _ _ rfl).cell 3 _ rfl
  have c4 := (B1.out.box 0 _ _ rfl).cell 4 _ rfl
  have c5 := (B1.out.box 0 _ _ rfl).cell 5 _ rfl
  have c6 := (B1.out.box 0 _ _ rfl).cell 6 _ rfl
  have c7 := (B1.out.box 0 _ _ rfl).cell 7 _ rfl
  have c8 := (B1.out.box 0 _ _ rfl).cell 8 _ rfl
  have c9 := (B1.out.box 0 _ _ rfl).cell 9 _ rfl
  have c10 := (B1.out.box 0 _ _ rfl).cell 10 _ rfl
  have c11 := (B1.out.box 0 _ _ rfl).cell 11 _ rfl
  have dl := (B1.out.box 1 _ _ rfl).lt
  have d0 := (B1.out.box 1 _ _ rfl).cell 0 _ rfl
  have d1 := (B1.out.box 1 _ _ rfl).cell 1 _ rfl
  have d2 := (B1.out.box 1 _ _ rfl).cell 2 _ rfl
  have d3 := (B1.out.box 1 _ _ rfl).cell 3 _ rfl
  have el := (B1.out.box 2 _ _ rfl).lt
  have e0 := (B1.out.box 2 _ _ rfl).cell 0 _ rfl
  have e1 := (B1.out.box 2 _ _ rfl).cell 1 _ rfl
  have e2 := (B1.out.box 2 _ _ rfl).cell 2 _ rfl
  have e3 := (B1.out.box 2 _ _ rfl).cell 3 _ rfl
  go_wp2_with fail
  refine (CP.out _).mono ?_
  rintro r w2 ⟨rfl, hb⟩
  have B2 : Hid (_) := B1.out.step hb
  clear hb B1 CP
  clear cl c0 c1 c2 c3 c4 c5 c6 c7 c8 c9 c10 c11
  clear dl d0 d1 d2 d3
  clear el e0 e1 e2 e3
  have cl := (B2.out.box 0 _ _ rfl).lt
  have c0 := (B2.out.box 0 _ _ rfl).cell 0 _ rfl
  have c1 := (B2.out.box 0 _ _ rfl).cell 1 _ rfl
  have c2 := (B2.out.box 0 _ _ rfl).cell 2 _ rfl
  have c3 := (B2.out.box 0 _ _ rfl).cell 3 _ rfl
  have c4 := (B2.out.box 0 _ _ rfl).cell 4 _ rfl
  have c5 := (B2.out.box 0 _ _ rfl).cell 5 _ rfl
  have c6 := (B2.out.box 0 _ _ rfl).cell 6 _ rfl
  have c7 := (B2.out.box 0 _ _ rfl).cell 7 _ rfl
  have c8 := (B2.out.box 0 _ _ rfl).cell 8 _ rfl
  have c9 := (B2.out.box 0 _ _ rfl).cell 9 _ rfl
  have c10 := (B2.out.box 0 _ _ rfl).cell 10 _ rfl
  have c11 := (B2.out.box 0 _ _ rfl).cell 11 _ rfl
  go_wp2_with fail
  obtain ⟨N1, W3, hW3, hN3, B3', Z3⟩ := B2.out.newTwo #[.int .i64 0, .bool false, .int .i64 0, .int .i64 0, .bool false, .int .i64 0, .int .i64 0, .bool false, .int .i64 0, .int .i64 0, .bool false, .int .i64 0] #[.int .i64 0, .int .i64 0, .bool false] 25 30
  rw [hW3]
  have B3 : Hid (_) := B3'
  clear B3' B2 Z3
  clear cl c0 c1 c2 c3 c4 c5 c6 c7 c8 c9 c10 c11
  rw [hN3]
  clear hW3 hN3
  refine (CR.out _).mono ?_
  rintro r w4 ⟨rfl, hb⟩
  have B4 : Hid (_) := B3.out.step hb
  clear hb B3 CR
  have cl := (B4.out.box 0 _ _ rfl).lt
  have c0 := (B4.out.box 0 _ _ rfl).cell 0 _ rfl
  have c1 := (B4.out.box 0 _ _ rfl).cell 1 _ rfl
  have c2 := (B4.out.box 0 _ _ rfl).cell 2 _ rfl
  have c3 := (B4.out.box 0 _ _ rfl).cell 3 _ rfl
  have c4 := (B4.out.box 0 _ _ rfl).cell 4 _ rfl
  have c5 := (B4.out.box 0 _ _ rfl).cell 5 _ rfl
  have c6 := (B4.out.box 0 _ _ rfl).cell 6 _ rfl
  have c7 := (B4.out.box 0 _ _ rfl).cell 7 _ rfl
  have c8 := (B4.out.box 0 _ _ rfl).cell 8 _ rfl
  have c9 := (B4.out.box 0 _ _ rfl).cell 9 _ rfl
  have c10 := (B4.out.box 0 _ _ rfl).cell 10 _ rfl
  have c11 := (B4.out.box 0 _ _ rfl).cell 11 _ rfl
  go_wp2_with fail
  obtain ⟨N2, W5, hW5, hN5, B5', Z5⟩ := B4.out.new #[.int .i64 0, .bool false, .int .i64 0, .int .i64 0, .bool false, .int .i64 0, .int .i64 0, .bool false, .int .i64 0, .int .i64 0, .bool false, .int .i64 0] 25
  rw [hW5]
  have B5 : Hid (_) := B5'
  clear B5' B4 Z5
  clear cl c0 c1 c2 c3 c4 c5 c6 c7 c8 c9 c10 c11
  rw [hN5]
  clear hW5 hN5
  refine (CT.out _).mono ?_
  rintro r w6 ⟨rfl, hb⟩
  have B6 : Hid (_) := B5.out.step hb
  clear hb B5 CT
  go_upto_region 5 with (fail)
  obtain ⟨N3, W7, hW7, hN7, B7', Z7⟩ := B6.out.new #[.int .i64 0, .bool false, .int .i64 0, .int .i64 0, .bool false, .int .i64 0, .int .i64 0, .bool false, .int .i64 0, .int .i64 0, .bool false, .int .i64 0] 25
  rw [hW7]
  have B7 : Hid (Bxs w [(w.heap.size, [.int .i64 (t 0).m, .bool (t 0).f, .int .i64 (t 0).n, .int .i64 (t 1).m, .bool (t 1).f, .int .i64 (t 1).n, .int .i64 (t 2).m, .bool (t 2).f, .int .i64 (t 2).n, .int .i64 (t 3).m, .bool (t 3).f, .int .i64 (t 3).n]), (w.heap.size + 1, [.bool (o 0), .bool (o 1), .bool (o 2), .bool (o 3)]), (w.heap.size + 1 + 1, [.bool (f 0), .bool (f 1), .bool (f 2), .bool (f 3)]), (N1, [.int .i64 0, .bool false, .int .i64 0, .int .i64 0, .bool false, .int .i64 0, .int .i64 0, .bool false, .int .i64 0, .int .i64 0, .bool false, .int .i64 0]), (N1 + 1, [.int .i64 0, .int .i64 0, .bool false]), (N2, [.int .i64 0, .bool false, .int .i64 0, .int .i64 0, .bool false, .int .i64 0, .int .i64 0, .bool false, .int .i64 0, .int .i64 0, .bool false, .int .i64 0]), (N3, [.int .i64 0, .bool false, .int .i64 0, .int .i64 0, .bool false, .int .i64 0, .int .i64 0, .bool false, .int .i64 0, .int .i64 0, .bool false, .int .i64 0])] W7) := B7'
  clear B7' B6 Z7
  rw [hN7]
  clear hW7 hN7
  have cl := (B7.out.box 0 _ _ rfl).lt
  have c0 := (B7.out.box 0 _ _ rfl).cell 0 _ rfl
  have c1 := (B7.out.box 0 _ _ rfl).cell 1 _ rfl
  have c2 := (B7.out.box 0 _ _ rfl).cell 2 _ rfl
  have c3 := (B7.out.box 0 _ _ rfl).cell 3 _ rfl
  have c4 := (B7.out.box 0 _ _ rfl).cell 4 _ rfl
  have c5 := (B7.out.box 0 _ _ rfl).cell 5 _ rfl
  have c6 := (B7.out.box 0 _ _ rfl).cell 6 _ rfl
  have c7 := (B7.out.box 0 _ _ rfl).cell 7 _ rfl
  have c8 := (B7.out.box 0 _ _ rfl).cell 8 _ rfl
  have c9 := (B7.out.box 0 _ _ rfl).cell 9 _ rfl
  have c10 := (B7.out.box 0 _ _ rfl).cell 10 _ rfl
  have c11 := (B7.out.box 0 _ _ rfl).cell 11 _ rfl
  have dl := (B7.out.box 1 _ _ rfl).lt
  have d0 := (B7.out.box 1 _ _ rfl).cell 0 _ rfl
  have d1 := (B7.out.box 1 _ _ rfl).cell 1 _ rfl
  have d2 := (B7.out.box 1 _ _ rfl).cell 2 _ rfl
  have d3 := (B7.out.box 1 _ _ rfl).cell 3 _ rfl
  go_region_held3 (fun w' => w'.cell? ⟨w.heap.size, 0, none⟩ = some (.int .i64 (t 0).m) ∧ w'.cell? ⟨w.heap.size, 1, none⟩ = some (.bool (t 0).f) ∧ w'.cell? ⟨w.heap.size, 2, none⟩ = some (.int .i64 (t 0).n) ∧ w'.cell? ⟨w.heap.size, 3, none⟩ = some (.int .i64 (t 1).m) ∧ w'.cell? ⟨w.heap.size, 4, none⟩ = some (.bool (t 1).f) ∧ w'.cell? ⟨w.heap.size, 5, none⟩ = some (.int .i64 (t 1).n) ∧ w'.cell? ⟨w.heap.size, 6, none⟩ = some (.int .i64 (t 2).m) ∧ w'.cell? ⟨w.heap.size, 7, none⟩ = some (.bool (t 2).f) ∧ w'.cell? ⟨w.heap.size, 8, none⟩ = some (.int .i64 (t 2).n) ∧ w'.cell? ⟨w.heap.size, 9, none⟩ = some (.int .i64 (t 3).m) ∧ w'.cell? ⟨w.heap.size, 10, none⟩ = some (.bool (t 3).f) ∧ w'.cell? ⟨w.heap.size, 11, none⟩ = some (.int .i64 (t 3).n) ∧ w'.cell? ⟨w.heap.size + 1, 0, none⟩ = some (.bool (o 0)) ∧ w'.cell? ⟨w.heap.size + 1, 1, none⟩ = some (.bool (o 1)) ∧ w'.cell? ⟨w.heap.size + 1, 2, none⟩ = some (.bool (o 2)) ∧ w'.cell? ⟨w.heap.size + 1, 3, none⟩ = some (.bool (o 3))) (go_keep) (first | (go_at_call 11; refine (CK.out _).mono ?_; rintro r w8 ⟨rfl, hb⟩; have B8 : Hid (Bxs w [(w.heap.size, [.int .i64 (t 0).m, .bool (t 0).f, .int .i64 (t 0).n, .int .i64 (t 1).m, .bool (t 1).f, .int .i64 (t 1).n, .int .i64 (t 2).m, .bool (t 2).f, .int .i64 (t 2).n, .int .i64 (t 3).m, .bool (t 3).f, .int .i64 (t 3).n]), (w.heap.size + 1, [.bool (o 0), .bool (o 1), .bool (o 2), .bool (o 3)]), (w.heap.size + 1 + 1, [.bool (f 0), .bool (f 1), .bool (f 2), .bool (f 3)]), (N1, [.int .i64 0, .bool false, .int .i64 0, .int .i64 0, .bool false, .int .i64 0, .int .i64 0, .bool false, .int .i64 0, .int .i64 0, .bool false, .int .i64 0]), (N1 + 1, [.int .i64 0, .int .i64 0, .bool false]), (N2, [.int .i64 0, .bool false, .int .i64 0, .int .i64 0, .bool false, .int .i64 0, .int .i64 0, .bool false, .int .i64 0, .int .i64 0, .bool false, .int .i64 0]), (N3, [.int .i64 0, .bool false, .int .i64 0, .int .i64 0, .bool false, .int .i64 0, .int .i64 0, .bool false, .int .i64 0, .int .i64 0, .bool false, .int .i64 0])] w8) := B7.out.drew.step hb; have p0 := (B8.out.box 0 _ _ rfl).cell 0 _ rfl; have p1 := (B8.out.box 0 _ _ rfl).cell 1 _ rfl; have p2 := (B8.out.box 0 _ _ rfl).cell 2 _ rfl; have p3 := (B8.out.box 0 _ _ rfl).cell 3 _ rfl; have p4 := (B8.out.box 0 _ _ rfl).cell 4 _ rfl; have p5 := (B8.out.box 0 _ _ rfl).cell 5 _ rfl; have p6 := (B8.out.box 0 _ _ rfl).cell 6 _ rfl; have p7 := (B8.out.box 0 _ _ rfl).cell 7 _ rfl; have p8 := (B8.out.box 0 _ _ rfl).cell 8 _ rfl; have p9 := (B8.out.box 0 _ _ rfl).cell 9 _ rfl; have p10 := (B8.out.box 0 _ _ rfl).cell 10 _ rfl; have p11 := (B8.out.box 0 _ _ rfl).cell 11 _ rfl; have pp0 := (B8.out.box 1 _ _ rfl).cell 0 _ rfl; have pp1 := (B8.out.box 1 _ _ rfl).cell 1 _ rfl; have pp2 := (B8.out.box 1 _ _ rfl).cell 2 _ rfl; have pp3 := (B8.out.box 1 _ _ rfl).cell 3 _ rfl; clear hb) | (go_at_call 13; refine (CU.out _).mono ?_; rintro r w9 ⟨ua, uc, rfl, hri, hb⟩; have B9 : Hid (Bxs w [(w.heap.size, [.int .i64 (t 0).m, .bool (t 0).f, .int .i64 (t 0).n, .int .i64 (t 1).m, .bool (t 1).f, .int .i64 (t 1).n, .int .i64 (t 2).m, .bool (t 2).f, .int .i64 (t 2).n, .int .i64 (t 3).m, .bool (t 3).f, .int .i64 (t 3).n]), (w.heap.size + 1, [.bool (o 0), .bool (o 1), .bool (o 2), .bool (o 3)]), (w.heap.size + 1 + 1, [.bool (f 0), .bool (f 1), .bool (f 2), .bool (f 3)]), (N1, [.int .i64 0, .bool false, .int .i64 0, .int .i64 0, .bool false, .int .i64 0, .int .i64 0, .bool false, .int .i64 0, .int .i64 0, .bool false, .int .i64 0]), (N1 + 1, [.int .i64 0, .int .i64 0, .bool false]), (N2, [.int .i64 0, .bool false, .int .i64 0, .int .i64 0, .bool false, .int .i64 0, .int .i64 0, .bool false, .int .i64 0, .int .i64 0, .bool false, .int .i64 0]), (N3, [.int .i64 0, .bool false, .int .i64 0, .int .i64 0, .bool false, .int .i64 0, .int .i64 0, .bool false, .int .i64 0, .int .i64 0, .bool false, .int .i64 0])] w9) := B8.out.step hb; have HR1 : Hid (RI w9 ua N U) := hri; have q0 := (B9.out.box 0 _ _ rfl).cell 0 _ rfl; have q1 := (B9.out.box 0 _ _ rfl).cell 1 _ rfl; have q2 := (B9.out.box 0 _ _ rfl).cell 2 _ rfl; have q3 := (B9.out.box 0 _ _ rfl).cell 3 _ rfl; have q4 := (B9.out.box 0 _ _ rfl).cell 4 _ rfl; have q5 := (B9.out.box 0 _ _ rfl).cell 5 _ rfl; have q6 := (B9.out.box 0 _ _ rfl).cell 6 _ rfl; have q7 := (B9.out.box 0 _ _ rfl).cell 7 _ rfl; have q8 := (B9.out.box 0 _ _ rfl).cell 8 _ rfl; have q9 := (B9.out.box 0 _ _ rfl).cell 9 _ rfl; have q10 := (B9.out.box 0 _ _ rfl).cell 10 _ rfl; have q11 := (B9.out.box 0 _ _ rfl).cell 11 _ rfl; have qq0 := (B9.out.box 1 _ _ rfl).cell 0 _ rfl; have qq1 := (B9.out.box 1 _ _ rfl).cell 1 _ rfl; have qq2 := (B9.out.box 1 _ _ rfl).cell 2 _ rfl; have qq3 := (B9.out.box 1 _ _ rfl).cell 3 _ rfl; clear hri hb) | (go_at_call 14; refine (CV.out _).mono ?_; rintro r w10 ⟨va, vc, rfl, hri, hb⟩; have B10 : Hid (Bxs w [(w.heap.size, [.int .i64 (t 0).m, .bool (t 0).f, .int .i64 (t 0).n, .int .i64 (t 1).m, .bool (t 1).f, .int .i64 (t 1).n, .int .i64 (t 2).m, .bool (t 2).f, .int .i64 (t 2).n, .int .i64 (t 3).m, .bool (t 3).f, .int .i64 (t 3).n]), (w.heap.size + 1, [.bool (o 0), .bool (o 1), .bool (o 2), .bool (o 3)]), (w.heap.size + 1 + 1, [.bool (f 0), .bool (f 1), .bool (f 2), .bool (f 3)]), (N1, [.int .i64 0, .bool false, .int .i64 0, .int .i64 0, .bool false, .int .i64 0, .int .i64 0, .bool false, .int .i64 0, .int .i64 0, .bool false, .int .i64 0]), (N1 + 1, [.int .i64 0, .int .i64 0, .bool false]), (N2, [.int .i64 0, .bool false, .int .i64 0, .int .i64 0, .bool false, .int .i64 0, .int .i64 0, .bool false, .int .i64 0, .int .i64 0, .bool false, .int .i64 0]), (N3, [.int .i64 0, .bool false, .int .i64 0, .int .i64 0, .bool false, .int .i64 0, .int .i64 0, .bool false, .int .i64 0, .int .i64 0, .bool false, .int .i64 0])] w10) := B9.out.step hb; have HR2 : Hid (RI w10 ua N U) := HR1.out.step hb; have HR3 : Hid (RI w10 va N U) := hri; have u0 := (B10.out.box 0 _ _ rfl).cell 0 _ rfl; have u1 := (B10.out.box 0 _ _ rfl).cell 1 _ rfl; have u2 := (B10.out.box 0 _ _ rfl).cell 2 _ rfl; have u3 := (B10.out.box 0 _ _ rfl).cell 3 _ rfl; have u4 := (B10.out.box 0 _ _ rfl).cell 4 _ rfl; have u5 := (B10.out.box 0 _ _ rfl).cell 5 _ rfl; have u6 := (B10.out.box 0 _ _ rfl).cell 6 _ rfl; have u7 := (B10.out.box 0 _ _ rfl).cell 7 _ rfl; have u8 := (B10.out.box 0 _ _ rfl).cell 8 _ rfl; have u9 := (B10.out.box 0 _ _ rfl).cell 9 _ rfl; have u10 := (B10.out.box 0 _ _ rfl).cell 10 _ rfl; have u11 := (B10.out.box 0 _ _ rfl).cell 11 _ rfl; have uu0 := (B10.out.box 1 _ _ rfl).cell 0 _ rfl; have uu1 := (B10.out.box 1 _ _ rfl).cell 1 _ rfl; have uu2 := (B10.out.box 1 _ _ rfl).cell 2 _ rfl; have uu3 := (B10.out.box 1 _ _ rfl).cell 3 _ rfl; clear hri hb) | (go_at_call 12; refine (equalI_same _ _ _ _ _ _ _ hN HR2.out HR3.out).mono ?_; rintro r w11 ⟨rfl, hb⟩; have B11 : Hid (Bxs w [(w.heap.size, [.int .i64 (t 0).m, .bool (t 0).f, .int .i64 (t 0).n, .int .i64 (t 1).m, .bool (t 1).f, .int .i64 (t 1).n, .int .i64 (t 2).m, .bool (t 2).f, .int .i64 (t 2).n, .int .i64 (t 3).m, .bool (t 3).f, .int .i64 (t 3).n]), (w.heap.size + 1, [.bool (o 0), .bool (o 1), .bool (o 2), .bool (o 3)]), (w.heap.size + 1 + 1, [.bool (f 0), .bool (f 1), .bool (f 2), .bool (f 3)]), (N1, [.int .i64 0, .bool false, .int .i64 0, .int .i64 0, .bool false, .int .i64 0, .int .i64 0, .bool false, .int .i64 0, .int .i64 0, .bool false, .int .i64 0]), (N1 + 1, [.int .i64 0, .int .i64 0, .bool false]), (N2, [.int .i64 0, .bool false, .int .i64 0, .int .i64 0, .bool false, .int .i64 0, .int .i64 0, .bool false, .int .i64 0, .int .i64 0, .bool false, .int .i64 0]), (N3, [.int .i64 0, .bool false, .int .i64 0, .int .i64 0, .bool false, .int .i64 0, .int .i64 0, .bool false, .int .i64 0, .int .i64 0, .bool false, .int .i64 0])] w11) := B10.out.step hb; have v0 := (B11.out.box 0 _ _ rfl).cell 0 _ rfl; have v1 := (B11.out.box 0 _ _ rfl).cell 1 _ rfl; have v2 := (B11.out.box 0 _ _ rfl).cell 2 _ rfl; have v3 := (B11.out.box 0 _ _ rfl).cell 3 _ rfl; have v4 := (B11.out.box 0 _ _ rfl).cell 4 _ rfl; have v5 := (B11.out.box 0 _ _ rfl).cell 5 _ rfl; have v6 := (B11.out.box 0 _ _ rfl).cell 6 _ rfl; have v7 := (B11.out.box 0 _ _ rfl).cell 7 _ rfl; have v8 := (B11.out.box 0 _ _ rfl).cell 8 _ rfl; have v9 := (B11.out.box 0 _ _ rfl).cell 9 _ rfl; have v10 := (B11.out.box 0 _ _ rfl).cell 10 _ rfl; have v11 := (B11.out.box 0 _ _ rfl).cell 11 _ rfl; have vv0 := (B11.out.box 1 _ _ rfl).cell 0 _ rfl; have vv1 := (B11.out.box 1 _ _ rfl).cell 1 _ rfl; have vv2 := (B11.out.box 1 _ _ rfl).cell 2 _ rfl; have vv3 := (B11.out.box 1 _ _ rfl).cell 3 _ rfl; clear hb))
  have hq := Q1.out
  have xl := (B11.out.box 3 _ _ rfl).lt
  have x0 := (B11.out.box 3 _ _ rfl).cell 0 _ rfl
  have x1 := (B11.out.box 3 _ _ rfl).cell 1 _ rfl
  have x2 := (B11.out.box 3 _ _ rfl).cell 2 _ rfl
  have x3 := (B11.out.box 3 _ _ rfl).cell 3 _ rfl
  have x4 := (B11.out.box 3 _ _ rfl).cell 4 _ rfl
  have x5 := (B11.out.box 3 _ _ rfl).cell 5 _ rfl
  have x6 := (B11.out.box 3 _ _ rfl).cell 6 _ rfl
  have x7 := (B11.out.box 3 _ _ rfl).cell 7 _ rfl
  have x8 := (B11.out.box 3 _ _ rfl).cell 8 _ rfl
  have x9 := (B11.out.box 3 _ _ rfl).cell 9 _ rfl
  have x10 := (B11.out.box 3 _ _ rfl).cell 10 _ rfl
  have x11 := (B11.out.box 3 _ _ rfl).cell 11 _ rfl
  have yl := (B11.out.box 4 _ _ rfl).lt
  have y0 := (B11.out.box 4 _ _ rfl).cell 0 _ rfl
  have y1 := (B11.out.box 4 _ _ rfl).cell 1 _ rfl
  have y2 := (B11.out.box 4 _ _ rfl).cell 2 _ rfl
  have zl := (B11.out.box 5 _ _ rfl).lt
  have z0 := (B11.out.box 5 _ _ rfl).cell 0 _ rfl
  have z1 := (B11.out.box 5 _ _ rfl).cell 1 _ rfl
  have z2 := (B11.out.box 5 _ _ rfl).cell 2 _ rfl
  have z3 := (B11.out.box 5 _ _ rfl).cell 3 _ rfl
  have z4 := (B11.out.box 5 _ _ rfl).cell 4 _ rfl
  have z5 := (B11.out.box 5 _ _ rfl).cell 5 _ rfl
  have z6 := (B11.out.box 5 _ _ rfl).cell 6 _ rfl
  have z7 := (B11.out.box 5 _ _ rfl).cell 7 _ rfl
  have z8 := (B11.out.box 5 _ _ rfl).cell 8 _ rfl
  have z9 := (B11.out.box 5 _ _ rfl).cell 9 _ rfl
  have z10 := (B11.out.box 5 _ _ rfl).cell 10 _ rfl
  have z11 := (B11.out.box 5 _ _ rfl).cell 11 _ rfl
  have sl := (B11.out.box 6 _ _ rfl).lt
  have s0 := (B11.out.box 6 _ _ rfl).cell 0 _ rfl
  have s1 := (B11.out.box 6 _ _ rfl).cell 1 _ rfl
  have s2 := (B11.out.box 6 _ _ rfl).cell 2 _ rfl
  have s3 := (B11.out.box 6 _ _ rfl).cell 3 _ rfl
  have s4 := (B11.out.box 6 _ _ rfl).cell 4 _ rfl
  have s5 := (B11.out.box 6 _ _ rfl).cell 5 _ rfl
  have s6 := (B11.out.box 6 _ _ rfl).cell 6 _ rfl
  have s7 := (B11.out.box 6 _ _ rfl).cell 7 _ rfl
  have s8 := (B11.out.box 6 _ _ rfl).cell 8 _ rfl
  have s9 := (B11.out.box 6 _ _ rfl).cell 9 _ rfl
  have s10 := (B11.out.box 6 _ _ rfl).cell 10 _ rfl
  have s11 := (B11.out.box 6 _ _ rfl).cell 11 _ rfl
  rcases hE with rfl | rfl
  all_goals
    go_wp2_with fail
    go_ret
    exact ⟨rfl, (B11.out.alloc _).bel⟩

/-- what Reset tells: no such lane; not on ground; done -/
def Rst (t b : Nat → St) (k : Int) (g : Bool) (F : Int) : Prop :=
  ((k < 0 ∨ (¬ k < 0 ∧ 3 < k)) ∧ (∀ W, (Op.equalIn 10000 25 (.agg #[.int .i64 (b 0).m, .bool (b 0).f, .int .i64 (b 0).n, .int .i64 (b 1).m, .bool (b 1).f, .int .i64 (b 1).n, .int .i64 (b 2).m, .bool (b 2).f, .int .i64 (b 2).n, .int .i64 (b 3).m, .bool (b 3).f, .int .i64 (b 3).n]) (.agg #[.int .i64 0, .bool false, .int .i64 0, .int .i64 0, .bool false, .int .i64 0, .int .i64 0, .bool false, .int .i64 0, .int .i64 0, .bool false, .int .i64 0])).run Try.prog W = .ok true W) ∧ F = 1) ∨ (¬ k < 0 ∧ ¬ 3 < k ∧ g = false ∧ (∀ W, (Op.equalIn 10000 25 (.agg #[.int .i64 (b 0).m, .bool (b 0).f, .int .i64 (b 0).n, .int .i64 (b 1).m, .bool (b 1).f, .int .i64 (b 1).n, .int .i64 (b 2).m, .bool (b 2).f, .int .i64 (b 2).n, .int .i64 (b 3).m, .bool (b 3).f, .int .i64 (b 3).n]) (.agg #[.int .i64 0, .bool false, .int .i64 0, .int .i64 0, .bool false, .int .i64 0, .int .i64 0, .bool false, .int .i64 0, .int .i64 0, .bool false, .int .i64 0])).run Try.prog W = .ok true W) ∧ F = 8) ∨ (∃ i : Nat, i < 4 ∧ k = (i : Int) ∧ g = true ∧ F = 0 ∧ b = putS t i (nx (t i) 7) ∧ ∀ W, Calls Try.prog 16 #[.agg #[.int .i64 (t i).m, .bool (t i).f, .int .i64 (t i).n], .int .i64 7] W fun r w' => r = .returned (.agg #[.int .i64 (nx (t i) 7).m, .bool (nx (t i) 7).f, .int .i64 (nx (t i) 7).n]) ∧ Below W.heap.size W w')

set_option maxHeartbeats 64000000 in
set_option maxRecDepth 100000 in
theorem walk_ok (t x b u : Nat → St) (o f : Nat → Bool) (k : Int) (g : Bool) (F : Int) (n K N : Nat) (l : Bool) (U : Nat → Nat) (w : World) (hN : N ≤ 4) (CE : Hid (∀ W, Calls Try.prog 7 #[.agg #[.int .i64 (t 0).m, .bool (t 0).f, .int .i64 (t 0).n, .int .i64 (t 1).m, .bool (t 1).f, .int .i64 (t 1).n, .int .i64 (t 2).m, .bool (t 2).f, .int .i64 (t 2).n, .int .i64 (t 3).m, .bool (t 3).f, .int .i64 (t 3).n]] W fun r w' => r = .returned (.int .i64 0) ∧ Below W.heap.size W w')) (CK : Hid (∀ W, Calls Try.prog 11 #[.agg #[.int .i64 (t 0).m, .bool (t 0).f, .int .i64 (t 0).n, .int .i64 (t 1).m, .bool (t 1).f, .int .i64 (t 1).n, .int .i64 (t 2).m, .bool (t 2).f, .int .i64 (t 2).n, .int .i64 (t 3).m, .bool (t 3).f, .int .i64 (t 3).n]] W fun r w' => r = .returned (.int .i64 0) ∧ Below W.heap.size W w'))
    (CP : Hid (∀ W, Calls Try.prog 8 #[.agg #[.int .i64 (t 0).m, .bool (t 0).f, .int .i64 (t 0).n, .int .i64 (t 1).m, .bool (t 1).f, .int .i64 (t 1).n, .int .i64 (t 2).m, .bool (t 2).f, .int .i64 (t 2).n, .int .i64 (t 3).m, .bool (t 3).f, .int .i64 (t 3).n], .agg #[.bool (o 0), .bool (o 1), .bool (o 2), .bool (o 3)], .agg #[.bool (f 0), .bool (f 1), .bool (f 2), .bool (f 3)]] W fun r w' => r = .returned (.tuple #[.agg #[.int .i64 (x 0).m, .bool (x 0).f, .int .i64 (x 0).n, .int .i64 (x 1).m, .bool (x 1).f, .int .i64 (x 1).n, .int .i64 (x 2).m, .bool (x 2).f, .int .i64 (x 2).n, .int .i64 (x 3).m, .bool (x 3).f, .int .i64 (x 3).n], .agg #[.int .i64 n, .int .i64 K, .bool l], .int .i64 0]) ∧ Below W.heap.size W w'))
    (CR : Hid (∀ W, Calls Try.prog 9 #[.agg #[.int .i64 (t 0).m, .bool (t 0).f, .int .i64 (t 0).n, .int .i64 (t 1).m, .bool (t 1).f, .int .i64 (t 1).n, .int .i64 (t 2).m, .bool (t 2).f, .int .i64 (t 2).n, .int .i64 (t 3).m, .bool (t 3).f, .int .i64 (t 3).n], .int .i64 k, .bool g] W fun r w' => r = .returned (.tuple #[.agg #[.int .i64 (b 0).m, .bool (b 0).f, .int .i64 (b 0).n, .int .i64 (b 1).m, .bool (b 1).f, .int .i64 (b 1).n, .int .i64 (b 2).m, .bool (b 2).f, .int .i64 (b 2).n, .int .i64 (b 3).m, .bool (b 3).f, .int .i64 (b 3).n], .int .i64 F]) ∧ Below W.heap.size W w'))
    (CT : Hid (∀ W, Calls Try.prog 10 #[.agg #[.int .i64 (t 0).m, .bool (t 0).f, .int .i64 (t 0).n, .int .i64 (t 1).m, .bool (t 1).f, .int .i64 (t 1).n, .int .i64 (t 2).m, .bool (t 2).f, .int .i64 (t 2).n, .int .i64 (t 3).m, .bool (t 3).f, .int .i64 (t 3).n]] W fun r w' => r = .returned (.tuple #[.agg #[.int .i64 (u 0).m, .bool (u 0).f, .int .i64 (u 0).n, .int .i64 (u 1).m, .bool (u 1).f, .int .i64 (u 1).n, .int .i64 (u 2).m, .bool (u 2).f, .int .i64 (u 2).n, .int .i64 (u 3).m, .bool (u 3).f, .int .i64 (u 3).n], .int .i64 0]) ∧ Below W.heap.size W w'))
    (CU : Hid (∀ W, Calls Try.prog 13 #[.agg #[.int .i64 (t 0).m, .bool (t 0).f, .int .i64 (t 0).n, .int .i64 (t 1).m, .bool (t 1).f, .int .i64 (t 1).n, .int .i64 (t 2).m, .bool (t 2).f, .int .i64 (t 2).n, .int .i64 (t 3).m, .bool (t 3).f, .int .i64 (t 3).n], .agg #[.bool (o 0), .bool (o 1), .bool (o 2), .bool (o 3)]] W fun e w' => ∃ a c, e = .returned (.slice a N c) ∧ RI w' a N U ∧ Below W.heap.size W w'))
    (CV : Hid (∀ W, Calls Try.prog 14 #[.agg #[.int .i64 (t 0).m, .bool (t 0).f, .int .i64 (t 0).n, .int .i64 (t 1).m, .bool (t 1).f, .int .i64 (t 1).n, .int .i64 (t 2).m, .bool (t 2).f, .int .i64 (t 2).n, .int .i64 (t 3).m, .bool (t 3).f, .int .i64 (t 3).n], .agg #[.bool (o 0), .bool (o 1), .bool (o 2), .bool (o 3)]] W fun e w' => ∃ a c, e = .returned (.slice a N c) ∧ RI w' a N U ∧ Below W.heap.size W w'))
    (CD : Hid (∀ W, Calls Try.prog 15 #[.agg #[.int .i64 (t 0).m, .bool (t 0).f, .int .i64 (t 0).n, .int .i64 (t 1).m, .bool (t 1).f, .int .i64 (t 1).n, .int .i64 (t 2).m, .bool (t 2).f, .int .i64 (t 2).n, .int .i64 (t 3).m, .bool (t 3).f, .int .i64 (t 3).n], .agg #[.bool (o 0), .bool (o 1), .bool (o 2), .bool (o 3)], .agg #[.bool (f 0), .bool (f 1), .bool (f 2), .bool (f 3)]] W fun r w' => r = .returned (.tuple #[.agg #[.int .i64 (x 0).m, .bool (x 0).f, .int .i64 (x 0).n, .int .i64 (x 1).m, .bool (x 1).f, .int .i64 (x 1).n, .int .i64 (x 2).m, .bool (x 2).f, .int .i64 (x 2).n, .int .i64 (x 3).m, .bool (x 3).f, .int .i64 (x 3).n], .agg #[.int .i64 n, .int .i64 K, .bool l]]) ∧ Below W.heap.size W w'))
    (CN : Hid (∀ j, j < 4 → ∀ W, Calls Try.prog 16 #[.agg #[.int .i64 (t j).m, .bool (t j).f, .int .i64 (t j).n], .int .i64 2] W fun r w' => r = .returned (.agg #[.int .i64 (u j).m, .bool (u j).f, .int .i64 (u j).n]) ∧ Below W.heap.size W w'))
    (HZ : Hid (Rst t b k g F)) :
    Calls Try.prog 3 #[.agg #[.int .i64 (t 0).m, .bool (t 0).f, .int .i64 (t 0).n, .int .i64 (t 1).m, .bool (t 1).f, .int .i64 (t 1).n, .int .i64 (t 2).m, .bool (t 2).f, .int .i64 (t 2).n, .int .i64 (t 3).m, .bool (t 3).f, .int .i64 (t 3).n], .agg #[.bool (o 0), .bool (o 1), .bool (o 2), .bool (o 3)], .agg #[.bool (f 0), .bool (f 1), .bool (f 2), .bool (f 3)], .int .i64 k, .bool g] w fun r w' => r = .returned (.bool true) ∧ Below w.heap.size w w' := by
  have QX : Hid (∀ W, (Op.equalIn 10000 25 (.agg #[.int .i64 (x 0).m, .bool (x 0).f, .int .i64 (x 0).n, .int .i64 (x 1).m, .bool (x 1).f, .int .i64 (x 1).n, .int .i64 (x 2).m, .bool (x 2).f, .int .i64 (x 2).n, .int .i64 (x 3).m, .bool (x 3).f, .int .i64 (x 3).n]) (.agg #[.int .i64 (x 0).m, .bool (x 0).f, .int .i64 (x 0).n, .int .i64 (x 1).m, .bool (x 1).f, .int .i64 (x 1).n, .int .i64 (x 2).m, .bool (x 2).f, .int .i64 (x 2).n, .int .i64 (x 3).m, .bool (x 3).f, .int .i64 (x 3).n])).run Try.prog W = .ok true W) := fun W => eqT x W
  have QU : Hid (∀ W, (Op.equalIn 10000 25 (.agg #[.int .i64 (u 0).m, .bool (u 0).f, .int .i64 (u 0).n, .int .i64 (u 1).m, .bool (u 1).f, .int .i64 (u 1).n, .int .i64 (u 2).m, .bool (u 2).f, .int .i64 (u 2).n, .int .i64 (u 3).m, .bool (u 3).f, .int .i64 (u 3).n]) (.agg #[.int .i64 (u 0).m, .bool (u 0).f, .int .i64 (u 0).n, .int .i64 (u 1).m, .bool (u 1).f, .int .i64 (u 1).n, .int .i64 (u 2).m, .bool (u 2).f, .int .i64 (u 2).n, .int .i64 (u 3).m, .bool (u 3).f, .int .i64 (u 3).n])).run Try.prog W = .ok true W) := fun W => eqT u W
  have QB : Hid (∀ W, (Op.equalIn 10000 25 (.agg #[.int .i64 (b 0).m, .bool (b 0).f, .int .i64 (b 0).n, .int .i64 (b 1).m, .bool (b 1).f, .int .i64 (b 1).n, .int .i64 (b 2).m, .bool (b 2).f, .int .i64 (b 2).n, .int .i64 (b 3).m, .bool (b 3).f, .int .i64 (b 3).n]) (.agg #[.int .i64 (b 0).m, .bool (b 0).f, .int .i64 (b 0).n, .int .i64 (b 1).m, .bool (b 1).f, .int .i64 (b 1).n, .int .i64 (b 2).m, .bool (b 2).f, .int .i64 (b 2).n, .int .i64 (b 3).m, .bool (b 3).f, .int .i64 (b 3).n])).run Try.prog W = .ok true W) := fun W => eqT b W
  have B0 : Hid (_) := bxs_three w #[.int .i64 (t 0).m, .bool (t 0).f, .int .i64 (t 0).n, .int .i64 (t 1).m, .bool (t 1).f, .int .i64 (t 1).n, .int .i64 (t 2).m, .bool (t 2).f, .int .i64 (t 2).n, .int .i64 (t 3).m, .bool (t 3).f, .int .i64 (t 3).n] #[.bool (o 0), .bool (o 1), .bool (o 2), .bool (o 3)] #[.bool (f 0), .bool (f 1), .bool (f 2), .bool (f 3)] 25 26 26
  go_enter Try.func3, Try.ntmps3
  go_wp2_with fail
  refine (CE.out _).mono ?_
  rintro r w1 ⟨rfl, hb⟩
  have B1 : Hid (_) := B0.out.step hb
  clear hb B0 CE
  have cl := (B1.out.box 0 _ _ rfl).lt
  have c0 := (B1.out.box 0 _ _ rfl).cell 0 _ rfl
  have c1 := (B1.out.box 0 _ _ rfl).cell 1 _ rfl
  have c2 := (B1.out.box 0 _ _ rfl).cell 2 _ rfl
  have c3 := (B1.out.box 0 _ _ rfl).cell 3 _ rfl
  have c4 := (B1.out.box 0 _ _ rfl).cell 4 _ rfl
  have c5 := (B1.out.box 0 _ _ rfl).cell 5 _ rfl
  have c6 := (B1.out.box 0 _ _ rfl).cell 6 _ rfl
  have c7 := (B1.out.box 0 _ _ rfl).cell 7 _ rfl
  have c8 := (B1.out.box 0 _ _ rfl).cell 8 _ rfl
  have c9 := (B1.out.box 0 _ _ rfl).cell 9 _ rfl
  have c10 := (B1.out.box 0 _ _ rfl).cell 10 _ rfl
  have c11 := (B1.out.box 0 _ _ rfl).cell 11 _ rfl
  have dl := (B1.out.box 1 _ _ rfl).lt
  have d0 := (B1.out.box 1 _ _ rfl).cell 0 _ rfl
  have d1 := (B1.out.box 1 _ _ rfl).cell 1 _ rfl
  have d2 := (B1.out.box 1 _ _ rfl).cell 2 _ rfl
  have d3 := (B1.out.box 1 _ _ rfl).cell 3 _ rfl
  have el := (B1.out.box 2 _ _ rfl).lt
  have e0 := (B1.out.box 2 _ _ rfl).cell 0 _ rfl
  have e1 := (B1.out.box 2 _ _ rfl).cell 1 _ rfl
  have e2 := (B1.out.box 2 _ _ rfl).cell 2 _ rfl
  have e3 := (B1.out.box 2 _ _ rfl).cell 3 _ rfl
  go_wp2_with fail
  refine (CP.out _).mono ?_
  rintro r w2 ⟨rfl, hb⟩
  have B2 : Hid (_) := B1.out.step hb
  clear hb B1 CP
  clear cl c0 c1 c2 c3 c4 c5 c6 c7 c8 c9 c10 c11
  clear dl d0 d1 d2 d3
  clear el e0 e1 e2 e3
  have cl := (B2.out.box 0 _ _ rfl).lt
  have c0 := (B2.out.box 0 _ _ rfl).cell 0 _ rfl
  have c1 := (B2.out.box 0 _ _ rfl).cell 1 _ rfl
  have c2 := (B2.out.box 0 _ _ rfl).cell 2 _ rfl
  have c3 := (B2.out.box 0 _ _ rfl).cell 3 _ rfl
  have c4 := (B2.out.box 0 _ _ rfl).cell 4 _ rfl
  have c5 := (B2.out.box 0 _ _ rfl).cell 5 _ rfl
  have c6 := (B2.out.box 0 _ _ rfl).cell 6 _ rfl
  have c7 := (B2.out.box 0 _ _ rfl).cell 7 _ rfl
  have c8 := (B2.out.box 0 _ _ rfl).cell 8 _ rfl
  have c9 := (B2.out.box 0 _ _ rfl).cell 9 _ rfl
  have c10 := (B2.out.box 0 _ _ rfl).cell 10 _ rfl
  have c11 := (B2.out.box 0 _ _ rfl).cell 11 _ rfl
  go_wp2_with fail
  obtain ⟨N1, W3, hW3, hN3, B3', Z3⟩ := B2.out.newTwo #[.int .i64 (x 0).m, .bool (x 0).f, .int .i64 (x 0).n, .int .i64 (x 1).m, .bool (x 1).f, .int .i64 (x 1).n, .int .i64 (x 2).m, .bool (x 2).f, .int .i64 (x 2).n, .int .i64 (x 3).m, .bool (x 3).f, .int .i64 (x 3).n] #[.int .i64 n, .int .i64 K, .bool l] 25 30
  rw [hW3]
  have B3 : Hid (_) := B3'
  clear B3' B2 Z3
  clear cl c0 c1 c2 c3 c4 c5 c6 c7 c8 c9 c10 c11
  rw [hN3]
  clear hW3 hN3
  refine (CR.out _).mono ?_
  rintro r w4 ⟨rfl, hb⟩
  have B4 : Hid (_) := B3.out.step hb
  clear hb B3 CR
  have cl := (B4.out.box 0 _ _ rfl).lt
  have c0 := (B4.out.box 0 _ _ rfl).cell 0 _ rfl
  have c1 := (B4.out.box 0 _ _ rfl).cell 1 _ rfl
  have c2 := (B4.out.box 0 _ _ rfl).cell 2 _ rfl
  have c3 := (B4.out.box 0 _ _ rfl).cell 3 _ rfl
  have c4 := (B4.out.box 0 _ _ rfl).cell 4 _ rfl
  have c5 := (B4.out.box 0 _ _ rfl).cell 5 _ rfl
  have c6 := (B4.out.box 0 _ _ rfl).cell 6 _ rfl
  have c7 := (B4.out.box 0 _ _ rfl).cell 7 _ rfl
  have c8 := (B4.out.box 0 _ _ rfl).cell 8 _ rfl
  have c9 := (B4.out.box 0 _ _ rfl).cell 9 _ rfl
  have c10 := (B4.out.box 0 _ _ rfl).cell 10 _ rfl
  have c11 := (B4.out.box 0 _ _ rfl).cell 11 _ rfl
  go_wp2_with fail
  obtain ⟨N2, W5, hW5, hN5, B5', Z5⟩ := B4.out.new #[.int .i64 (b 0).m, .bool (b 0).f, .int .i64 (b 0).n, .int .i64 (b 1).m, .bool (b 1).f, .int .i64 (b 1).n, .int .i64 (b 2).m, .bool (b 2).f, .int .i64 (b 2).n, .int .i64 (b 3).m, .bool (b 3).f, .int .i64 (b 3).n] 25
  rw [hW5]
  have B5 : Hid (_) := B5'
  clear B5' B4 Z5
  clear cl c0 c1 c2 c3 c4 c5 c6 c7 c8 c9 c10 c11
  rw [hN5]
  clear hW5 hN5
  refine (CT.out _).mono ?_
  rintro r w6 ⟨rfl, hb⟩
  have B6 : Hid (_) := B5.out.step hb
  clear hb B5 CT
  go_upto_region 5 with (fail)
  obtain ⟨N3, W7, hW7, hN7, B7', Z7⟩ := B6.out.new #[.int .i64 (u 0).m, .bool (u 0).f, .int .i64 (u 0).n, .int .i64 (u 1).m, .bool (u 1).f, .int .i64 (u 1).n, .int .i64 (u 2).m, .bool (u 2).f, .int .i64 (u 2).n, .int .i64 (u 3).m, .bool (u 3).f, .int .i64 (u 3).n] 25
  rw [hW7]
  have B7 : Hid (Bxs w [(w.heap.size, [.int .i64 (t 0).m, .bool (t 0).f, .int .i64 (t 0).n, .int .i64 (t 1).m, .bool (t 1).f, .int .i64 (t 1).n, .int .i64 (t 2).m, .bool (t 2).f, .int .i64 (t 2).n, .int .i64 (t 3).m, .bool (t 3).f, .int .i64 (t 3).n]), (w.heap.size + 1, [.bool (o 0), .bool (o 1), .bool (o 2), .bool (o 3)]), (w.heap.size + 1 + 1, [.bool (f 0), .bool (f 1), .bool (f 2), .bool (f 3)]), (N1, [.int .i64 (x 0).m, .bool (x 0).f, .int .i64 (x 0).n, .int .i64 (x 1).m, .bool (x 1).f, .int .i64 (x 1).n, .int .i64 (x 2).m, .bool (x 2).f, .int .i64 (x 2).n, .int .i64 (x 3).m, .bool (x 3).f, .int .i64 (x 3).n]), (N1 + 1, [.int .i64 n, .int .i64 K, .bool l]), (N2, [.int .i64 (b 0).m, .bool (b 0).f, .int .i64 (b 0).n, .int .i64 (b 1).m, .bool (b 1).f, .int .i64 (b 1).n, .int .i64 (b 2).m, .bool (b 2).f, .int .i64 (b 2).n, .int .i64 (b 3).m, .bool (b 3).f, .int .i64 (b 3).n]), (N3, [.int .i64 (u 0).m, .bool (u 0).f, .int .i64 (u 0).n, .int .i64 (u 1).m, .bool (u 1).f, .int .i64 (u 1).n, .int .i64 (u 2).m, .bool (u 2).f, .int .i64 (u 2).n, .int .i64 (u 3).m, .bool (u 3).f, .int .i64 (u 3).n])] W7) := B7'
  clear B7' B6 Z7
  rw [hN7]
  clear hW7 hN7
  have cl := (B7.out.box 0 _ _ rfl).lt
  have c0 := (B7.out.box 0 _ _ rfl).cell 0 _ rfl
  have c1 := (B7.out.box 0 _ _ rfl).cell 1 _ rfl
  have c2 := (B7.out.box 0 _ _ rfl).cell 2 _ rfl
  have c3 := (B7.out.box 0 _ _ rfl).cell 3 _ rfl
  have c4 := (B7.out.box 0 _ _ rfl).cell 4 _ rfl
  have c5 := (B7.out.box 0 _ _ rfl).cell 5 _ rfl
  have c6 := (B7.out.box 0 _ _ rfl).cell 6 _ rfl
  have c7 := (B7.out.box 0 _ _ rfl).cell 7 _ rfl
  have c8 := (B7.out.box 0 _ _ rfl).cell 8 _ rfl
  have c9 := (B7.out.box 0 _ _ rfl).cell 9 _ rfl
  have c10 := (B7.out.box 0 _ _ rfl).cell 10 _ rfl
  have c11 := (B7.out.box 0 _ _ rfl).cell 11 _ rfl
  have dl := (B7.out.box 1 _ _ rfl).lt
  have d0 := (B7.out.box 1 _ _ rfl).cell 0 _ rfl
  have d1 := (B7.out.box 1 _ _ rfl).cell 1 _ rfl
  have d2 := (B7.out.box 1 _ _ rfl).cell 2 _ rfl
  have d3 := (B7.out.box 1 _ _ rfl).cell 3 _ rfl
  go_region_held3 (fun w' => w'.cell? ⟨w.heap.size, 0, none⟩ = some (.int .i64 (t 0).m) ∧ w'.cell? ⟨w.heap.size, 1, none⟩ = some (.bool (t 0).f) ∧ w'.cell? ⟨w.heap.size, 2, none⟩ = some (.int .i64 (t 0).n) ∧ w'.cell? ⟨w.heap.size, 3, none⟩ = some (.int .i64 (t 1).m) ∧ w'.cell? ⟨w.heap.size, 4, none⟩ = some (.bool (t 1).f) ∧ w'.cell? ⟨w.heap.size, 5, none⟩ = some (.int .i64 (t 1).n) ∧ w'.cell? ⟨w.heap.size, 6, none⟩ = some (.int .i64 (t 2).m) ∧ w'.cell? ⟨w.heap.size, 7, none⟩ = some (.bool (t 2).f) ∧ w'.cell? ⟨w.heap.size, 8, none⟩ = some (.int .i64 (t 2).n) ∧ w'.cell? ⟨w.heap.size, 9, none⟩ = some (.int .i64 (t 3).m) ∧ w'.cell? ⟨w.heap.size, 10, none⟩ = some (.bool (t 3).f) ∧ w'.cell? ⟨w.heap.size, 11, none⟩ = some (.int .i64 (t 3).n) ∧ w'.cell? ⟨w.heap.size + 1, 0, none⟩ = some (.bool (o 0)) ∧ w'.cell? ⟨w.heap.size + 1, 1, none⟩ = some (.bool (o 1)) ∧ w'.cell? ⟨w.heap.size + 1, 2, none⟩ = some (.bool (o 2)) ∧ w'.cell? ⟨w.heap.size + 1, 3, none⟩ = some (.bool (o 3))) (go_keep) (first | (go_at_call 11; refine (CK.out _).mono ?_; rintro r w8 ⟨rfl, hb⟩; have B8 : Hid (Bxs w [(w.heap.size, [.int .i64 (t 0).m, .bool (t 0).f, .int .i64 (t 0).n, .int .i64 (t 1).m, .bool (t 1).f, .int .i64 (t 1).n, .int .i64 (t 2).m, .bool (t 2).f, .int .i64 (t 2).n, .int .i64 (t 3).m, .bool (t 3).f, .int .i64 (t 3).n]), (w.heap.size + 1, [.bool (o 0), .bool (o 1), .bool (o 2), .bool (o 3)]), (w.heap.size + 1 + 1, [.bool (f 0), .bool (f 1), .bool (f 2), .bool (f 3)]), (N1, [.int .i64 (x 0).m, .bool (x 0).f, .int .i64 (x 0).n, .int .i64 (x 1).m, .bool (x 1).f, .int .i64 (x 1).n, .int .i64 (x 2).m, .bool (x 2).f, .int .i64 (x 2).n, .int .i64 (x 3).m, .bool (x 3).f, .int .i64 (x 3).n]), (N1 + 1, [.int .i64 n, .int .i64 K, .bool l]), (N2, [.int .i64 (b 0).m, .bool (b 0).f, .int .i64 (b 0).n, .int .i64 (b 1).m, .bool (b 1).f, .int .i64 (b 1).n, .int .i64 (b 2).m, .bool (b 2).f, .int .i64 (b 2).n, .int .i64 (b 3).m, .bool (b 3).f, .int .i64 (b 3).n]), (N3, [.int .i64 (u 0).m, .bool (u 0).f, .int .i64 (u 0).n, .int .i64 (u 1).m, .bool (u 1).f, .int .i64 (u 1).n, .int .i64 (u 2).m, .bool (u 2).f, .int .i64 (u 2).n, .int .i64 (u 3).m, .bool (u 3).f, .int .i64 (u 3).n])] w8) := B7.out.drew.step hb; have p0 := (B8.out.box 0 _ _ rfl).cell 0 _ rfl; have p1 := (B8.out.box 0 _ _ rfl).cell 1 _ rfl; have p2 := (B8.out.box 0 _ _ rfl).cell 2 _ rfl; have p3 := (B8.out.box 0 _ _ rfl).cell 3 _ rfl; have p4 := (B8.out.box 0 _ _ rfl).cell 4 _ rfl; have p5 := (B8.out.box 0 _ _ rfl).cell 5 _ rfl; have p6 := (B8.out.box 0 _ _ rfl).cell 6 _ rfl; have p7 := (B8.out.box 0 _ _ rfl).cell 7 _ rfl; have p8 := (B8.out.box 0 _ _ rfl).cell 8 _ rfl; have p9 := (B8.out.box 0 _ _ rfl).cell 9 _ rfl; have p10 := (B8.out.box 0 _ _ rfl).cell 10 _ rfl; have p11 := (B8.out.box 0 _ _ rfl).cell 11 _ rfl; have pp0 := (B8.out.box 1 _ _ rfl).cell 0 _ rfl; have pp1 := (B8.out.box 1 _ _ rfl).cell 1 _ rfl; have pp2 := (B8.out.box 1 _ _ rfl).cell 2 _ rfl; have pp3 := (B8.out.box 1 _ _ rfl).cell 3 _ rfl; clear hb) | (go_at_call 13; refine (CU.out _).mono ?_; rintro r w9 ⟨ua, uc, rfl, hri, hb⟩; have B9 : Hid (Bxs w [(w.heap.size, [.int .i64 (t 0).m, .bool (t 0).f, .int .i64 (t 0).n, .int .i64 (t 1).m, .bool (t 1).f, .int .i64 (t 1).n, .int .i64 (t 2).m, .bool (t 2).f, .int .i64 (t 2).n, .int .i64 (t 3).m, .bool (t 3).f, .int .i64 (t 3).n]), (w.heap.size + 1, [.bool (o 0), .bool (o 1), .bool (o 2), .bool (o 3)]), (w.heap.size + 1 + 1, [.bool (f 0), .bool (f 1), .bool (f 2), .bool (f 3)]), (N1, [.int .i64 (x 0).m, .bool (x 0).f, .int .i64 (x 0).n, .int .i64 (x 1).m, .bool (x 1).f, .int .i64 (x 1).n, .int .i64 (x 2).m, .bool (x 2).f, .int .i64 (x 2).n, .int .i64 (x 3).m, .bool (x 3).f, .int .i64 (x 3).n]), (N1 + 1, [.int .i64 n, .int .i64 K, .bool l]), (N2, [.int .i64 (b 0).m, .bool (b 0).f, .int .i64 (b 0).n, .int .i64 (b 1).m, .bool (b 1).f, .int .i64 (b 1).n, .int .i64 (b 2).m, .bool (b 2).f, .int .i64 (b 2).n, .int .i64 (b 3).m, .bool (b 3).f, .int .i64 (b 3).n]), (N3, [.int .i64 (u 0).m, .bool (u 0).f, .int .i64 (u 0).n, .int .i64 (u 1).m, .bool (u 1).f, .int .i64 (u 1).n, .int .i64 (u 2).m, .bool (u 2).f, .int .i64 (u 2).n, .int .i64 (u 3).m, .bool (u 3).f, .int .i64 (u 3).n])] w9) := B8.out.step hb; have HR1 : Hid (RI w9 ua N U) := hri; have q0 := (B9.out.box 0 _ _ rfl).cell 0 _ rfl; have q1 := (B9.out.box 0 _ _ rfl).cell 1 _ rfl; have q2 := (B9.out.box 0 _ _ rfl).cell 2 _ rfl; have q3 := (B9.out.box 0 _ _ rfl).cell 3 _ rfl; have q4 := (B9.out.box 0 _ _ rfl).cell 4 _ rfl; have q5 := (B9.out.box 0 _ _ rfl).cell 5 _ rfl; have q6 := (B9.out.box 0 _ _ rfl).cell 6 _ rfl; have q7 := (B9.out.box 0 _ _ rfl).cell 7 _ rfl; have q8 := (B9.out.box 0 _ _ rfl).cell 8 _ rfl; have q9 := (B9.out.box 0 _ _ rfl).cell 9 _ rfl; have q10 := (B9.out.box 0 _ _ rfl).cell 10 _ rfl; have q11 := (B9.out.box 0 _ _ rfl).cell 11 _ rfl; have qq0 := (B9.out.box 1 _ _ rfl).cell 0 _ rfl; have qq1 := (B9.out.box 1 _ _ rfl).cell 1 _ rfl; have qq2 := (B9.out.box 1 _ _ rfl).cell 2 _ rfl; have qq3 := (B9.out.box 1 _ _ rfl).cell 3 _ rfl; clear hri hb) | (go_at_call 14; refine (CV.out _).mono ?_; rintro r w10 ⟨va, vc, rfl, hri, hb⟩; have B10 : Hid (Bxs w [(w.heap.size, [.int .i64 (t 0).m, .bool (t 0).f, .int .i64 (t 0).n, .int .i64 (t 1).m, .bool (t 1).f, .int .i64 (t 1).n, .int .i64 (t 2).m, .bool (t 2).f, .int .i64 (t 2).n, .int .i64 (t 3).m, .bool (t 3).f, .int .i64 (t 3).n]), (w.heap.size + 1, [.bool (o 0), .bool (o 1), .bool (o 2), .bool (o 3)]), (w.heap.size + 1 + 1, [.bool (f 0), .bool (f 1), .bool (f 2), .bool (f 3)]), (N1, [.int .i64 (x 0).m, .bool (x 0).f, .int .i64 (x 0).n, .int .i64 (x 1).m, .bool (x 1).f, .int .i64 (x 1).n, .int .i64 (x 2).m, .bool (x 2).f, .int .i64 (x 2).n, .int .i64 (x 3).m, .bool (x 3).f, .int .i64 (x 3).n]), (N1 + 1, [.int .i64 n, .int .i64 K, .bool l]), (N2, [.int .i64 (b 0).m, .bool (b 0).f, .int .i64 (b 0).n, .int .i64 (b 1).m, .bool (b 1).f, .int .i64 (b 1).n, .int .i64 (b 2).m, .bool (b 2).f, .int .i64 (b 2).n, .int .i64 (b 3).m, .bool (b 3).f, .int .i64 (b 3).n]), (N3, [.int .i64 (u 0).m, .bool (u 0).f, .int .i64 (u 0).n, .int .i64 (u 1).m, .bool (u 1).f, .int .i64 (u 1).n, .int .i64 (u 2).m, .bool (u 2).f, .int .i64 (u 2).n, .int .i64 (u 3).m, .bool (u 3).f, .int .i64 (u 3).n])] w10) := B9.out.step hb; have HR2 : Hid (RI w10 ua N U) := HR1.out.step hb; have HR3 : Hid (RI w10 va N U) := hri; have u0 := (B10.out.box 0 _ _ rfl).cell 0 _ rfl; have u1 := (B10.out.box 0 _ _ rfl).cell 1 _ rfl; have u2 := (B10.out.box 0 _ _ rfl).cell 2 _ rfl; have u3 := (B10.out.box 0 _ _ rfl).cell 3 _ rfl; have u4 := (B10.out.box 0 _ _ rfl).cell 4 _ rfl; have u5 := (B10.out.box 0 _ _ rfl).cell 5 _ rfl; have u6 := (B10.out.box 0 _ _ rfl).cell 6 _ rfl; have u7 := (B10.out.box 0 _ _ rfl).cell 7 _ rfl; have u8 := (B10.out.box 0 _ _ rfl).cell 8 _ rfl; have u9 := (B10.out.box 0 _ _ rfl).cell 9 _ rfl; have u10 := (B10.out.box 0 _ _ rfl).cell 10 _ rfl; have u11 := (B10.out.box 0 _ _ rfl).cell 11 _ rfl; have uu0 := (B10.out.box 1 _ _ rfl).cell 0 _ rfl; have uu1 := (B10.out.box 1 _ _ rfl).cell 1 _ rfl; have uu2 := (B10.out.box 1 _ _ rfl).cell 2 _ rfl; have uu3 := (B10.out.box 1 _ _ rfl).cell 3 _ rfl; clear hri hb) | (go_at_call 12; refine (equalI_same _ _ _ _ _ _ _ hN HR2.out HR3.out).mono ?_; rintro r w11 ⟨rfl, hb⟩; have B11 : Hid (Bxs w [(w.heap.size, [.int .i64 (t 0).m, .bool (t 0).f, .int .i64 (t 0).n, .int .i64 (t 1).m, .bool (t 1).f, .int .i64 (t 1).n, .int .i64 (t 2).m, .bool (t 2).f, .int .i64 (t 2).n, .int .i64 (t 3).m, .bool (t 3).f, .int .i64 (t 3).n]), (w.heap.size + 1, [.bool (o 0), .bool (o 1), .bool (o 2), .bool (o 3)]), (w.heap.size + 1 + 1, [.bool (f 0), .bool (f 1), .bool (f 2), .bool (f 3)]), (N1, [.int .i64 (x 0).m, .bool (x 0).f, .int .i64 (x 0).n, .int .i64 (x 1).m, .bool (x 1).f, .int .i64 (x 1).n, .int .i64 (x 2).m, .bool (x 2).f, .int .i64 (x 2).n, .int .i64 (x 3).m, .bool (x 3).f, .int .i64 (x 3).n]), (N1 + 1, [.int .i64 n, .int .i64 K, .bool l]), (N2, [.int .i64 (b 0).m, .bool (b 0).f, .int .i64 (b 0).n, .int .i64 (b 1).m, .bool (b 1).f, .int .i64 (b 1).n, .int .i64 (b 2).m, .bool (b 2).f, .int .i64 (b 2).n, .int .i64 (b 3).m, .bool (b 3).f, .int .i64 (b 3).n]), (N3, [.int .i64 (u 0).m, .bool (u 0).f, .int .i64 (u 0).n, .int .i64 (u 1).m, .bool (u 1).f, .int .i64 (u 1).n, .int .i64 (u 2).m, .bool (u 2).f, .int .i64 (u 2).n, .int .i64 (u 3).m, .bool (u 3).f, .int .i64 (u 3).n])] w11) := B10.out.step hb; have v0 := (B11.out.box 0 _ _ rfl).cell 0 _ rfl; have v1 := (B11.out.box 0 _ _ rfl).cell 1 _ rfl; have v2 := (B11.out.box 0 _ _ rfl).cell 2 _ rfl; have v3 := (B11.out.box 0 _ _ rfl).cell 3 _ rfl; have v4 := (B11.out.box 0 _ _ rfl).cell 4 _ rfl; have v5 := (B11.out.box 0 _ _ rfl).cell 5 _ rfl; have v6 := (B11.out.box 0 _ _ rfl).cell 6 _ rfl; have v7 := (B11.out.box 0 _ _ rfl).cell 7 _ rfl; have v8 := (B11.out.box 0 _ _ rfl).cell 8 _ rfl; have v9 := (B11.out.box 0 _ _ rfl).cell 9 _ rfl; have v10 := (B11.out.box 0 _ _ rfl).cell 10 _ rfl; have v11 := (B11.out.box 0 _ _ rfl).cell 11 _ rfl; have vv0 := (B11.out.box 1 _ _ rfl).cell 0 _ rfl; have vv1 := (B11.out.box 1 _ _ rfl).cell 1 _ rfl; have vv2 := (B11.out.box 1 _ _ rfl).cell 2 _ rfl; have vv3 := (B11.out.box 1 _ _ rfl).cell 3 _ rfl; clear hb))
  clear cl c0 c1 c2 c3 c4 c5 c6 c7 c8 c9 c10 c11
  clear dl d0 d1 d2 d3
  have cl := (B11.out.box 0 _ _ rfl).lt
  have c0 := (B11.out.box 0 _ _ rfl).cell 0 _ rfl
  have c1 := (B11.out.box 0 _ _ rfl).cell 1 _ rfl
  have c2 := (B11.out.box 0 _ _ rfl).cell 2 _ rfl
  have c3 := (B11.out.box 0 _ _ rfl).cell 3 _ rfl
  have c4 := (B11.out.box 0 _ _ rfl).cell 4 _ rfl
  have c5 := (B11.out.box 0 _ _ rfl).cell 5 _ rfl
  have c6 := (B11.out.box 0 _ _ rfl).cell 6 _ rfl
  have c7 := (B11.out.box 0 _ _ rfl).cell 7 _ rfl
  have c8 := (B11.out.box 0 _ _ rfl).cell 8 _ rfl
  have c9 := (B11.out.box 0 _ _ rfl).cell 9 _ rfl
  have c10 := (B11.out.box 0 _ _ rfl).cell 10 _ rfl
  have c11 := (B11.out.box 0 _ _ rfl).cell 11 _ rfl
  have dl := (B11.out.box 1 _ _ rfl).lt
  have d0 := (B11.out.box 1 _ _ rfl).cell 0 _ rfl
  have d1 := (B11.out.box 1 _ _ rfl).cell 1 _ rfl
  have d2 := (B11.out.box 1 _ _ rfl).cell 2 _ rfl
  have d3 := (B11.out.box 1 _ _ rfl).cell 3 _ rfl
  have el := (B11.out.box 2 _ _ rfl).lt
  have e0 := (B11.out.box 2 _ _ rfl).cell 0 _ rfl
  have e1 := (B11.out.box 2 _ _ rfl).cell 1 _ rfl
  have e2 := (B11.out.box 2 _ _ rfl).cell 2 _ rfl
  have e3 := (B11.out.box 2 _ _ rfl).cell 3 _ rfl
  go_wp2_with fail
  obtain ⟨N4, W12, hW12, hN12, B12', Z12⟩ := B11.out.new #[.int .i64 0, .bool false, .int .i64 0, .int .i64 0, .bool false, .int .i64 0, .int .i64 0, .bool false, .int .i64 0, .int .i64 0, .bool false, .int .i64 0] 25
  rw [hW12]
  have B12 : Hid (_) := B12'
  clear B12' B11 Z12
  clear cl c0 c1 c2 c3 c4 c5 c6 c7 c8 c9 c10 c11
  clear dl d0 d1 d2 d3
  clear el e0 e1 e2 e3
  rw [hN12]
  clear hW12 hN12
  refine (CD.out _).mono ?_
  rintro r w13 ⟨rfl, hb⟩
  have B13 : Hid (_) := B12.out.step hb
  clear hb B12 CD
  have cl := (B13.out.box 0 _ _ rfl).lt
  have c0 := (B13.out.box 0 _ _ rfl).cell 0 _ rfl
  have c1 := (B13.out.box 0 _ _ rfl).cell 1 _ rfl
  have c2 := (B13.out.box 0 _ _ rfl).cell 2 _ rfl
  have c3 := (B13.out.box 0 _ _ rfl).cell 3 _ rfl
  have c4 := (B13.out.box 0 _ _ rfl).cell 4 _ rfl
  have c5 := (B13.out.box 0 _ _ rfl).cell 5 _ rfl
  have c6 := (B13.out.box 0 _ _ rfl).cell 6 _ rfl
  have c7 := (B13.out.box 0 _ _ rfl).cell 7 _ rfl
  have c8 := (B13.out.box 0 _ _ rfl).cell 8 _ rfl
  have c9 := (B13.out.box 0 _ _ rfl).cell 9 _ rfl
  have c10 := (B13.out.box 0 _ _ rfl).cell 10 _ rfl
  have c11 := (B13.out.box 0 _ _ rfl).cell 11 _ rfl
  go_wp2_with fail
  obtain ⟨N5, W14, hW14, hN14, B14', Z14⟩ := B13.out.newThree #[.int .i64 (x 0).m, .bool (x 0).f, .int .i64 (x 0).n, .int .i64 (x 1).m, .bool (x 1).f, .int .i64 (x 1).n, .int .i64 (x 2).m, .bool (x 2).f, .int .i64 (x 2).n, .int .i64 (x 3).m, .bool (x 3).f, .int .i64 (x 3).n] #[.int .i64 n, .int .i64 K, .bool l] #[.int .i64 (t 0).m, .bool (t 0).f, .int .i64 (t 0).n, .int .i64 (t 1).m, .bool (t 1).f, .int .i64 (t 1).n, .int .i64 (t 2).m, .bool (t 2).f, .int .i64 (t 2).n, .int .i64 (t 3).m, .bool (t 3).f, .int .i64 (t 3).n] 25 30 25
  rw [hW14]
  have B14 : Hid (Bxs w [(w.heap.size, [.int .i64 (t 0).m, .bool (t 0).f, .int .i64 (t 0).n, .int .i64 (t 1).m, .bool (t 1).f, .int .i64 (t 1).n, .int .i64 (t 2).m, .bool (t 2).f, .int .i64 (t 2).n, .int .i64 (t 3).m, .bool (t 3).f, .int .i64 (t 3).n]), (w.heap.size + 1, [.bool (o 0), .bool (o 1), .bool (o 2), .bool (o 3)]), (w.heap.size + 1 + 1, [.bool (f 0), .bool (f 1), .bool (f 2), .bool (f 3)]), (N1, [.int .i64 (x 0).m, .bool (x 0).f, .int .i64 (x 0).n, .int .i64 (x 1).m, .bool (x 1).f, .int .i64 (x 1).n, .int .i64 (x 2).m, .bool (x 2).f, .int .i64 (x 2).n, .int .i64 (x 3).m, .bool (x 3).f, .int .i64 (x 3).n]), (N1 + 1, [.int .i64 n, .int .i64 K, .bool l]), (N2, [.int .i64 (b 0).m, .bool (b 0).f, .int .i64 (b 0).n, .int .i64 (b 1).m, .bool (b 1).f, .int .i64 (b 1).n, .int .i64 (b 2).m, .bool (b 2).f, .int .i64 (b 2).n, .int .i64 (b 3).m, .bool (b 3).f, .int .i64 (b 3).n]), (N3, [.int .i64 (u 0).m, .bool (u 0).f, .int .i64 (u 0).n, .int .i64 (u 1).m, .bool (u 1).f, .int .i64 (u 1).n, .int .i64 (u 2).m, .bool (u 2).f, .int .i64 (u 2).n, .int .i64 (u 3).m, .bool (u 3).f, .int .i64 (u 3).n]), (N4, [.int .i64 0, .bool false, .int .i64 0, .int .i64 0, .bool false, .int .i64 0, .int .i64 0, .bool false, .int .i64 0, .int .i64 0, .bool false, .int .i64 0]), (N5, [.int .i64 (x 0).m, .bool (x 0).f, .int .i64 (x 0).n, .int .i64 (x 1).m, .bool (x 1).f, .int .i64 (x 1).n, .int .i64 (x 2).m, .bool (x 2).f, .int .i64 (x 2).n, .int .i64 (x 3).m, .bool (x 3).f, .int .i64 (x 3).n]), (N5 + 1, [.int .i64 n, .int .i64 K, .bool l]), (N5 + 1 + 1, [.int .i64 ((upS 0 t u) 0).m, .bool ((upS 0 t u) 0).f, .int .i64 ((upS 0 t u) 0).n, .int .i64 ((upS 0 t u) 1).m, .bool ((upS 0 t u) 1).f, .int .i64 ((upS 0 t u) 1).n, .int .i64 ((upS 0 t u) 2).m, .bool ((upS 0 t u) 2).f, .int .i64 ((upS 0 t u) 2).n, .int .i64 ((upS 0 t u) 3).m, .bool ((upS 0 t u) 3).f, .int .i64 ((upS 0 t u) 3).n])] W14) := B14'
  clear B14' B13 Z14
  clear cl c0 c1 c2 c3 c4 c5 c6 c7 c8 c9 c10 c11
  rw [hN14]
  clear hW14 hN14
  go_loopg [104] (5) (fun g1 s wr => ∃ j : Nat, s = .int .i64 j ∧ 4 - j < g1 ∧ j ≤ 4 ∧ Hid (Bxs w [(w.heap.size, [.int .i64 (t 0).m, .bool (t 0).f, .int .i64 (t 0).n, .int .i64 (t 1).m, .bool (t 1).f, .int .i64 (t 1).n, .int .i64 (t 2).m, .bool (t 2).f, .int .i64 (t 2).n, .int .i64 (t 3).m, .bool (t 3).f, .int .i64 (t 3).n]), (w.heap.size + 1, [.bool (o 0), .bool (o 1), .bool (o 2), .bool (o 3)]), (w.heap.size + 1 + 1, [.bool (f 0), .bool (f 1), .bool (f 2), .bool (f 3)]), (N1, [.int .i64 (x 0).m, .bool (x 0).f, .int .i64 (x 0).n, .int .i64 (x 1).m, .bool (x 1).f, .int .i64 (x 1).n, .int .i64 (x 2).m, .bool (x 2).f, .int .i64 (x 2).n, .int .i64 (x 3).m, .bool (x 3).f, .int .i64 (x 3).n]), (N1 + 1, [.int .i64 n, .int .i64 K, .bool l]), (N2, [.int .i64 (b 0).m, .bool (b 0).f, .int .i64 (b 0).n, .int .i64 (b 1).m, .bool (b 1).f, .int .i64 (b 1).n, .int .i64 (b 2).m, .bool (b 2).f, .int .i64 (b 2).n, .int .i64 (b 3).m, .bool (b 3).f, .int .i64 (b 3).n]), (N3, [.int .i64 (u 0).m, .bool (u 0).f, .int .i64 (u 0).n, .int .i64 (u 1).m, .bool (u 1).f, .int .i64 (u 1).n, .int .i64 (u 2).m, .bool (u 2).f, .int .i64 (u 2).n, .int .i64 (u 3).m, .bool (u 3).f, .int .i64 (u 3).n]), (N4, [.int .i64 0, .bool false, .int .i64 0, .int .i64 0, .bool false, .int .i64 0, .int .i64 0, .bool false, .int .i64 0, .int .i64 0, .bool false, .int .i64 0]), (N5, [.int .i64 (x 0).m, .bool (x 0).f, .int .i64 (x 0).n, .int .i64 (x 1).m, .bool (x 1).f, .int .i64 (x 1).n, .int .i64 (x 2).m, .bool (x 2).f, .int .i64 (x 2).n, .int .i64 (x 3).m, .bool (x 3).f, .int .i64 (x 3).n]), (N5 + 1, [.int .i64 n, .int .i64 K, .bool l]), (N5 + 1 + 1, [.int .i64 ((upS j t u) 0).m, .bool ((upS j t u) 0).f, .int .i64 ((upS j t u) 0).n, .int .i64 ((upS j t u) 1).m, .bool ((upS j t u) 1).f, .int .i64 ((upS j t u) 1).n, .int .i64 ((upS j t u) 2).m, .bool ((upS j t u) 2).f, .int .i64 ((upS j t u) 2).n, .int .i64 ((upS j t u) 3).m, .bool ((upS j t u) 3).f, .int .i64 ((upS j t u) 3).n])] wr))
  case atStart => exact ⟨0, rfl, by omega, by omega, B14⟩
  case round =>
    obtain ⟨j, rfl, hg, hj, HB⟩ := hrel
    clear B14
    by_cases hlt : j < 4
    · obtain rfl | rfl | rfl | rfl := cases4 hlt
      · have CL : Hid (_) := CN.out 0 (by omega)
        have cl := (HB.out.box 0 _ _ rfl).lt
        have c0 := (HB.out.box 0 _ _ rfl).cell 0 _ rfl
        have c1 := (HB.out.box 0 _ _ rfl).cell 1 _ rfl
        have c2 := (HB.out.box 0 _ _ rfl).cell 2 _ rfl
        have c3 := (HB.out.box 0 _ _ rfl).cell 3 _ rfl
        have c4 := (HB.out.box 0 _ _ rfl).cell 4 _ rfl
        have c5 := (HB.out.box 0 _ _ rfl).cell 5 _ rfl
        have c6 := (HB.out.box 0 _ _ rfl).cell 6 _ rfl
        have c7 := (HB.out.box 0 _ _ rfl).cell 7 _ rfl
        have c8 := (HB.out.box 0 _ _ rfl).cell 8 _ rfl
        have c9 := (HB.out.box 0 _ _ rfl).cell 9 _ rfl
        have c10 := (HB.out.box 0 _ _ rfl).cell 10 _ rfl
        have c11 := (HB.out.box 0 _ _ rfl).cell 11 _ rfl
        go_wp2_with fail
        refine (CL.out _).mono ?_
        rintro r w15 ⟨rfl, hb⟩
        have HB2 : Hid (_) := HB.out.step hb
        clear hb HB CL
        clear cl c0 c1 c2 c3 c4 c5 c6 c7 c8 c9 c10 c11
        have cl := (HB2.out.box 10 _ _ rfl).lt
        have c0 := (HB2.out.box 10 _ _ rfl).cell 0 _ rfl
        have c1 := (HB2.out.box 10 _ _ rfl).cell 1 _ rfl
        have c2 := (HB2.out.box 10 _ _ rfl).cell 2 _ rfl
        have c3 := (HB2.out.box 10 _ _ rfl).cell 3 _ rfl
        have c4 := (HB2.out.box 10 _ _ rfl).cell 4 _ rfl
        have c5 := (HB2.out.box 10 _ _ rfl).cell 5 _ rfl
        have c6 := (HB2.out.box 10 _ _ rfl).cell 6 _ rfl
        have c7 := (HB2.out.box 10 _ _ rfl).cell 7 _ rfl
        have c8 := (HB2.out.box 10 _ _ rfl).cell 8 _ rfl
        have c9 := (HB2.out.box 10 _ _ rfl).cell 9 _ rfl
        have c10 := (HB2.out.box 10 _ _ rfl).cell 10 _ rfl
        have c11 := (HB2.out.box 10 _ _ rfl).cell 11 _ rfl
        have cf0 := (HB2.out.box 10 _ _ rfl).froz 0 _ rfl
        have cf1 := (HB2.out.box 10 _ _ rfl).froz 1 _ rfl
        have cf2 := (HB2.out.box 10 _ _ rfl).froz 2 _ rfl
        have cf3 := (HB2.out.box 10 _ _ rfl).froz 3 _ rfl
        have cf4 := (HB2.out.box 10 _ _ rfl).froz 4 _ rfl
        have cf5 := (HB2.out.box 10 _ _ rfl).froz 5 _ rfl
        have cf6 := (HB2.out.box 10 _ _ rfl).froz 6 _ rfl
        have cf7 := (HB2.out.box 10 _ _ rfl).froz 7 _ rfl
        have cf8 := (HB2.out.box 10 _ _ rfl).froz 8 _ rfl
        have cf9 := (HB2.out.box 10 _ _ rfl).froz 9 _ rfl
        have cf10 := (HB2.out.box 10 _ _ rfl).froz 10 _ rfl
        have cf11 := (HB2.out.box 10 _ _ rfl).froz 11 _ rfl
        go_wp2_with fail
        obtain ⟨w16, hw16, HB3'⟩ := HB2.out.lane 10 _ (upS 0 t u) rfl 0 (by omega) 0 1 2 rfl rfl rfl (u 0)
        rw [hw16]
        rw [putS_up] at HB3'
        have HB3 : Hid (Bxs w [(w.heap.size, [.int .i64 (t 0).m, .bool (t 0).f, .int .i64 (t 0).n, .int .i64 (t 1).m, .bool (t 1).f, .int .i64 (t 1).n, .int .i64 (t 2).m, .bool (t 2).f, .int .i64 (t 2).n, .int .i64 (t 3).m, .bool (t 3).f, .int .i64 (t 3).n]), (w.heap.size + 1, [.bool (o 0), .bool (o 1), .bool (o 2), .bool (o 3)]), (w.heap.size + 1 + 1, [.bool (f 0), .bool (f 1), .bool (f 2), .bool (f 3)]), (N1, [.int .i64 (x 0).m, .bool (x 0).f, .int .i64 (x 0).n, .int .i64 (x 1).m, .bool (x 1).f, .int .i64 (x 1).n, .int .i64 (x 2).m, .bool (x 2).f, .int .i64 (x 2).n, .int .i64 (x 3).m, .bool (x 3).f, .int .i64 (x 3).n]), (N1 + 1, [.int .i64 n, .int .i64 K, .bool l]), (N2, [.int .i64 (b 0).m, .bool (b 0).f, .int .i64 (b 0).n, .int .i64 (b 1).m, .bool (b 1).f, .int .i64 (b 1).n, .int .i64 (b 2).m, .bool (b 2).f, .int .i64 (b 2).n, .int .i64 (b 3).m, .bool (b 3).f, .int .i64 (b 3).n]), (N3, [.int .i64 (u 0).m, .bool (u 0).f, .int .i64 (u 0).n, .int .i64 (u 1).m, .bool (u 1).f, .int .i64 (u 1).n, .int .i64 (u 2).m, .bool (u 2).f, .int .i64 (u 2).n, .int .i64 (u 3).m, .bool (u 3).f, .int .i64 (u 3).n]), (N4, [.int .i64 0, .bool false, .int .i64 0, .int .i64 0, .bool false, .int .i64 0, .int .i64 0, .bool false, .int .i64 0, .int .i64 0, .bool false, .int .i64 0]), (N5, [.int .i64 (x 0).m, .bool (x 0).f, .int .i64 (x 0).n, .int .i64 (x 1).m, .bool (x 1).f, .int .i64 (x 1).n, .int .i64 (x 2).m, .bool (x 2).f, .int .i64 (x 2).n, .int .i64 (x 3).m, .bool (x 3).f, .int .i64 (x 3).n]), (N5 + 1, [.int .i64 n, .int .i64 K, .bool l]), (N5 + 1 + 1, [.int .i64 ((upS (0 + 1) t u) 0).m, .bool ((upS (0 + 1) t u) 0).f, .int .i64 ((upS (0 + 1) t u) 0).n, .int .i64 ((upS (0 + 1) t u) 1).m, .bool ((upS (0 + 1) t u) 1).f, .int .i64 ((upS (0 + 1) t u) 1).n, .int .i64 ((upS (0 + 1) t u) 2).m, .bool ((upS (0 + 1) t u) 2).f, .int .i64 ((upS (0 + 1) t u) 2).n, .int .i64 ((upS (0 + 1) t u) 3).m, .bool ((upS (0 + 1) t u) 3).f, .int .i64 ((upS (0 + 1) t u) 3).n])] w16) := HB3'
        clear hw16 HB3'
        go_roundg (4 - (0 + 1) + 1)
        case measure => omega
        case rel => exact ⟨1, rfl, by omega, by omega, HB3.out⟩
      · have CL : Hid (_) := CN.out 1 (by omega)
        have cl := (HB.out.box 0 _ _ rfl).lt
        have c0 := (HB.out.box 0 _ _ rfl).cell 0 _ rfl
        have c1 := (HB.out.box 0 _ _ rfl).cell 1 _ rfl
        have c2 := (HB.out.box 0 _ _ rfl).cell 2 _ rfl
        have c3 := (HB.out.box 0 _ _ rfl).cell 3 _ rfl
        have c4 := (HB.out.box 0 _ _ rfl).cell 4 _ rfl
        have c5 := (HB.out.box 0 _ _ rfl).cell 5 _ rfl
        have c6 := (HB.out.box 0 _ _ rfl).cell 6 _ rfl
        have c7 := (HB.out.box 0 _ _ rfl).cell 7 _ rfl
        have c8 := (HB.out.box 0 _ _ rfl).cell 8 _ rfl
        have c9 := (HB.out.box 0 _ _ rfl).cell 9 _ rfl
        have c10 := (HB.out.box 0 _ _ rfl).cell 10 _ rfl
        have c11 := (HB.out.box 0 _ _ rfl).cell 11 _ rfl
        go_wp2_with fail
        refine (CL.out _).mono ?_
        rintro r w15 ⟨rfl, hb⟩
        have HB2 : Hid (_) := HB.out.step hb
        clear hb HB CL
        clear cl c0 c1 c2 c3 c4 c5 c6 c7 c8 c9 c10 c11
        have cl := (HB2.out.box 10 _ _ rfl).lt
        have c0 := (HB2.out.box 10 _ _ rfl).cell 0 _ rfl
        have c1 := (HB2.out.box 10 _ _ rfl).cell 1 _ rfl
        have c2 := (HB2.out.box 10 _ _ rfl).cell 2 _ rfl
        have c3 := (HB2.out.box 10 _ _ rfl).cell 3 _ rfl
        have c4 := (HB2.out.box 10 _ _ rfl).cell 4 _ rfl
        have c5 := (HB2.out.box 10 _ _ rfl).cell 5 _ rfl
        have c6 := (HB2.out.box 10 _ _ rfl).cell 6 _ rfl
        have c7 := (HB2.out.box 10 _ _ rfl).cell 7 _ rfl
        have c8 := (HB2.out.box 10 _ _ rfl).cell 8 _ rfl
        have c9 := (HB2.out.box 10 _ _ rfl).cell 9 _ rfl
        have c10 := (HB2.out.box 10 _ _ rfl).cell 10 _ rfl
        have c11 := (HB2.out.box 10 _ _ rfl).cell 11 _ rfl
        have cf0 := (HB2.out.box 10 _ _ rfl).froz 0 _ rfl
        have cf1 := (HB2.out.box 10 _ _ rfl).froz 1 _ rfl
        have cf2 := (HB2.out.box 10 _ _ rfl).froz 2 _ rfl
        have cf3 := (HB2.out.box 10 _ _ rfl).froz 3 _ rfl
        have cf4 := (HB2.out.box 10 _ _ rfl).froz 4 _ rfl
        have cf5 := (HB2.out.box 10 _ _ rfl).froz 5 _ rfl
        have cf6 := (HB2.out.box 10 _ _ rfl).froz 6 _ rfl
        have cf7 := (HB2.out.box 10 _ _ rfl).froz 7 _ rfl
        have cf8 := (HB2.out.box 10 _ _ rfl).froz 8 _ rfl
        have cf9 := (HB2.out.box 10 _ _ rfl).froz 9 _ rfl
        have cf10 := (HB2.out.box 10 _ _ rfl).froz 10 _ rfl
        have cf11 := (HB2.out.box 10 _ _ rfl).froz 11 _ rfl
        go_wp2_with fail
        obtain ⟨w16, hw16, HB3'⟩ := HB2.out.lane 10 _ (upS 1 t u) rfl 1 (by omega) 3 4 5 rfl rfl rfl (u 1)
        rw [hw16]
        rw [putS_up] at HB3'
        have HB3 : Hid (Bxs w [(w.heap.size, [.int .i64 (t 0).m, .bool (t 0).f, .int .i64 (t 0).n, .int .i64 (t 1).m, .bool (t 1).f, .int .i64 (t 1).n, .int .i64 (t 2).m, .bool (t 2).f, .int .i64 (t 2).n, .int .i64 (t 3).m, .bool (t 3).f, .int .i64 (t 3).n]), (w.heap.size + 1, [.bool (o 0), .bool (o 1), .bool (o 2), .bool (o 3)]), (w.heap.size + 1 + 1, [.bool (f 0), .bool (f 1), .bool (f 2), .bool (f 3)]), (N1, [.int .i64 (x 0).m, .bool (x 0).f, .int .i64 (x 0).n, .int .i64 (x 1).m, .bool (x 1).f, .int .i64 (x 1).n, .int .i64 (x 2).m, .bool (x 2).f, .int .i64 (x 2).n, .int .i64 (x 3).m, .bool (x 3).f, .int .i64 (x 3).n]), (N1 + 1, [.int .i64 n, .int .i64 K, .bool l]), (N2, [.int .i64 (b 0).m, .bool (b 0).f, .int .i64 (b 0).n, .int .i64 (b 1).m, .bool (b 1).f, .int .i64 (b 1).n, .int .i64 (b 2).m, .bool (b 2).f, .int .i64 (b 2).n, .int .i64 (b 3).m, .bool (b 3).f, .int .i64 (b 3).n]), (N3, [.int .i64 (u 0).m, .bool (u 0).f, .int .i64 (u 0).n, .int .i64 (u 1).m, .bool (u 1).f, .int .i64 (u 1).n, .int .i64 (u 2).m, .bool (u 2).f, .int .i64 (u 2).n, .int .i64 (u 3).m, .bool (u 3).f, .int .i64 (u 3).n]), (N4, [.int .i64 0, .bool false, .int .i64 0, .int .i64 0, .bool false, .int .i64 0, .int .i64 0, .bool false, .int .i64 0, .int .i64 0, .bool false, .int .i64 0]), (N5, [.int .i64 (x 0).m, .bool (x 0).f, .int .i64 (x 0).n, .int .i64 (x 1).m, .bool (x 1).f, .int .i64 (x 1).n, .int .i64 (x 2).m, .bool (x 2).f, .int .i64 (x 2).n, .int .i64 (x 3).m, .bool (x 3).f, .int .i64 (x 3).n]), (N5 + 1, [.int .i64 n, .int .i64 K, .bool l]), (N5 + 1 + 1, [.int .i64 ((upS (1 + 1) t u) 0).m, .bool ((upS (1 + 1) t u) 0).f, .int .i64 ((upS (1 + 1) t u) 0).n, .int .i64 ((upS (1 + 1) t u) 1).m, .bool ((upS (1 + 1) t u) 1).f, .int .i64 ((upS (1 + 1) t u) 1).n, .int .i64 ((upS (1 + 1) t u) 2).m, .bool ((upS (1 + 1) t u) 2).f, .int .i64 ((upS (1 + 1) t u) 2).n, .int .i64 ((upS (1 + 1) t u) 3).m, .bool ((upS (1 + 1) t u) 3).f, .int .i64 ((upS (1 + 1) t u) 3).n])] w16) := HB3'
        clear hw16 HB3'
        go_roundg (4 - (1 + 1) + 1)
        case measure => omega
        case rel => exact ⟨2, rfl, by omega, by omega, HB3.out⟩
      · have CL : Hid (_) := CN.out 2 (by omega)
        have cl := (HB.out.box 0 _ _ rfl).lt
        have c0 := (HB.out.box 0 _ _ rfl).cell 0 _ rfl
        have c1 := (HB.out.box 0 _ _ rfl).cell 1 _ rfl
        have c2 := (HB.out.box 0 _ _ rfl).cell 2 _ rfl
        have c3 := (HB.out.box 0 _ _ rfl).cell 3 _ rfl
        have c4 := (HB.out.box 0 _ _ rfl).cell 4 _ rfl
        have c5 := (HB.out.box 0 _ _ rfl).cell 5 _ rfl
        have c6 := (HB.out.box 0 _ _ rfl).cell 6 _ rfl
        have c7 := (HB.out.box 0 _ _ rfl).cell 7 _ rfl
        have c8 := (HB.out.box 0 _ _ rfl).cell 8 _ rfl
        have c9 := (HB.out.box 0 _ _ rfl).cell 9 _ rfl
        have c10 := (HB.out.box 0 _ _ rfl).cell 10 _ rfl
        have c11 := (HB.out.box 0 _ _ rfl).cell 11 _ rfl
        go_wp2_with fail
        refine (CL.out _).mono ?_
        rintro r w15 ⟨rfl, hb⟩
        have HB2 : Hid (_) := HB.out.step hb
        clear hb HB CL
        clear cl c0 c1 c2 c3 c4 c5 c6 c7 c8 c9 c10 c11
        have cl := (HB2.out.box 10 _ _ rfl).lt
        have c0 := (HB2.out.box 10 _ _ rfl).cell 0 _ rfl
        have c1 := (HB2.out.box 10 _ _ rfl).cell 1 _ rfl
        have c2 := (HB2.out.box 10 _ _ rfl).cell 2 _ rfl
        have c3 := (HB2.out.box 10 _ _ rfl).cell 3 _ rfl
        have c4 := (HB2.out.box 10 _ _ rfl).cell 4 _ rfl
        have c5 := (HB2.out.box 10 _ _ rfl).cell 5 _ rfl
        have c6 := (HB2.out.box 10 _ _ rfl).cell 6 _ rfl
        have c7 := (HB2.out.box 10 _ _ rfl).cell 7 _ rfl
        have c8 := (HB2.out.box 10 _ _ rfl).cell 8 _ rfl
        have c9 := (HB2.out.box 10 _ _ rfl).cell 9 _ rfl
        have c10 := (HB2.out.box 10 _ _ rfl).cell 10 _ rfl
        have c11 := (HB2.out.box 10 _ _ rfl).cell 11 _ rfl
        have cf0 := (HB2.out.box 10 _ _ rfl).froz 0 _ rfl
        have cf1 := (HB2.out.box 10 _ _ rfl).froz 1 _ rfl
        have cf2 := (HB2.out.box 10 _ _ rfl).froz 2 _ rfl
        have cf3 := (HB2.out.box 10 _ _ rfl).froz 3 _ rfl
        have cf4 := (HB2.out.box 10 _ _ rfl).froz 4 _ rfl
        have cf5 := (HB2.out.box 10 _ _ rfl).froz 5 _ rfl
        have cf6 := (HB2.out.box 10 _ _ rfl).froz 6 _ rfl
        have cf7 := (HB2.out.box 10 _ _ rfl).froz 7 _ rfl
        have cf8 := (HB2.out.box 10 _ _ rfl).froz 8 _ rfl
        have cf9 := (HB2.out.box 10 _ _ rfl).froz 9 _ rfl
        have cf10 := (HB2.out.box 10 _ _ rfl).froz 10 _ rfl
        have cf11 := (HB2.out.box 10 _ _ rfl).froz 11 _ rfl
        go_wp2_with fail
        obtain ⟨w16, hw16, HB3'⟩ := HB2.out.lane 10 _ (upS 2 t u) rfl 2 (by omega) 6 7 8 rfl rfl rfl (u 2)
        rw [hw16]
        rw [putS_up] at HB3'
        have HB3 : Hid (Bxs w [(w.heap.size, [.int .i64 (t 0).m, .bool (t 0).f, .int .i64 (t 0).n, .int .i64 (t 1).m, .bool (t 1).f, .int .i64 (t 1).n, .int .i64 (t 2).m, .bool (t 2).f, .int .i64 (t 2).n, .int .i64 (t 3).m, .bool (t 3).f, .int .i64 (t 3).n]), (w.heap.size + 1, [.bool (o 0), .bool (o 1), .bool (o 2), .bool (o 3)]), (w.heap.size + 1 + 1, [.bool (f 0), .bool (f 1), .bool (f 2), .bool (f 3)]), (N1, [.int .i64 (x 0).m, .bool (x 0).f, .int .i64 (x 0).n, .int .i64 (x 1).m, .bool (x 1).f, .int .i64 (x 1).n, .int .i64 (x 2).m, .bool (x 2).f, .int .i64 (x 2).n, .int .i64 (x 3).m, .bool (x 3).f, .int .i64 (x 3).n]), (N1 + 1, [.int .i64 n, .int .i64 K, .bool l]), (N2, [.int .i64 (b 0).m, .bool (b 0).f, .int .i64 (b 0).n, .int .i64 (b 1).m, .bool (b 1).f, .int .i64 (b 1).n, .int .i64 (b 2).m, .bool (b 2).f, .int .i64 (b 2).n, .int .i64 (b 3).m, .bool (b 3).f, .int .i64 (b 3).n]), (N3, [.int .i64 (u 0).m, .bool (u 0).f, .int .i64 (u 0).n, .int .i64 (u 1).m, .bool (u 1).f, .int .i64 (u 1).n, .int .i64 (u 2).m, .bool (u 2).f, .int .i64 (u 2).n, .int .i64 (u 3).m, .bool (u 3).f, .int .i64 (u 3).n]), (N4, [.int .i64 0, .bool false, .int .i64 0, .int .i64 0, .bool false, .int .i64 0, .int .i64 0, .bool false, .int .i64 0, .int .i64 0, .bool false, .int .i64 0]), (N5, [.int .i64 (x 0).m, .bool (x 0).f, .int .i64 (x 0).n, .int .i64 (x 1).m, .bool (x 1).f, .int .i64 (x 1).n, .int .i64 (x 2).m, .bool (x 2).f, .int .i64 (x 2).n, .int .i64 (x 3).m, .bool (x 3).f, .int .i64 (x 3).n]), (N5 + 1, [.int .i64 n, .int .i64 K, .bool l]), (N5 + 1 + 1, [.int .i64 ((upS (2 + 1) t u) 0).m, .bool ((upS (2 + 1) t u) 0).f, .int .i64 ((upS (2 + 1) t u) 0).n, .int .i64 ((upS (2 + 1) t u) 1).m, .bool ((upS (2 + 1) t u) 1).f, .int .i64 ((upS (2 + 1) t u) 1).n, .int .i64 ((upS (2 + 1) t u) 2).m, .bool ((upS (2 + 1) t u) 2).f, .int .i64 ((upS (2 + 1) t u) 2).n, .int .i64 ((upS (2 + 1) t u) 3).m, .bool ((upS (2 + 1) t u) 3).f, .int .i64 ((upS (2 + 1) t u) 3).n])] w16) := HB3'
        clear hw16 HB3'
        go_roundg (4 - (2 + 1) + 1)
        case measure => omega
        case rel => exact ⟨3, rfl, by omega, by omega, HB3.out⟩
      · have CL : Hid (_) := CN.out 3 (by omega)
        have cl := (HB.out.box 0 _ _ rfl).lt
        have c0 := (HB.out.box 0 _ _ rfl).cell 0 _ rfl
        have c1 := (HB.out.box 0 _ _ rfl).cell 1 _ rfl
        have c2 := (HB.out.box 0 _ _ rfl).cell 2 _ rfl
        have c3 := (HB.out.box 0 _ _ rfl).cell 3 _ rfl
        have c4 := (HB.out.box 0 _ _ rfl).cell 4 _ rfl
        have c5 := (HB.out.box 0 _ _ rfl).cell 5 _ rfl
        have c6 := (HB.out.box 0 _ _ rfl).cell 6 _ rfl
        have c7 := (HB.out.box 0 _ _ rfl).cell 7 _ rfl
        have c8 := (HB.out.box 0 _ _ rfl).cell 8 _ rfl
        have c9 := (HB.out.box 0 _ _ rfl).cell 9 _ rfl
        have c10 := (HB.out.box 0 _ _ rfl).cell 10 _ rfl
        have c11 := (HB.out.box 0 _ _ rfl).cell 11 _ rfl
        go_wp2_with fail
        refine (CL.out _).mono ?_
        rintro r w15 ⟨rfl, hb⟩
        have HB2 : Hid (_) := HB.out.step hb
        clear hb HB CL
        clear cl c0 c1 c2 c3 c4 c5 c6 c7 c8 c9 c10 c11
        have cl := (HB2.out.box 10 _ _ rfl).lt
        have c0 := (HB2.out.box 10 _ _ rfl).cell 0 _ rfl
        have c1 := (HB2.out.box 10 _ _ rfl).cell 1 _ rfl
        have c2 := (HB2.out.box 10 _ _ rfl).cell 2 _ rfl
        have c3 := (HB2.out.box 10 _ _ rfl).cell 3 _ rfl
        have c4 := (HB2.out.box 10 _ _ rfl).cell 4 _ rfl
        have c5 := (HB2.out.box 10 _ _ rfl).cell 5 _ rfl
        have c6 := (HB2.out.box 10 _ _ rfl).cell 6 _ rfl
        have c7 := (HB2.out.box 10 _ _ rfl).cell 7 _ rfl
        have c8 := (HB2.out.box 10 _ _ rfl).cell 8 _ rfl
        have c9 := (HB2.out.box 10 _ _ rfl).cell 9 _ rfl
        have c10 := (HB2.out.box 10 _ _ rfl).cell 10 _ rfl
        have c11 := (HB2.out.box 10 _ _ rfl).cell 11 _ rfl
        have cf0 := (HB2.out.box 10 _ _ rfl).froz 0 _ rfl
        have cf1 := (HB2.out.box 10 _ _ rfl).froz 1 _ rfl
        have cf2 := (HB2.out.box 10 _ _ rfl).froz 2 _ rfl
        have cf3 := (HB2.out.box 10 _ _ rfl).froz 3 _ rfl
        have cf4 := (HB2.out.box 10 _ _ rfl).froz 4 _ rfl
        have cf5 := (HB2.out.box 10 _ _ rfl).froz 5 _ rfl
        have cf6 := (HB2.out.box 10 _ _ rfl).froz 6 _ rfl
        have cf7 := (HB2.out.box 10 _ _ rfl).froz 7 _ rfl
        have cf8 := (HB2.out.box 10 _ _ rfl).froz 8 _ rfl
        have cf9 := (HB2.out.box 10 _ _ rfl).froz 9 _ rfl
        have cf10 := (HB2.out.box 10 _ _ rfl).froz 10 _ rfl
        have cf11 := (HB2.out.box 10 _ _ rfl).froz 11 _ rfl
        go_wp2_with fail
        obtain ⟨w16, hw16, HB3'⟩ := HB2.out.lane 10 _ (upS 3 t u) rfl 3 (by omega) 9 10 11 rfl rfl rfl (u 3)
        rw [hw16]
        rw [putS_up] at HB3'
        have HB3 : Hid (Bxs w [(w.heap.size, [.int .i64 (t 0).m, .bool (t 0).f, .int .i64 (t 0).n, .int .i64 (t 1).m, .bool (t 1).f, .int .i64 (t 1).n, .int .i64 (t 2).m, .bool (t 2).f, .int .i64 (t 2).n, .int .i64 (t 3).m, .bool (t 3).f, .int .i64 (t 3).n]), (w.heap.size + 1, [.bool (o 0), .bool (o 1), .bool (o 2), .bool (o 3)]), (w.heap.size + 1 + 1, [.bool (f 0), .bool (f 1), .bool (f 2), .bool (f 3)]), (N1, [.int .i64 (x 0).m, .bool (x 0).f, .int .i64 (x 0).n, .int .i64 (x 1).m, .bool (x 1).f, .int .i64 (x 1).n, .int .i64 (x 2).m, .bool (x 2).f, .int .i64 (x 2).n, .int .i64 (x 3).m, .bool (x 3).f, .int .i64 (x 3).n]), (N1 + 1, [.int .i64 n, .int .i64 K, .bool l]), (N2, [.int .i64 (b 0).m, .bool (b 0).f, .int .i64 (b 0).n, .int .i64 (b 1).m, .bool (b 1).f, .int .i64 (b 1).n, .int .i64 (b 2).m, .bool (b 2).f, .int .i64 (b 2).n, .int .i64 (b 3).m, .bool (b 3).f, .int .i64 (b 3).n]), (N3, [.int .i64 (u 0).m, .bool (u 0).f, .int .i64 (u 0).n, .int .i64 (u 1).m, .bool (u 1).f, .int .i64 (u 1).n, .int .i64 (u 2).m, .bool (u 2).f, .int .i64 (u 2).n, .int .i64 (u 3).m, .bool (u 3).f, .int .i64 (u 3).n]), (N4, [.int .i64 0, .bool false, .int .i64 0, .int .i64 0, .bool false, .int .i64 0, .int .i64 0, .bool false, .int .i64 0, .int .i64 0, .bool false, .int .i64 0]), (N5, [.int .i64 (x 0).m, .bool (x 0).f, .int .i64 (x 0).n, .int .i64 (x 1).m, .bool (x 1).f, .int .i64 (x 1).n, .int .i64 (x 2).m, .bool (x 2).f, .int .i64 (x 2).n, .int .i64 (x 3).m, .bool (x 3).f, .int .i64 (x 3).n]), (N5 + 1, [.int .i64 n, .int .i64 K, .bool l]), (N5 + 1 + 1, [.int .i64 ((upS (3 + 1) t u) 0).m, .bool ((upS (3 + 1) t u) 0).f, .int .i64 ((upS (3 + 1) t u) 0).n, .int .i64 ((upS (3 + 1) t u) 1).m, .bool ((upS (3 + 1) t u) 1).f, .int .i64 ((upS (3 + 1) t u) 1).n, .int .i64 ((upS (3 + 1) t u) 2).m, .bool ((upS (3 + 1) t u) 2).f, .int .i64 ((upS (3 + 1) t u) 2).n, .int .i64 ((upS (3 + 1) t u) 3).m, .bool ((upS (3 + 1) t u) 3).f, .int .i64 ((upS (3 + 1) t u) 3).n])] w16) := HB3'
        clear hw16 HB3'
        go_roundg (4 - (3 + 1) + 1)
        case measure => omega
        case rel => exact ⟨4, rfl, by omega, by omega, HB3.out⟩
    · obtain rfl : j = 4 := by omega
      have HB1 : Hid (Bxs w [(w.heap.size, [.int .i64 (t 0).m, .bool (t 0).f, .int .i64 (t 0).n, .int .i64 (t 1).m, .bool (t 1).f, .int .i64 (t 1).n, .int .i64 (t 2).m, .bool (t 2).f, .int .i64 (t 2).n, .int .i64 (t 3).m, .bool (t 3).f, .int .i64 (t 3).n]), (w.heap.size + 1, [.bool (o 0), .bool (o 1), .bool (o 2), .bool (o 3)]), (w.heap.size + 1 + 1, [.bool (f 0), .bool (f 1), .bool (f 2), .bool (f 3)]), (N1, [.int .i64 (x 0).m, .bool (x 0).f, .int .i64 (x 0).n, .int .i64 (x 1).m, .bool (x 1).f, .int .i64 (x 1).n, .int .i64 (x 2).m, .bool (x 2).f, .int .i64 (x 2).n, .int .i64 (x 3).m, .bool (x 3).f, .int .i64 (x 3).n]), (N1 + 1, [.int .i64 n, .int .i64 K, .bool l]), (N2, [.int .i64 (b 0).m, .bool (b 0).f, .int .i64 (b 0).n, .int .i64 (b 1).m, .bool (b 1).f, .int .i64 (b 1).n, .int .i64 (b 2).m, .bool (b 2).f, .int .i64 (b 2).n, .int .i64 (b 3).m, .bool (b 3).f, .int .i64 (b 3).n]), (N3, [.int .i64 (u 0).m, .bool (u 0).f, .int .i64 (u 0).n, .int .i64 (u 1).m, .bool (u 1).f, .int .i64 (u 1).n, .int .i64 (u 2).m, .bool (u 2).f, .int .i64 (u 2).n, .int .i64 (u 3).m, .bool (u 3).f, .int .i64 (u 3).n]), (N4, [.int .i64 0, .bool false, .int .i64 0, .int .i64 0, .bool false, .int .i64 0, .int .i64 0, .bool false, .int .i64 0, .int .i64 0, .bool false, .int .i64 0]), (N5, [.int .i64 (x 0).m, .bool (x 0).f, .int .i64 (x 0).n, .int .i64 (x 1).m, .bool (x 1).f, .int .i64 (x 1).n, .int .i64 (x 2).m, .bool (x 2).f, .int .i64 (x 2).n, .int .i64 (x 3).m, .bool (x 3).f, .int .i64 (x 3).n]), (N5 + 1, [.int .i64 n, .int .i64 K, .bool l]), (N5 + 1 + 1, [.int .i64 (u 0).m, .bool (u 0).f, .int .i64 (u 0).n, .int .i64 (u 1).m, .bool (u 1).f, .int .i64 (u 1).n, .int .i64 (u 2).m, .bool (u 2).f, .int .i64 (u 2).n, .int .i64 (u 3).m, .bool (u 3).f, .int .i64 (u 3).n])] wr) := HB.out
      clear HB
      have hqx := QX.out
      have hqu := QU.out
      have xl := (HB1.out.box 3 _ _ rfl).lt
      have x0 := (HB1.out.box 3 _ _ rfl).cell 0 _ rfl
      have x1 := (HB1.out.box 3 _ _ rfl).cell 1 _ rfl
      have x2 := (HB1.out.box 3 _ _ rfl).cell 2 _ rfl
      have x3 := (HB1.out.box 3 _ _ rfl).cell 3 _ rfl
      have x4 := (HB1.out.box 3 _ _ rfl).cell 4 _ rfl
      have x5 := (HB1.out.box 3 _ _ rfl).cell 5 _ rfl
      have x6 := (HB1.out.box 3 _ _ rfl).cell 6 _ rfl
      have x7 := (HB1.out.box 3 _ _ rfl).cell 7 _ rfl
      have x8 := (HB1.out.box 3 _ _ rfl).cell 8 _ rfl
      have x9 := (HB1.out.box 3 _ _ rfl).cell 9 _ rfl
      have x10 := (HB1.out.box 3 _ _ rfl).cell 10 _ rfl
      have x11 := (HB1.out.box 3 _ _ rfl).cell 11 _ rfl
      have yl := (HB1.out.box 8 _ _ rfl).lt
      have y0 := (HB1.out.box 8 _ _ rfl).cell 0 _ rfl
      have y1 := (HB1.out.box 8 _ _ rfl).cell 1 _ rfl
      have y2 := (HB1.out.box 8 _ _ rfl).cell 2 _ rfl
      have y3 := (HB1.out.box 8 _ _ rfl).cell 3 _ rfl
      have y4 := (HB1.out.box 8 _ _ rfl).cell 4 _ rfl
      have y5 := (HB1.out.box 8 _ _ rfl).cell 5 _ rfl
      have y6 := (HB1.out.box 8 _ _ rfl).cell 6 _ rfl
      have y7 := (HB1.out.box 8 _ _ rfl).cell 7 _ rfl
      have y8 := (HB1.out.box 8 _ _ rfl).cell 8 _ rfl
      have y9 := (HB1.out.box 8 _ _ rfl).cell 9 _ rfl
      have y10 := (HB1.out.box 8 _ _ rfl).cell 10 _ rfl
      have y11 := (HB1.out.box 8 _ _ rfl).cell 11 _ rfl
      have rl := (HB1.out.box 4 _ _ rfl).lt
      have r0 := (HB1.out.box 4 _ _ rfl).cell 0 _ rfl
      have r1 := (HB1.out.box 4 _ _ rfl).cell 1 _ rfl
      have r2 := (HB1.out.box 4 _ _ rfl).cell 2 _ rfl
      have sl := (HB1.out.box 9 _ _ rfl).lt
      have s0 := (HB1.out.box 9 _ _ rfl).cell 0 _ rfl
      have s1 := (HB1.out.box 9 _ _ rfl).cell 1 _ rfl
      have s2 := (HB1.out.box 9 _ _ rfl).cell 2 _ rfl
      have vl := (HB1.out.box 6 _ _ rfl).lt
      have v0 := (HB1.out.box 6 _ _ rfl).cell 0 _ rfl
      have v1 := (HB1.out.box 6 _ _ rfl).cell 1 _ rfl
      have v2 := (HB1.out.box 6 _ _ rfl).cell 2 _ rfl
      have v3 := (HB1.out.box 6 _ _ rfl).cell 3 _ rfl
      have v4 := (HB1.out.box 6 _ _ rfl).cell 4 _ rfl
      have v5 := (HB1.out.box 6 _ _ rfl).cell 5 _ rfl
      have v6 := (HB1.out.box 6 _ _ rfl).cell 6 _ rfl
      have v7 := (HB1.out.box 6 _ _ rfl).cell 7 _ rfl
      have v8 := (HB1.out.box 6 _ _ rfl).cell 8 _ rfl
      have v9 := (HB1.out.box 6 _ _ rfl).cell 9 _ rfl
      have v10 := (HB1.out.box 6 _ _ rfl).cell 10 _ rfl
      have v11 := (HB1.out.box 6 _ _ rfl).cell 11 _ rfl
      have zl := (HB1.out.box 10 _ _ rfl).lt
      have z0 := (HB1.out.box 10 _ _ rfl).cell 0 _ rfl
      have z1 := (HB1.out.box 10 _ _ rfl).cell 1 _ rfl
      have z2 := (HB1.out.box 10 _ _ rfl).cell 2 _ rfl
      have z3 := (HB1.out.box 10 _ _ rfl).cell 3 _ rfl
      have z4 := (HB1.out.box 10 _ _ rfl).cell 4 _ rfl
      have z5 := (HB1.out.box 10 _ _ rfl).cell 5 _ rfl
      have z6 := (HB1.out.box 10 _ _ rfl).cell 6 _ rfl
      have z7 := (HB1.out.box 10 _ _ rfl).cell 7 _ rfl
      have z8 := (HB1.out.box 10 _ _ rfl).cell 8 _ rfl
      have z9 := (HB1.out.box 10 _ _ rfl).cell 9 _ rfl
      have z10 := (HB1.out.box 10 _ _ rfl).cell 10 _ rfl
      have z11 := (HB1.out.box 10 _ _ rfl).cell 11 _ rfl
      go_upto_region 19 with (fail)
      clear hqx hqu
      clear xl x0 x1 x2 x3 x4 x5 x6 x7 x8 x9 x10 x11
      clear yl y0 y1 y2 y3 y4 y5 y6 y7 y8 y9 y10 y11
      clear rl r0 r1 r2
      clear sl s0 s1 s2
      clear vl v0 v1 v2 v3 v4 v5 v6 v7 v8 v9 v10 v11
      clear zl z0 z1 z2 z3 z4 z5 z6 z7 z8 z9 z10 z11
      rcases HZ.out with ⟨hk, hQ, rfl⟩ | ⟨h1, h2, rfl, hQ, rfl⟩ | ⟨i, hi, rfl, rfl, rfl, hb, hc⟩
      · skip
        have cl := (HB1.out.box 5 _ _ rfl).lt
        have c0 := (HB1.out.box 5 _ _ rfl).cell 0 _ rfl
        have c1 := (HB1.out.box 5 _ _ rfl).cell 1 _ rfl
        have c2 := (HB1.out.box 5 _ _ rfl).cell 2 _ rfl
        have c3 := (HB1.out.box 5 _ _ rfl).cell 3 _ rfl
        have c4 := (HB1.out.box 5 _ _ rfl).cell 4 _ rfl
        have c5 := (HB1.out.box 5 _ _ rfl).cell 5 _ rfl
        have c6 := (HB1.out.box 5 _ _ rfl).cell 6 _ rfl
        have c7 := (HB1.out.box 5 _ _ rfl).cell 7 _ rfl
        have c8 := (HB1.out.box 5 _ _ rfl).cell 8 _ rfl
        have c9 := (HB1.out.box 5 _ _ rfl).cell 9 _ rfl
        have c10 := (HB1.out.box 5 _ _ rfl).cell 10 _ rfl
        have c11 := (HB1.out.box 5 _ _ rfl).cell 11 _ rfl
        have dl := (HB1.out.box 7 _ _ rfl).lt
        have d0 := (HB1.out.box 7 _ _ rfl).cell 0 _ rfl
        have d1 := (HB1.out.box 7 _ _ rfl).cell 1 _ rfl
        have d2 := (HB1.out.box 7 _ _ rfl).cell 2 _ rfl
        have d3 := (HB1.out.box 7 _ _ rfl).cell 3 _ rfl
        have d4 := (HB1.out.box 7 _ _ rfl).cell 4 _ rfl
        have d5 := (HB1.out.box 7 _ _ rfl).cell 5 _ rfl
        have d6 := (HB1.out.box 7 _ _ rfl).cell 6 _ rfl
        have d7 := (HB1.out.box 7 _ _ rfl).cell 7 _ rfl
        have d8 := (HB1.out.box 7 _ _ rfl).cell 8 _ rfl
        have d9 := (HB1.out.box 7 _ _ rfl).cell 9 _ rfl
        have d10 := (HB1.out.box 7 _ _ rfl).cell 10 _ rfl
        have d11 := (HB1.out.box 7 _ _ rfl).cell 11 _ rfl
        rcases hk with h1 | ⟨h1, h2⟩
        all_goals
          go_wp2_with fail
          go_ret
          exact ⟨rfl, HB1.out.bel⟩
      · skip
        have cl := (HB1.out.box 5 _ _ rfl).lt
        have c0 := (HB1.out.box 5 _ _ rfl).cell 0 _ rfl
        have c1 := (HB1.out.box 5 _ _ rfl).cell 1 _ rfl
        have c2 := (HB1.out.box 5 _ _ rfl).cell 2 _ rfl
        have c3 := (HB1.out.box 5 _ _ rfl).cell 3 _ rfl
        have c4 := (HB1.out.box 5 _ _ rfl).cell 4 _ rfl
        have c5 := (HB1.out.box 5 _ _ rfl).cell 5 _ rfl
        have c6 := (HB1.out.box 5 _ _ rfl).cell 6 _ rfl
        have c7 := (HB1.out.box 5 _ _ rfl).cell 7 _ rfl
        have c8 := (HB1.out.box 5 _ _ rfl).cell 8 _ rfl
        have c9 := (HB1.out.box 5 _ _ rfl).cell 9 _ rfl
        have c10 := (HB1.out.box 5 _ _ rfl).cell 10 _ rfl
        have c11 := (HB1.out.box 5 _ _ rfl).cell 11 _ rfl
        have dl := (HB1.out.box 7 _ _ rfl).lt
        have d0 := (HB1.out.box 7 _ _ rfl).cell 0 _ rfl
        have d1 := (HB1.out.box 7 _ _ rfl).cell 1 _ rfl
        have d2 := (HB1.out.box 7 _ _ rfl).cell 2 _ rfl
        have d3 := (HB1.out.box 7 _ _ rfl).cell 3 _ rfl
        have d4 := (HB1.out.box 7 _ _ rfl).cell 4 _ rfl
        have d5 := (HB1.out.box 7 _ _ rfl).cell 5 _ rfl
        have d6 := (HB1.out.box 7 _ _ rfl).cell 6 _ rfl
        have d7 := (HB1.out.box 7 _ _ rfl).cell 7 _ rfl
        have d8 := (HB1.out.box 7 _ _ rfl).cell 8 _ rfl
        have d9 := (HB1.out.box 7 _ _ rfl).cell 9 _ rfl
        have d10 := (HB1.out.box 7 _ _ rfl).cell 10 _ rfl
        have d11 := (HB1.out.box 7 _ _ rfl).cell 11 _ rfl
        go_wp2_with fail
        go_ret
        exact ⟨rfl, HB1.out.bel⟩
      · have CL : Hid (_) := hc
        have HBB : Hid (b = putS t i (nx (t i) 7)) := hb
        clear hc hb
        obtain rfl | rfl | rfl | rfl := cases4 hi
        · skip
          have cl := (HB1.out.box 0 _ _ rfl).lt
          have c0 := (HB1.out.box 0 _ _ rfl).cell 0 _ rfl
          have c1 := (HB1.out.box 0 _ _ rfl).cell 1 _ rfl
          have c2 := (HB1.out.box 0 _ _ rfl).cell 2 _ rfl
          have c3 := (HB1.out.box 0 _ _ rfl).cell 3 _ rfl
          have c4 := (HB1.out.box 0 _ _ rfl).cell 4 _ rfl
          have c5 := (HB1.out.box 0 _ _ rfl).cell 5 _ rfl
          have c6 := (HB1.out.box 0 _ _ rfl).cell 6 _ rfl
          have c7 := (HB1.out.box 0 _ _ rfl).cell 7 _ rfl
          have c8 := (HB1.out.box 0 _ _ rfl).cell 8 _ rfl
          have c9 := (HB1.out.box 0 _ _ rfl).cell 9 _ rfl
          have c10 := (HB1.out.box 0 _ _ rfl).cell 10 _ rfl
          have c11 := (HB1.out.box 0 _ _ rfl).cell 11 _ rfl
          go_wp2_with fail
          refine (CL.out _).mono ?_
          rintro r w15 ⟨rfl, hb⟩
          have HB2 : Hid (_) := HB1.out.step hb
          clear hb HB1 CL
          clear cl c0 c1 c2 c3 c4 c5 c6 c7 c8 c9 c10 c11
          obtain ⟨w16, hw16, HB3'⟩ := HB2.out.lane 0 _ t rfl 0 (by omega) 0 1 2 rfl rfl rfl (nx (t 0) 7)
          rw [← HBB.out] at HB3'
          have HB3 : Hid (_) := HB3'
          clear HB3'
          have cl := (HB2.out.box 0 _ _ rfl).lt
          have c0 := (HB2.out.box 0 _ _ rfl).cell 0 _ rfl
          have c1 := (HB2.out.box 0 _ _ rfl).cell 1 _ rfl
          have c2 := (HB2.out.box 0 _ _ rfl).cell 2 _ rfl
          have c3 := (HB2.out.box 0 _ _ rfl).cell 3 _ rfl
          have c4 := (HB2.out.box 0 _ _ rfl).cell 4 _ rfl
          have c5 := (HB2.out.box 0 _ _ rfl).cell 5 _ rfl
          have c6 := (HB2.out.box 0 _ _ rfl).cell 6 _ rfl
          have c7 := (HB2.out.box 0 _ _ rfl).cell 7 _ rfl
          have c8 := (HB2.out.box 0 _ _ rfl).cell 8 _ rfl
          have c9 := (HB2.out.box 0 _ _ rfl).cell 9 _ rfl
          have c10 := (HB2.out.box 0 _ _ rfl).cell 10 _ rfl
          have c11 := (HB2.out.box 0 _ _ rfl).cell 11 _ rfl
          have cf0 := (HB2.out.box 0 _ _ rfl).froz 0 _ rfl
          have cf1 := (HB2.out.box 0 _ _ rfl).froz 1 _ rfl
          have cf2 := (HB2.out.box 0 _ _ rfl).froz 2 _ rfl
          have cf3 := (HB2.out.box 0 _ _ rfl).froz 3 _ rfl
          have cf4 := (HB2.out.box 0 _ _ rfl).froz 4 _ rfl
          have cf5 := (HB2.out.box 0 _ _ rfl).froz 5 _ rfl
          have cf6 := (HB2.out.box 0 _ _ rfl).froz 6 _ rfl
          have cf7 := (HB2.out.box 0 _ _ rfl).froz 7 _ rfl
          have cf8 := (HB2.out.box 0 _ _ rfl).froz 8 _ rfl
          have cf9 := (HB2.out.box 0 _ _ rfl).froz 9 _ rfl
          have cf10 := (HB2.out.box 0 _ _ rfl).froz 10 _ rfl
          have cf11 := (HB2.out.box 0 _ _ rfl).froz 11 _ rfl
          go_upto_region 24 with (fail)
          try rw [hw16]
          clear hw16 HB2
          clear cl c0 c1 c2 c3 c4 c5 c6 c7 c8 c9 c10 c11
          clear cf0 cf1 cf2 cf3 cf4 cf5 cf6 cf7 cf8 cf9 cf10 cf11
          have hqb := QB.out
          have cl := (HB3.out.box 0 _ _ rfl).lt
          have c0 := (HB3.out.box 0 _ _ rfl).cell 0 _ rfl
          have c1 := (HB3.out.box 0 _ _ rfl).cell 1 _ rfl
          have c2 := (HB3.out.box 0 _ _ rfl).cell 2 _ rfl
          have c3 := (HB3.out.box 0 _ _ rfl).cell 3 _ rfl
          have c4 := (HB3.out.box 0 _ _ rfl).cell 4 _ rfl
          have c5 := (HB3.out.box 0 _ _ rfl).cell 5 _ rfl
          have c6 := (HB3.out.box 0 _ _ rfl).cell 6 _ rfl
          have c7 := (HB3.out.box 0 _ _ rfl).cell 7 _ rfl
          have c8 := (HB3.out.box 0 _ _ rfl).cell 8 _ rfl
          have c9 := (HB3.out.box 0 _ _ rfl).cell 9 _ rfl
          have c10 := (HB3.out.box 0 _ _ rfl).cell 10 _ rfl
          have c11 := (HB3.out.box 0 _ _ rfl).cell 11 _ rfl
          have dl := (HB3.out.box 5 _ _ rfl).lt
          have d0 := (HB3.out.box 5 _ _ rfl).cell 0 _ rfl
          have d1 := (HB3.out.box 5 _ _ rfl).cell 1 _ rfl
          have d2 := (HB3.out.box 5 _ _ rfl).cell 2 _ rfl
          have d3 := (HB3.out.box 5 _ _ rfl).cell 3 _ rfl
          have d4 := (HB3.out.box 5 _ _ rfl).cell 4 _ rfl
          have d5 := (HB3.out.box 5 _ _ rfl).cell 5 _ rfl
          have d6 := (HB3.out.box 5 _ _ rfl).cell 6 _ rfl
          have d7 := (HB3.out.box 5 _ _ rfl).cell 7 _ rfl
          have d8 := (HB3.out.box 5 _ _ rfl).cell 8 _ rfl
          have d9 := (HB3.out.box 5 _ _ rfl).cell 9 _ rfl
          have d10 := (HB3.out.box 5 _ _ rfl).cell 10 _ rfl
          have d11 := (HB3.out.box 5 _ _ rfl).cell 11 _ rfl
          go_wp2_with fail
          go_ret
          exact ⟨rfl, HB3.out.bel⟩
        · skip
          have cl := (HB1.out.box 0 _ _ rfl).lt
          have c0 := (HB1.out.box 0 _ _ rfl).cell 0 _ rfl
          have c1 := (HB1.out.box 0 _ _ rfl).cell 1 _ rfl
          have c2 := (HB1.out.box 0 _ _ rfl).cell 2 _ rfl
          have c3 := (HB1.out.box 0 _ _ rfl).cell 3 _ rfl
          have c4 := (HB1.out.box 0 _ _ rfl).cell 4 _ rfl
          have c5 := (HB1.out.box 0 _ _ rfl).cell 5 _ rfl
          have c6 := (HB1.out.box 0 _ _ rfl).cell 6 _ rfl
          have c7 := (HB1.out.box 0 _ _ rfl).cell 7 _ rfl
          have c8 := (HB1.out.box 0 _ _ rfl).cell 8 _ rfl
          have c9 := (HB1.out.box 0 _ _ rfl).cell 9 _ rfl
          have c10 := (HB1.out.box 0 _ _ rfl).cell 10 _ rfl
          have c11 := (HB1.out.box 0 _ _ rfl).cell 11 _ rfl
          go_wp2_with fail
          refine (CL.out _).mono ?_
          rintro r w15 ⟨rfl, hb⟩
          have HB2 : Hid (_) := HB1.out.step hb
          clear hb HB1 CL
          clear cl c0 c1 c2 c3 c4 c5 c6 c7 c8 c9 c10 c11
          obtain ⟨w16, hw16, HB3'⟩ := HB2.out.lane 0 _ t rfl 1 (by omega) 3 4 5 rfl rfl rfl (nx (t 1) 7)
          rw [← HBB.out] at HB3'
          have HB3 : Hid (_) := HB3'
          clear HB3'
          have cl := (HB2.out.box 0 _ _ rfl).lt
          have c0 := (HB2.out.box 0 _ _ rfl).cell 0 _ rfl
          have c1 := (HB2.out.box 0 _ _ rfl).cell 1 _ rfl
          have c2 := (HB2.out.box 0 _ _ rfl).cell 2 _ rfl
          have c3 := (HB2.out.box 0 _ _ rfl).cell 3 _ rfl
          have c4 := (HB2.out.box 0 _ _ rfl).cell 4 _ rfl
          have c5 := (HB2.out.box 0 _ _ rfl).cell 5 _ rfl
          have c6 := (HB2.out.box 0 _ _ rfl).cell 6 _ rfl
          have c7 := (HB2.out.box 0 _ _ rfl).cell 7 _ rfl
          have c8 := (HB2.out.box 0 _ _ rfl).cell 8 _ rfl
          have c9 := (HB2.out.box 0 _ _ rfl).cell 9 _ rfl
          have c10 := (HB2.out.box 0 _ _ rfl).cell 10 _ rfl
          have c11 := (HB2.out.box 0 _ _ rfl).cell 11 _ rfl
          have cf0 := (HB2.out.box 0 _ _ rfl).froz 0 _ rfl
          have cf1 := (HB2.out.box 0 _ _ rfl).froz 1 _ rfl
          have cf2 := (HB2.out.box 0 _ _ rfl).froz 2 _ rfl
          have cf3 := (HB2.out.box 0 _ _ rfl).froz 3 _ rfl
          have cf4 := (HB2.out.box 0 _ _ rfl).froz 4 _ rfl
          have cf5 := (HB2.out.box 0 _ _ rfl).froz 5 _ rfl
          have cf6 := (HB2.out.box 0 _ _ rfl).froz 6 _ rfl
          have cf7 := (HB2.out.box 0 _ _ rfl).froz 7 _ rfl
          have cf8 := (HB2.out.box 0 _ _ rfl).froz 8 _ rfl
          have cf9 := (HB2.out.box 0 _ _ rfl).froz 9 _ rfl
          have cf10 := (HB2.out.box 0 _ _ rfl).froz 10 _ rfl
          have cf11 := (HB2.out.box 0 _ _ rfl).froz 11 _ rfl
          go_upto_region 24 with (fail)
          try rw [hw16]
          clear hw16 HB2
          clear cl c0 c1 c2 c3 c4 c5 c6 c7 c8 c9 c10 c11
          clear cf0 cf1 cf2 cf3 cf4 cf5 cf6 cf7 cf8 cf9 cf10 cf11
          have hqb := QB.out
          have cl := (HB3.out.box 0 _ _ rfl).lt
          have c0 := (HB3.out.box 0 _ _ rfl).cell 0 _ rfl
          have c1 := (HB3.out.box 0 _ _ rfl).cell 1 _ rfl
          have c2 := (HB3.out.box 0 _ _ rfl).cell 2 _ rfl
          have c3 := (HB3.out.box 0 _ _ rfl).cell 3 _ rfl
          have c4 := (HB3.out.box 0 _ _ rfl).cell 4 _ rfl
          have c5 := (HB3.out.box 0 _ _ rfl).cell 5 _ rfl
          have c6 := (HB3.out.box 0 _ _ rfl).cell 6 _ rfl
          have c7 := (HB3.out.box 0 _ _ rfl).cell 7 _ rfl
          have c8 := (HB3.out.box 0 _ _ rfl).cell 8 _ rfl
          have c9 := (HB3.out.box 0 _ _ rfl).cell 9 _ rfl
          have c10 := (HB3.out.box 0 _ _ rfl).cell 10 _ rfl
          have c11 := (HB3.out.box 0 _ _ rfl).cell 11 _ rfl
          have dl := (HB3.out.box 5 _ _ rfl).lt
          have d0 := (HB3.out.box 5 _ _ rfl).cell 0 _ rfl
          have d1 := (HB3.out.box 5 _ _ rfl).cell 1 _ rfl
          have d2 := (HB3.out.box 5 _ _ rfl).cell 2 _ rfl
          have d3 := (HB3.out.box 5 _ _ rfl).cell 3 _ rfl
          have d4 := (HB3.out.box 5 _ _ rfl).cell 4 _ rfl
          have d5 := (HB3.out.box 5 _ _ rfl).cell 5 _ rfl
          have d6 := (HB3.out.box 5 _ _ rfl).cell 6 _ rfl
          have d7 := (HB3.out.box 5 _ _ rfl).cell 7 _ rfl
          have d8 := (HB3.out.box 5 _ _ rfl).cell 8 _ rfl
          have d9 := (HB3.out.box 5 _ _ rfl).cell 9 _ rfl
          have d10 := (HB3.out.box 5 _ _ rfl).cell 10 _ rfl
          have d11 := (HB3.out.box 5 _ _ rfl).cell 11 _ rfl
          go_wp2_with fail
          go_ret
          exact ⟨rfl, HB3.out.bel⟩
        · skip
          have cl := (HB1.out.box 0 _ _ rfl).lt
          have c0 := (HB1.out.box 0 _ _ rfl).cell 0 _ rfl
          have c1 := (HB1.out.box 0 _ _ rfl).cell 1 _ rfl
          have c2 := (HB1.out.box 0 _ _ rfl).cell 2 _ rfl
          have c3 := (HB1.out.box 0 _ _ rfl).cell 3 _ rfl
          have c4 := (HB1.out.box 0 _ _ rfl).cell 4 _ rfl
          have c5 := (HB1.out.box 0 _ _ rfl).cell 5 _ rfl
          have c6 := (HB1.out.box 0 _ _ rfl).cell 6 _ rfl
          have c7 := (HB1.out.box 0 _ _ rfl).cell 7 _ rfl
          have c8 := (HB1.out.box 0 _ _ rfl).cell 8 _ rfl
          have c9 := (HB1.out.box 0 _ _ rfl).cell 9 _ rfl
          have c10 := (HB1.out.box 0 _ _ rfl).cell 10 _ rfl
          have c11 := (HB1.out.box 0 _ _ rfl).cell 11 _ rfl
          go_wp2_with fail
          refine (CL.out _).mono ?_
          rintro r w15 ⟨rfl, hb⟩
          have HB2 : Hid (_) := HB1.out.step hb
          clear hb HB1 CL
          clear cl c0 c1 c2 c3 c4 c5 c6 c7 c8 c9 c10 c11
          obtain ⟨w16, hw16, HB3'⟩ := HB2.out.lane 0 _ t rfl 2 (by omega) 6 7 8 rfl rfl rfl (nx (t 2) 7)
          rw [← HBB.out] at HB3'
          have HB3 : Hid (_) := HB3'
          clear HB3'
          have cl := (HB2.out.box 0 _ _ rfl).lt
          have c0 := (HB2.out.box 0 _ _ rfl).cell 0 _ rfl
          have c1 := (HB2.out.box 0 _ _ rfl).cell 1 _ rfl
          have c2 := (HB2.out.box 0 _ _ rfl).cell 2 _ rfl
          have c3 := (HB2.out.box 0 _ _ rfl).cell 3 _ rfl
          have c4 := (HB2.out.box 0 _ _ rfl).cell 4 _ rfl
          have c5 := (HB2.out.box 0 _ _ rfl).cell 5 _ rfl
          have c6 := (HB2.out.box 0 _ _ rfl).cell 6 _ rfl
          have c7 := (HB2.out.box 0 _ _ rfl).cell 7 _ rfl
          have c8 := (HB2.out.box 0 _ _ rfl).cell 8 _ rfl
          have c9 := (HB2.out.box 0 _ _ rfl).cell 9 _ rfl
          have c10 := (HB2.out.box 0 _ _ rfl).cell 10 _ rfl
          have c11 := (HB2.out.box 0 _ _ rfl).cell 11 _ rfl
          have cf0 := (HB2.out.box 0 _ _ rfl).froz 0 _ rfl
          have cf1 := (HB2.out.box 0 _ _ rfl).froz 1 _ rfl
          have cf2 := (HB2.out.box 0 _ _ rfl).froz 2 _ rfl
          have cf3 := (HB2.out.box 0 _ _ rfl).froz 3 _ rfl
          have cf4 := (HB2.out.box 0 _ _ rfl).froz 4 _ rfl
          have cf5 := (HB2.out.box 0 _ _ rfl).froz 5 _ rfl
          have cf6 := (HB2.out.box 0 _ _ rfl).froz 6 _ rfl
          have cf7 := (HB2.out.box 0 _ _ rfl).froz 7 _ rfl
          have cf8 := (HB2.out.box 0 _ _ rfl).froz 8 _ rfl
          have cf9 := (HB2.out.box 0 _ _ rfl).froz 9 _ rfl
          have cf10 := (HB2.out.box 0 _ _ rfl).froz 10 _ rfl
          have cf11 := (HB2.out.box 0 _ _ rfl).froz 11 _ rfl
          go_upto_region 24 with (fail)
          try rw [hw16]
          clear hw16 HB2
          clear cl c0 c1 c2 c3 c4 c5 c6 c7 c8 c9 c10 c11
          clear cf0 cf1 cf2 cf3 cf4 cf5 cf6 cf7 cf8 cf9 cf10 cf11
          have hqb := QB.out
          have cl := (HB3.out.box 0 _ _ rfl).lt
          have c0 := (HB3.out.box 0 _ _ rfl).cell 0 _ rfl
          have c1 := (HB3.out.box 0 _ _ rfl).cell 1 _ rfl
          have c2 := (HB3.out.box 0 _ _ rfl).cell 2 _ rfl
          have c3 := (HB3.out.box 0 _ _ rfl).cell 3 _ rfl
          have c4 := (HB3.out.box 0 _ _ rfl).cell 4 _ rfl
          have c5 := (HB3.out.box 0 _ _ rfl).cell 5 _ rfl
          have c6 := (HB3.out.box 0 _ _ rfl).cell 6 _ rfl
          have c7 := (HB3.out.box 0 _ _ rfl).cell 7 _ rfl
          have c8 := (HB3.out.box 0 _ _ rfl).cell 8 _ rfl
          have c9 := (HB3.out.box 0 _ _ rfl).cell 9 _ rfl
          have c10 := (HB3.out.box 0 _ _ rfl).cell 10 _ rfl
          have c11 := (HB3.out.box 0 _ _ rfl).cell 11 _ rfl
          have dl := (HB3.out.box 5 _ _ rfl).lt
          have d0 := (HB3.out.box 5 _ _ rfl).cell 0 _ rfl
          have d1 := (HB3.out.box 5 _ _ rfl).cell 1 _ rfl
          have d2 := (HB3.out.box 5 _ _ rfl).cell 2 _ rfl
          have d3 := (HB3.out.box 5 _ _ rfl).cell 3 _ rfl
          have d4 := (HB3.out.box 5 _ _ rfl).cell 4 _ rfl
          have d5 := (HB3.out.box 5 _ _ rfl).cell 5 _ rfl
          have d6 := (HB3.out.box 5 _ _ rfl).cell 6 _ rfl
          have d7 := (HB3.out.box 5 _ _ rfl).cell 7 _ rfl
          have d8 := (HB3.out.box 5 _ _ rfl).cell 8 _ rfl
          have d9 := (HB3.out.box 5 _ _ rfl).cell 9 _ rfl
          have d10 := (HB3.out.box 5 _ _ rfl).cell 10 _ rfl
          have d11 := (HB3.out.box 5 _ _ rfl).cell 11 _ rfl
          go_wp2_with fail
          go_ret
          exact ⟨rfl, HB3.out.bel⟩
        · skip
          have cl := (HB1.out.box 0 _ _ rfl).lt
          have c0 := (HB1.out.box 0 _ _ rfl).cell 0 _ rfl
          have c1 := (HB1.out.box 0 _ _ rfl).cell 1 _ rfl
          have c2 := (HB1.out.box 0 _ _ rfl).cell 2 _ rfl
          have c3 := (HB1.out.box 0 _ _ rfl).cell 3 _ rfl
          have c4 := (HB1.out.box 0 _ _ rfl).cell 4 _ rfl
          have c5 := (HB1.out.box 0 _ _ rfl).cell 5 _ rfl
          have c6 := (HB1.out.box 0 _ _ rfl).cell 6 _ rfl
          have c7 := (HB1.out.box 0 _ _ rfl).cell 7 _ rfl
          have c8 := (HB1.out.box 0 _ _ rfl).cell 8 _ rfl
          have c9 := (HB1.out.box 0 _ _ rfl).cell 9 _ rfl
          have c10 := (HB1.out.box 0 _ _ rfl).cell 10 _ rfl
          have c11 := (HB1.out.box 0 _ _ rfl).cell 11 _ rfl
          go_wp2_with fail
          refine (CL.out _).mono ?_
          rintro r w15 ⟨rfl, hb⟩
          have HB2 : Hid (_) := HB1.out.step hb
          clear hb HB1 CL
          clear cl c0 c1 c2 c3 c4 c5 c6 c7 c8 c9 c10 c11
          obtain ⟨w16, hw16, HB3'⟩ := HB2.out.lane 0 _ t rfl 3 (by omega) 9 10 11 rfl rfl rfl (nx (t 3) 7)
          rw [← HBB.out] at HB3'
          have HB3 : Hid (_) := HB3'
          clear HB3'
          have cl := (HB2.out.box 0 _ _ rfl).lt
          have c0 := (HB2.out.box 0 _ _ rfl).cell 0 _ rfl
          have c1 := (HB2.out.box 0 _ _ rfl).cell 1 _ rfl
          have c2 := (HB2.out.box 0 _ _ rfl).cell 2 _ rfl
          have c3 := (HB2.out.box 0 _ _ rfl).cell 3 _ rfl
          have c4 := (HB2.out.box 0 _ _ rfl).cell 4 _ rfl
          have c5 := (HB2.out.box 0 _ _ rfl).cell 5 _ rfl
          have c6 := (HB2.out.box 0 _ _ rfl).cell 6 _ rfl
          have c7 := (HB2.out.box 0 _ _ rfl).cell 7 _ rfl
          have c8 := (HB2.out.box 0 _ _ rfl).cell 8 _ rfl
          have c9 := (HB2.out.box 0 _ _ rfl).cell 9 _ rfl
          have c10 := (HB2.out.box 0 _ _ rfl).cell 10 _ rfl
          have c11 := (HB2.out.box 0 _ _ rfl).cell 11 _ rfl
          have cf0 := (HB2.out.box 0 _ _ rfl).froz 0 _ rfl
          have cf1 := (HB2.out.box 0 _ _ rfl).froz 1 _ rfl
          have cf2 := (HB2.out.box 0 _ _ rfl).froz 2 _ rfl
          have cf3 := (HB2.out.box 0 _ _ rfl).froz 3 _ rfl
          have cf4 := (HB2.out.box 0 _ _ rfl).froz 4 _ rfl
          have cf5 := (HB2.out.box 0 _ _ rfl).froz 5 _ rfl
          have cf6 := (HB2.out.box 0 _ _ rfl).froz 6 _ rfl
          have cf7 := (HB2.out.box 0 _ _ rfl).froz 7 _ rfl
          have cf8 := (HB2.out.box 0 _ _ rfl).froz 8 _ rfl
          have cf9 := (HB2.out.box 0 _ _ rfl).froz 9 _ rfl
          have cf10 := (HB2.out.box 0 _ _ rfl).froz 10 _ rfl
          have cf11 := (HB2.out.box 0 _ _ rfl).froz 11 _ rfl
          go_upto_region 24 with (fail)
          try rw [hw16]
          clear hw16 HB2
          clear cl c0 c1 c2 c3 c4 c5 c6 c7 c8 c9 c10 c11
          clear cf0 cf1 cf2 cf3 cf4 cf5 cf6 cf7 cf8 cf9 cf10 cf11
          have hqb := QB.out
          have cl := (HB3.out.box 0 _ _ rfl).lt
          have c0 := (HB3.out.box 0 _ _ rfl).cell 0 _ rfl
          have c1 := (HB3.out.box 0 _ _ rfl).cell 1 _ rfl
          have c2 := (HB3.out.box 0 _ _ rfl).cell 2 _ rfl
          have c3 := (HB3.out.box 0 _ _ rfl).cell 3 _ rfl
          have c4 := (HB3.out.box 0 _ _ rfl).cell 4 _ rfl
          have c5 := (HB3.out.box 0 _ _ rfl).cell 5 _ rfl
          have c6 := (HB3.out.box 0 _ _ rfl).cell 6 _ rfl
          have c7 := (HB3.out.box 0 _ _ rfl).cell 7 _ rfl
          have c8 := (HB3.out.box 0 _ _ rfl).cell 8 _ rfl
          have c9 := (HB3.out.box 0 _ _ rfl).cell 9 _ rfl
          have c10 := (HB3.out.box 0 _ _ rfl).cell 10 _ rfl
          have c11 := (HB3.out.box 0 _ _ rfl).cell 11 _ rfl
          have dl := (HB3.out.box 5 _ _ rfl).lt
          have d0 := (HB3.out.box 5 _ _ rfl).cell 0 _ rfl
          have d1 := (HB3.out.box 5 _ _ rfl).cell 1 _ rfl
          have d2 := (HB3.out.box 5 _ _ rfl).cell 2 _ rfl
          have d3 := (HB3.out.box 5 _ _ rfl).cell 3 _ rfl
          have d4 := (HB3.out.box 5 _ _ rfl).cell 4 _ rfl
          have d5 := (HB3.out.box 5 _ _ rfl).cell 5 _ rfl
          have d6 := (HB3.out.box 5 _ _ rfl).cell 6 _ rfl
          have d7 := (HB3.out.box 5 _ _ rfl).cell 7 _ rfl
          have d8 := (HB3.out.box 5 _ _ rfl).cell 8 _ rfl
          have d9 := (HB3.out.box 5 _ _ rfl).cell 9 _ rfl
          have d10 := (HB3.out.box 5 _ _ rfl).cell 10 _ rfl
          have d11 := (HB3.out.box 5 _ _ rfl).cell 11 _ rfl
          go_wp2_with fail
          go_ret
          exact ⟨rfl, HB3.out.bel⟩

theorem walkT (t : Nat → St) (o f : Nat → Bool) (k : Int) (g : Bool) (w : World) : Calls Try.prog 3 #[.agg #[.int .i64 (t 0).m, .bool (t 0).f, .int .i64 (t 0).n, .int .i64 (t 1).m, .bool (t 1).f, .int .i64 (t 1).n, .int .i64 (t 2).m, .bool (t 2).f, .int .i64 (t 2).n, .int .i64 (t 3).m, .bool (t 3).f, .int .i64 (t 3).n], .agg #[.bool (o 0), .bool (o 1), .bool (o 2), .bool (o 3)], .agg #[.bool (f 0), .bool (f 1), .bool (f 2), .bool (f 3)], .int .i64 k, .bool g] w fun r w' => r = .returned (.bool true) ∧ Below w.heap.size w w' := by
  have hN : usN (usB t o) 4 ≤ 4 := usL_le _ 4
  have CU : ∀ W, Calls Try.prog 13 #[.agg #[.int .i64 (t 0).m, .bool (t 0).f, .int .i64 (t 0).n, .int .i64 (t 1).m, .bool (t 1).f, .int .i64 (t 1).n, .int .i64 (t 2).m, .bool (t 2).f, .int .i64 (t 2).n, .int .i64 (t 3).m, .bool (t 3).f, .int .i64 (t 3).n], .agg #[.bool (o 0), .bool (o 1), .bool (o 2), .bool (o 3)]] W fun e w' => ∃ a c, e = .returned (.slice a (usN (usB t o) 4) c) ∧ RI w' a (usN (usB t o) 4) (usA (usB t o)) ∧ Below W.heap.size W w' := fun W =>
    (rusable_any t o W).mono fun e w' hr => by
      obtain ⟨a, c, h1, h2, h3⟩ := hr
      exact ⟨a, c, h1, h2.ri, h3⟩
  have CV : ∀ W, Calls Try.prog 14 #[.agg #[.int .i64 (t 0).m, .bool (t 0).f, .int .i64 (t 0).n, .int .i64 (t 1).m, .bool (t 1).f, .int .i64 (t 1).n, .int .i64 (t 2).m, .bool (t 2).f, .int .i64 (t 2).n, .int .i64 (t 3).m, .bool (t 3).f, .int .i64 (t 3).n], .agg #[.bool (o 0), .bool (o 1), .bool (o 2), .bool (o 3)]] W fun e w' => ∃ a c, e = .returned (.slice a (usN (usB t o) 4) c) ∧ RI w' a (usN (usB t o) 4) (usA (usB t o)) ∧ Below W.heap.size W w' := fun W =>
    (dusable_any t o W).mono fun e w' hr => by
      obtain ⟨a, c, h1, h2, h3⟩ := hr
      exact ⟨a, c, h1, h2.ri, h3⟩
  have CE : ∀ E, teE t = E → ∀ W, Calls Try.prog 7 #[.agg #[.int .i64 (t 0).m, .bool (t 0).f, .int .i64 (t 0).n, .int .i64 (t 1).m, .bool (t 1).f, .int .i64 (t 1).n, .int .i64 (t 2).m, .bool (t 2).f, .int .i64 (t 2).n, .int .i64 (t 3).m, .bool (t 3).f, .int .i64 (t 3).n]] W fun r w' => r = .returned (.int .i64 E) ∧ Below W.heap.size W w' := fun E h W => by
    have := dcheck_any t W
    rw [h] at this
    exact this
  rcases teE_cases t with h | h | h
  · exact walk_bad t o f k g 1 _ _ w (Or.inl rfl) hN (CE 1 h) (rcheck_is t 1 h) (fun W => rplan_bad t _ _ _ _ _ _ _ _ 1 W (rcheck_is t 1 h) (Or.inl rfl)) (fun W => rreset_bad t k g 1 W (rcheck_is t 1 h) (Or.inl rfl)) (fun W => rrest_bad t 1 W (rcheck_is t 1 h) (Or.inl rfl)) CU CV
  · exact walk_bad t o f k g 4 _ _ w (Or.inr rfl) hN (CE 4 h) (rcheck_is t 4 h) (fun W => rplan_bad t _ _ _ _ _ _ _ _ 4 W (rcheck_is t 4 h) (Or.inr rfl)) (fun W => rreset_bad t k g 4 W (rcheck_is t 4 h) (Or.inr rfl)) (fun W => rrest_bad t 4 W (rcheck_is t 4 h) (Or.inr rfl)) CU CV
  · have key : ∀ (b : Nat → St) (F : Int), (∀ W, Calls Try.prog 9 #[.agg #[.int .i64 (t 0).m, .bool (t 0).f, .int .i64 (t 0).n, .int .i64 (t 1).m, .bool (t 1).f, .int .i64 (t 1).n, .int .i64 (t 2).m, .bool (t 2).f, .int .i64 (t 2).n, .int .i64 (t 3).m, .bool (t 3).f, .int .i64 (t 3).n], .int .i64 k, .bool g] W fun r w' => r = .returned (.tuple #[.agg #[.int .i64 (b 0).m, .bool (b 0).f, .int .i64 (b 0).n, .int .i64 (b 1).m, .bool (b 1).f, .int .i64 (b 1).n, .int .i64 (b 2).m, .bool (b 2).f, .int .i64 (b 2).n, .int .i64 (b 3).m, .bool (b 3).f, .int .i64 (b 3).n], .int .i64 F]) ∧ Below W.heap.size W w') → Rst t b k g F → Calls Try.prog 3 #[.agg #[.int .i64 (t 0).m, .bool (t 0).f, .int .i64 (t 0).n, .int .i64 (t 1).m, .bool (t 1).f, .int .i64 (t 1).n, .int .i64 (t 2).m, .bool (t 2).f, .int .i64 (t 2).n, .int .i64 (t 3).m, .bool (t 3).f, .int .i64 (t 3).n], .agg #[.bool (o 0), .bool (o 1), .bool (o 2), .bool (o 3)], .agg #[.bool (f 0), .bool (f 1), .bool (f 2), .bool (f 3)], .int .i64 k, .bool g] w fun r w' => r = .returned (.bool true) ∧ Below w.heap.size w w' := fun b F hR hZ =>
      walk_ok t (plS t o f) b (fun j => nx (t j) 2) o f k g F (plN t o f) _ _ (((plN t o f : Nat) : Int) == 0) _ w hN (CE 0 h) (rcheck_is t 0 h) (fun W => rplan_any t o f W h) hR (fun W => rrest_any t W h) CU CV (fun W => dplan_any t o f W h) (fun j hj => dnext_nx (t j) 2 (by omega) (by omega)) hZ
    by_cases h1 : k < 0
    · exact key z0 1 (fun W => rreset_arg t k g W (rcheck_is t 0 h) (Or.inl h1)) (Or.inl ⟨Or.inl h1, fun W => eqT z0 W, rfl⟩)
    · by_cases h2 : 3 < k
      · exact key z0 1 (fun W => rreset_arg t k g W (rcheck_is t 0 h) (Or.inr ⟨h1, by omega⟩)) (Or.inl ⟨Or.inr ⟨h1, h2⟩, fun W => eqT z0 W, rfl⟩)
      · cases g
        · exact key z0 8 (fun W => rreset_mode t k W (rcheck_is t 0 h) h1 (by omega)) (Or.inr (Or.inl ⟨h1, h2, rfl, fun W => eqT z0 W, rfl⟩))
        · obtain ⟨i, rfl⟩ : ∃ i : Nat, k = (i : Int) := ⟨k.toNat, by omega⟩
          exact key _ 0 (fun W => rreset_any t i (by omega) W h) (Or.inr (Or.inr ⟨i, by omega, rfl, rfl, rfl, rfl, dnext_nx (t i) 7 (by omega) (by omega)⟩))

theorem walk (t0Mode : Int) (t0Failed : Bool) (t0For : Int) (t1Mode : Int) (t1Failed : Bool) (t1For : Int) (t2Mode : Int) (t2Failed : Bool) (t2For : Int) (t3Mode : Int) (t3Failed : Bool) (t3For : Int) (has0 : Bool) (has1 : Bool) (has2 : Bool) (has3 : Bool) (faults0 : Bool) (faults1 : Bool) (faults2 : Bool) (faults3 : Bool) (k : Int) (ground : Bool) (w : World) (h_t0Mode : (Lit.int .i64 t0Mode).wf = true) (h_t0For : (Lit.int .i64 t0For).wf = true) (h_t1Mode : (Lit.int .i64 t1Mode).wf = true) (h_t1For : (Lit.int .i64 t1For).wf = true) (h_t2Mode : (Lit.int .i64 t2Mode).wf = true) (h_t2For : (Lit.int .i64 t2For).wf = true) (h_t3Mode : (Lit.int .i64 t3Mode).wf = true) (h_t3For : (Lit.int .i64 t3For).wf = true) (h_k : (Lit.int .i64 k).wf = true) :
    Calls Try.prog 3 #[.agg #[.int .i64 t0Mode, .bool t0Failed, .int .i64 t0For, .int .i64 t1Mode, .bool t1Failed, .int .i64 t1For, .int .i64 t2Mode, .bool t2Failed, .int .i64 t2For, .int .i64 t3Mode, .bool t3Failed, .int .i64 t3For], .agg #[.bool has0, .bool has1, .bool has2, .bool has3], .agg #[.bool faults0, .bool faults1, .bool faults2, .bool faults3], .int .i64 k, .bool ground] w fun e w' => e = .returned (.bool true) ∧ Below w.heap.size w w' := by
  exact walkT (tq ⟨t0Mode, t0Failed, t0For⟩ ⟨t1Mode, t1Failed, t1For⟩ ⟨t2Mode, t2Failed, t2For⟩ ⟨t3Mode, t3Failed, t3For⟩) (bq has0 has1 has2 has3) (bq faults0 faults1 faults2 faults3) k ground w

/-! ### THE ROW's STEP -/
set_option maxRecDepth 100000 in
theorem lifted (os : Os) (started : os.Started) (H : Type) (enc : TypeId × Value → H) :
    ReturnsInHanded {} Try.checked os 3 .any (Rows.redSaysSpec.pre6 enc Try.prog Try.f3 Rows.redSaysRow.domain false) (Rows.redSaysSpec.post enc Try.prog Try.f3 false true false false) := by
  refine returnsInHanded_of_change_sized (C := Try.checked) own started (by kernel_rfl) Try.func3
    (ChangeSpec.witness6 (enc := enc) (C := Try.checked) false ⟨#[], #[.agg #[.int .i64 0, .bool false, .int .i64 0, .int .i64 0, .bool false, .int .i64 0, .int .i64 0, .bool false, .int .i64 0, .int .i64 0, .bool false, .int .i64 0], .agg #[.bool false, .bool false, .bool false, .bool false], .agg #[.bool false, .bool false, .bool false, .bool false], .int .i64 0, .bool false], []⟩ 8 (by kernel_rfl) (by kernel_rfl) (by kernel_rfl) (by kernel_rfl)) ?_
  intro W base args ds gs before hval0 hW hcnd hsz0 _
  have hval : ∀ (j : Nat) t v, Try.f3.params[j]? = some t → args[j]? = some v → Value.okWide Try.prog W .any base t v := hval0
  have hW' := hW
  obtain ⟨p, q, hA0, hV, rfl, hfz, hnd⟩ := hW
  have hA : DataW.TrodAll enc Try.prog W 0 (fun _ => true) true Try.f3.params.toList args.toList ds p := hA0
  rw [Try.params3] at hA hval
  obtain ⟨v_0, vs_0, d_0, ds_0, p_0, q_0, hargs, rfl, rfl, h_0, r_0⟩ := trodAll_cons hA
  obtain ⟨v_1, vs_1, d_1, ds_1, p_1, q_1, rfl, rfl, rfl, h_1, r_1⟩ := trodAll_cons r_0
  obtain ⟨v_2, vs_2, d_2, ds_2, p_2, q_2, rfl, rfl, rfl, h_2, r_2⟩ := trodAll_cons r_1
  obtain ⟨v_3, vs_3, d_3, ds_3, p_3, q_3, rfl, rfl, rfl, h_3, r_3⟩ := trodAll_cons r_2
  obtain ⟨v_4, vs_4, d_4, ds_4, p_4, q_4, rfl, rfl, rfl, h_4, r_4⟩ := trodAll_cons r_3
  obtain ⟨rfl, rfl, rfl⟩ := trodAll_nil r_4
  obtain rfl : args = #[v_0, v_1, v_2, v_3, v_4] := by cases args; simp_all
  obtain ⟨rfl, rfl⟩ := trodVars_none hV
  have hz_0 : Light Try.prog 25 d_0 := light_of hsz0 (j := 0) (by first | rfl | (rw [Try.params3]; rfl)) rfl
  have k_0 := h_0
  have lt_0 : ∀ x ∈ p_0, x.block < W.heap.size := by obtain ⟨m, hm⟩ := k_0; exact DataW.trod_lt m _ _ _ hm
  obtain ⟨cs_0, rfl, _⟩ := okWide_array Try.underlying25 (hval 0 25 v_0 rfl rfl)
  obtain ⟨t0Mode, t0Failed, t0For, t1Mode, t1Failed, t1For, t2Mode, t2Failed, t2For, t3Mode, t3Failed, t3For, e_0, h_t0Mode, h_t0For, h_t1Mode, h_t1For, h_t2Mode, h_t2For, h_t3Mode, h_t3For⟩ := (by obtain ⟨fuel, hf⟩ := h_0; exact open25 hf hz_0 : ∃ t0Mode : Int, ∃ t0Failed : Bool, ∃ t0For : Int, ∃ t1Mode : Int, ∃ t1Failed : Bool, ∃ t1For : Int, ∃ t2Mode : Int, ∃ t2Failed : Bool, ∃ t2For : Int, ∃ t3Mode : Int, ∃ t3Failed : Bool, ∃ t3For : Int, cs_0.toList = [.int .i64 t0Mode, .bool t0Failed, .int .i64 t0For, .int .i64 t1Mode, .bool t1Failed, .int .i64 t1For, .int .i64 t2Mode, .bool t2Failed, .int .i64 t2For, .int .i64 t3Mode, .bool t3Failed, .int .i64 t3For] ∧ (Lit.int .i64 t0Mode).wf = true ∧ (Lit.int .i64 t0For).wf = true ∧ (Lit.int .i64 t1Mode).wf = true ∧ (Lit.int .i64 t1For).wf = true ∧ (Lit.int .i64 t2Mode).wf = true ∧ (Lit.int .i64 t2For).wf = true ∧ (Lit.int .i64 t3Mode).wf = true ∧ (Lit.int .i64 t3For).wf = true)
  obtain rfl : cs_0 = #[.int .i64 t0Mode, .bool t0Failed, .int .i64 t0For, .int .i64 t1Mode, .bool t1Failed, .int .i64 t1For, .int .i64 t2Mode, .bool t2Failed, .int .i64 t2For, .int .i64 t3Mode, .bool t3Failed, .int .i64 t3For] := by cases cs_0; simp_all
  clear e_0
  have hz_1 : Light Try.prog 26 d_1 := light_of hsz0 (j := 1) (by first | rfl | (rw [Try.params3]; rfl)) rfl
  have k_1 := h_1
  have lt_1 : ∀ x ∈ p_1, x.block < W.heap.size := by obtain ⟨m, hm⟩ := k_1; exact DataW.trod_lt m _ _ _ hm
  obtain ⟨cs_1, rfl, _⟩ := okWide_array Try.underlying26 (hval 1 26 v_1 rfl rfl)
  obtain ⟨has0, has1, has2, has3, e_1⟩ := (by obtain ⟨fuel, hf⟩ := h_1; exact open26 hf hz_1 : ∃ has0 : Bool, ∃ has1 : Bool, ∃ has2 : Bool, ∃ has3 : Bool, cs_1.toList = [.bool has0, .bool has1, .bool has2, .bool has3])
  obtain rfl : cs_1 = #[.bool has0, .bool has1, .bool has2, .bool has3] := by cases cs_1; simp_all
  clear e_1
  have hz_2 : Light Try.prog 26 d_2 := light_of hsz0 (j := 2) (by first | rfl | (rw [Try.params3]; rfl)) rfl
  have k_2 := h_2
  have lt_2 : ∀ x ∈ p_2, x.block < W.heap.size := by obtain ⟨m, hm⟩ := k_2; exact DataW.trod_lt m _ _ _ hm
  obtain ⟨cs_2, rfl, _⟩ := okWide_array Try.underlying26 (hval 2 26 v_2 rfl rfl)
  obtain ⟨faults0, faults1, faults2, faults3, e_2⟩ := (by obtain ⟨fuel, hf⟩ := h_2; exact open26 hf hz_2 : ∃ faults0 : Bool, ∃ faults1 : Bool, ∃ faults2 : Bool, ∃ faults3 : Bool, cs_2.toList = [.bool faults0, .bool faults1, .bool faults2, .bool faults3])
  obtain rfl : cs_2 = #[.bool faults0, .bool faults1, .bool faults2, .bool faults3] := by cases cs_2; simp_all
  clear e_2
  have hz_3 : Light Try.prog 3 d_3 := light_of hsz0 (j := 3) (by first | rfl | (rw [Try.params3]; rfl)) rfl
  have k_3 := h_3
  have lt_3 : ∀ x ∈ p_3, x.block < W.heap.size := by obtain ⟨m, hm⟩ := k_3; exact DataW.trod_lt m _ _ _ hm
  obtain ⟨k, rfl, rfl, rfl, h_k⟩ := open_int Try.underlying3 (hval 3 3 v_3 rfl rfl) h_3
  have hz_4 : Light Try.prog 4 d_4 := light_of hsz0 (j := 4) (by first | rfl | (rw [Try.params3]; rfl)) rfl
  have k_4 := h_4
  have lt_4 : ∀ x ∈ p_4, x.block < W.heap.size := by obtain ⟨m, hm⟩ := k_4; exact DataW.trod_lt m _ _ _ hm
  obtain ⟨ground, rfl, rfl, rfl⟩ := open_bool Try.underlying4 (hval 4 4 v_4 rfl rfl) h_4
  clear hA0 hval0
  refine (walk t0Mode t0Failed t0For t1Mode t1Failed t1For t2Mode t2Failed t2For t3Mode t3Failed t3For has0 has1 has2 has3 faults0 faults1 faults2 faults3 k ground W h_t0Mode h_t0For h_t1Mode h_t1For h_t2Mode h_t2For h_t3Mode h_t3For h_k).mono fun e W' ⟨he, bel⟩ => ?_
  subst he
  exact ⟨_, rfl, _, _, _, [], _, [], hW', trodAll_mk1 (shut_bool Try.underlying4 _), (trodAll_cons_mk (Below.trod laidOut (by kernel_rfl) (of_decide_eq_true (by kernel_rfl)) k_0 bel lt_0) (trodAll_cons_mk (Below.trod laidOut (by kernel_rfl) (of_decide_eq_true (by kernel_rfl)) k_1 bel lt_1) (trodAll_cons_mk (Below.trod laidOut (by kernel_rfl) (of_decide_eq_true (by kernel_rfl)) k_2 bel lt_2) (trodAll_cons_mk (Below.trod laidOut (by kernel_rfl) (of_decide_eq_true (by kernel_rfl)) k_3 bel lt_3) (trodAll_cons_mk (Below.trod laidOut (by kernel_rfl) (of_decide_eq_true (by kernel_rfl)) k_4 bel lt_4) trodAll_mk0))))), rfl, bel.frame _, fun h => by cases h⟩

theorem over : Rows.redSaysRow.holds Try.pinned (OpenSpec.ofChange Rows.redSaysSpec) :=
  OpenClaim.holds_of_wide 3 Try.f3 rfl rfl rfl rfl rfl rfl rfl ⟨rfl, rfl, rfl, rfl, rfl⟩ rfl rfl rfl rfl rfl (by kernel_rfl) Try.func3 (by kernel_rfl)
    (of_decide_eq_true (by kernel_rfl)) (by unfold Func.isWrapper; first | (rw [if_pos (by decide +kernel)]; kernel_rfl) | (rw [if_neg (by decide +kernel)]; exact ⟨rfl, rfl⟩))
    (fun os started H enc _ => lifted os started H enc)


end Go.Proofs.Ytnomceopmjlbhaa.redSays
namespace Go.Proofs.Ytnomceopmjlbhaa
/-- THE STATEMENT -/
theorem redSays_holds : Rows.RedSaysSaid := redSays.over
#print axioms redSays_holds
end Go.Proofs.Ytnomceopmjlbhaa
