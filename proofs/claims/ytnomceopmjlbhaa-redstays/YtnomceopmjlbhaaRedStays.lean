/-
  Whatever is handed in, the law RedStays returns true: with nothing new a plan stays what it is, frame for frame. No condition.
-/
import Derived.Test.YtnomceopmjlbhaaRedMath
import Derived.Test.YtnomceopmjlbhaaRedEq
import Derived.Test.YtnomceopmjlbhaaOpenZ
import Derived.ProofKit
namespace Go.Proofs.Ytnomceopmjlbhaa.redStays
open Go.ChangeShapes Go.WideShapes Go.ChangeAt Go.RowKit
set_option linter.unusedVariables false

theorem own : ownKnob Try.prog.godebug = none := by kernel_rfl
theorem laidOut : laidOutB Try.prog = true := by kernel_rfl

theorem list3 {l : List Value} (h : l.length = 3) : ∃ c0 c1 c2, l = [c0, c1, c2] := by
  match l, h with
  | [c0, c1, c2], _ => exact ⟨c0, c1, c2, rfl⟩

theorem list4 {l : List Value} (h : l.length = 4) : ∃ c0 c1 c2 c3, l = [c0, c1, c2, c3] := by
  match l, h with
  | [c0, c1, c2, c3], _ => exact ⟨c0, c1, c2, c3, rfl⟩

theorem list12 {l : List Value} (h : l.length = 12) : ∃ c0 c1 c2 c3 c4 c5 c6 c7 c8 c9 c10 c11, l = [c0, c1, c2, c3, c4, c5, c6, c7, c8, c9, c10, c11] := by
  match l, h with
  | [c0, c1, c2, c3, c4, c5, c6, c7, c8, c9, c10, c11], _ => exact ⟨c0, c1, c2, c3, c4, c5, c6, c7, c8, c9, c10, c11, rfl⟩

theorem open23 {H : Type} {enc : TypeId × Value → H} {w : World} {base : Nat} {spare : Nat → Bool} {held : Bool} {fuel : Nat} {cs : List Value} {x : DataW H × List MemPlace} (h : DataW.trod enc Try.prog w base spare held fuel 23 cs = some x) (hz : Light Try.prog 23 x.1) :
    ∃ vMode : Int, ∃ vFailed : Bool, ∃ vFor : Int, cs = [.int .i64 vMode, .bool vFailed, .int .i64 vFor] ∧ (Lit.int .i64 vMode).wf = true ∧ (Lit.int .i64 vFor).wf = true := by
  obtain ⟨hl, hf⟩ := trod_field_z Try.underlying23 h hz
  rw [show Try.prog.cellsOf 23 = 3 from by kernel_rfl] at hl
  obtain ⟨c0, c1, c2, rfl⟩ := list3 hl
  obtain ⟨n0, y0, h0, z0⟩ := hf 0 _ rfl
  replace h0 : DataW.trod enc Try.prog w base spare held n0 3 (([c0, c1, c2] : List Value).drop 0 |>.take (Try.prog.cellsOf 3)) = some y0 := h0
  rw [show Try.prog.cellsOf 3 = 1 from by kernel_rfl] at h0
  replace h0 : DataW.trod enc Try.prog w base spare held n0 3 [c0] = some y0 := h0
  obtain ⟨n1, y1, h1, z1⟩ := hf 1 _ rfl
  replace h1 : DataW.trod enc Try.prog w base spare held n1 4 (([c0, c1, c2] : List Value).drop 1 |>.take (Try.prog.cellsOf 4)) = some y1 := h1
  rw [show Try.prog.cellsOf 4 = 1 from by kernel_rfl] at h1
  replace h1 : DataW.trod enc Try.prog w base spare held n1 4 [c1] = some y1 := h1
  obtain ⟨n2, y2, h2, z2⟩ := hf 2 _ rfl
  replace h2 : DataW.trod enc Try.prog w base spare held n2 3 (([c0, c1, c2] : List Value).drop 2 |>.take (Try.prog.cellsOf 3)) = some y2 := h2
  rw [show Try.prog.cellsOf 3 = 1 from by kernel_rfl] at h2
  replace h2 : DataW.trod enc Try.prog w base spare held n2 3 [c2] = some y2 := h2
  obtain ⟨x0, e0, _, f0_0⟩ := DataW.trod_int Try.underlying3 h0
  simp only [List.cons.injEq, and_true] at e0
  obtain rfl := e0
  obtain ⟨x1, e1, _⟩ := DataW.trod_bool Try.underlying4 h1
  simp only [List.cons.injEq, and_true] at e1
  obtain rfl := e1
  obtain ⟨x2, e2, _, f2_0⟩ := DataW.trod_int Try.underlying3 h2
  simp only [List.cons.injEq, and_true] at e2
  obtain rfl := e2
  exact ⟨x0, x1, x2, rfl, f0_0, f2_0⟩

theorem open25 {H : Type} {enc : TypeId × Value → H} {w : World} {base : Nat} {spare : Nat → Bool} {held : Bool} {fuel : Nat} {cs : List Value} {x : DataW H × List MemPlace} (h : DataW.trod enc Try.prog w base spare held fuel 25 cs = some x) (hz : Light Try.prog 25 x.1) :
    ∃ v0Mode : Int, ∃ v0Failed : Bool, ∃ v0For : Int, ∃ v1Mode : Int, ∃ v1Failed : Bool, ∃ v1For : Int, ∃ v2Mode : Int, ∃ v2Failed : Bool, ∃ v2For : Int, ∃ v3Mode : Int, ∃ v3Failed : Bool, ∃ v3For : Int, cs = [.int .i64 v0Mode, .bool v0Failed, .int .i64 v0For, .int .i64 v1Mode, .bool v1Failed, .int .i64 v1For, .int .i64 v2Mode, .bool v2Failed, .int .i64 v2For, .int .i64 v3Mode, .bool v3Failed, .int .i64 v3For] ∧ (Lit.int .i64 v0Mode).wf = true ∧ (Lit.int .i64 v0For).wf = true ∧ (Lit.int .i64 v1Mode).wf = true ∧ (Lit.int .i64 v1For).wf = true ∧ (Lit.int .i64 v2Mode).wf = true ∧ (Lit.int .i64 v2For).wf = true ∧ (Lit.int .i64 v3Mode).wf = true ∧ (Lit.int .i64 v3For).wf = true := by
  obtain ⟨hl, hf⟩ := trod_elem_z Try.underlying25 h hz
  rw [show Try.prog.cellsOf 25 = 12 from by kernel_rfl] at hl
  obtain ⟨c0, c1, c2, c3, c4, c5, c6, c7, c8, c9, c10, c11, rfl⟩ := list12 hl
  obtain ⟨n0, y0, h0, z0⟩ := hf 0 (by decide)
  replace h0 : DataW.trod enc Try.prog w base spare held n0 23 (([c0, c1, c2, c3, c4, c5, c6, c7, c8, c9, c10, c11] : List Value).drop (0 * Try.prog.cellsOf 23) |>.take (Try.prog.cellsOf 23)) = some y0 := h0
  rw [show Try.prog.cellsOf 23 = 3 from by kernel_rfl] at h0
  replace h0 : DataW.trod enc Try.prog w base spare held n0 23 [c0, c1, c2] = some y0 := h0
  obtain ⟨n1, y1, h1, z1⟩ := hf 1 (by decide)
  replace h1 : DataW.trod enc Try.prog w base spare held n1 23 (([c0, c1, c2, c3, c4, c5, c6, c7, c8, c9, c10, c11] : List Value).drop (1 * Try.prog.cellsOf 23) |>.take (Try.prog.cellsOf 23)) = some y1 := h1
  rw [show Try.prog.cellsOf 23 = 3 from by kernel_rfl] at h1
  replace h1 : DataW.trod enc Try.prog w base spare held n1 23 [c3, c4, c5] = some y1 := h1
  obtain ⟨n2, y2, h2, z2⟩ := hf 2 (by decide)
  replace h2 : DataW.trod enc Try.prog w base spare held n2 23 (([c0, c1, c2, c3, c4, c5, c6, c7, c8, c9, c10, c11] : List Value).drop (2 * Try.prog.cellsOf 23) |>.take (Try.prog.cellsOf 23)) = some y2 := h2
  rw [show Try.prog.cellsOf 23 = 3 from by kernel_rfl] at h2
  replace h2 : DataW.trod enc Try.prog w base spare held n2 23 [c6, c7, c8] = some y2 := h2
  obtain ⟨n3, y3, h3, z3⟩ := hf 3 (by decide)
  replace h3 : DataW.trod enc Try.prog w base spare held n3 23 (([c0, c1, c2, c3, c4, c5, c6, c7, c8, c9, c10, c11] : List Value).drop (3 * Try.prog.cellsOf 23) |>.take (Try.prog.cellsOf 23)) = some y3 := h3
  rw [show Try.prog.cellsOf 23 = 3 from by kernel_rfl] at h3
  replace h3 : DataW.trod enc Try.prog w base spare held n3 23 [c9, c10, c11] = some y3 := h3
  obtain ⟨x0Mode, x0Failed, x0For, e0, f0_0, f0_1⟩ := open23 h0 z0
  simp only [List.cons.injEq, and_true] at e0
  obtain ⟨rfl, rfl, rfl⟩ := e0
  obtain ⟨x1Mode, x1Failed, x1For, e1, f1_0, f1_1⟩ := open23 h1 z1
  simp only [List.cons.injEq, and_true] at e1
  obtain ⟨rfl, rfl, rfl⟩ := e1
  obtain ⟨x2Mode, x2Failed, x2For, e2, f2_0, f2_1⟩ := open23 h2 z2
  simp only [List.cons.injEq, and_true] at e2
  obtain ⟨rfl, rfl, rfl⟩ := e2
  obtain ⟨x3Mode, x3Failed, x3For, e3, f3_0, f3_1⟩ := open23 h3 z3
  simp only [List.cons.injEq, and_true] at e3
  obtain ⟨rfl, rfl, rfl⟩ := e3
  exact ⟨x0Mode, x0Failed, x0For, x1Mode, x1Failed, x1For, x2Mode, x2Failed, x2For, x3Mode, x3Failed, x3For, rfl, f0_0, f0_1, f1_0, f1_1, f2_0, f2_1, f3_0, f3_1⟩

theorem open26 {H : Type} {enc : TypeId × Value → H} {w : World} {base : Nat} {spare : Nat → Bool} {held : Bool} {fuel : Nat} {cs : List Value} {x : DataW H × List MemPlace} (h : DataW.trod enc Try.prog w base spare held fuel 26 cs = some x) (hz : Light Try.prog 26 x.1) :
    ∃ v0 : Bool, ∃ v1 : Bool, ∃ v2 : Bool, ∃ v3 : Bool, cs = [.bool v0, .bool v1, .bool v2, .bool v3] := by
  obtain ⟨hl, hf⟩ := trod_elem_z Try.underlying26 h hz
  rw [show Try.prog.cellsOf 26 = 4 from by kernel_rfl] at hl
  obtain ⟨c0, c1, c2, c3, rfl⟩ := list4 hl
  obtain ⟨n0, y0, h0, z0⟩ := hf 0 (by decide)
  replace h0 : DataW.trod enc Try.prog w base spare held n0 4 (([c0, c1, c2, c3] : List Value).drop (0 * Try.prog.cellsOf 4) |>.take (Try.prog.cellsOf 4)) = some y0 := h0
  rw [show Try.prog.cellsOf 4 = 1 from by kernel_rfl] at h0
  replace h0 : DataW.trod enc Try.prog w base spare held n0 4 [c0] = some y0 := h0
  obtain ⟨n1, y1, h1, z1⟩ := hf 1 (by decide)
  replace h1 : DataW.trod enc Try.prog w base spare held n1 4 (([c0, c1, c2, c3] : List Value).drop (1 * Try.prog.cellsOf 4) |>.take (Try.prog.cellsOf 4)) = some y1 := h1
  rw [show Try.prog.cellsOf 4 = 1 from by kernel_rfl] at h1
  replace h1 : DataW.trod enc Try.prog w base spare held n1 4 [c1] = some y1 := h1
  obtain ⟨n2, y2, h2, z2⟩ := hf 2 (by decide)
  replace h2 : DataW.trod enc Try.prog w base spare held n2 4 (([c0, c1, c2, c3] : List Value).drop (2 * Try.prog.cellsOf 4) |>.take (Try.prog.cellsOf 4)) = some y2 := h2
  rw [show Try.prog.cellsOf 4 = 1 from by kernel_rfl] at h2
  replace h2 : DataW.trod enc Try.prog w base spare held n2 4 [c2] = some y2 := h2
  obtain ⟨n3, y3, h3, z3⟩ := hf 3 (by decide)
  replace h3 : DataW.trod enc Try.prog w base spare held n3 4 (([c0, c1, c2, c3] : List Value).drop (3 * Try.prog.cellsOf 4) |>.take (Try.prog.cellsOf 4)) = some y3 := h3
  rw [show Try.prog.cellsOf 4 = 1 from by kernel_rfl] at h3
  replace h3 : DataW.trod enc Try.prog w base spare held n3 4 [c3] = some y3 := h3
  obtain ⟨x0, e0, _⟩ := DataW.trod_bool Try.underlying4 h0
  simp only [List.cons.injEq, and_true] at e0
  obtain rfl := e0
  obtain ⟨x1, e1, _⟩ := DataW.trod_bool Try.underlying4 h1
  simp only [List.cons.injEq, and_true] at e1
  obtain rfl := e1
  obtain ⟨x2, e2, _⟩ := DataW.trod_bool Try.underlying4 h2
  simp only [List.cons.injEq, and_true] at e2
  obtain rfl := e2
  obtain ⟨x3, e3, _⟩ := DataW.trod_bool Try.underlying4 h3
  simp only [List.cons.injEq, and_true] at e3
  obtain rfl := e3
  exact ⟨x0, x1, x2, x3, rfl⟩


def z0 : Nat → St := fun _ => ⟨0, false, 0⟩
def no : Nat → Bool := fun _ => false
theorem first_any (w : World) : Calls Try.prog 8 #[.agg #[.int .i64 0, .bool false, .int .i64 0, .int .i64 0, .bool false, .int .i64 0, .int .i64 0, .bool false, .int .i64 0, .int .i64 0, .bool false, .int .i64 0], .agg #[.bool false, .bool false, .bool false, .bool false], .agg #[.bool false, .bool false, .bool false, .bool false]] w fun r w' => r = .returned (.tuple #[.agg #[.int .i64 3, .bool false, .int .i64 0, .int .i64 3, .bool false, .int .i64 0, .int .i64 3, .bool false, .int .i64 0, .int .i64 3, .bool false, .int .i64 0], .agg #[.int .i64 0, .int .i64 0, .bool true], .int .i64 0]) ∧ Below w.heap.size w w' := by
  have := rplan_any z0 no no w (by decide +kernel)
  rw [show plS z0 no no 0 = ⟨3, false, 0⟩ from by kernel_rfl, show plS z0 no no 1 = ⟨3, false, 0⟩ from by kernel_rfl, show plS z0 no no 2 = ⟨3, false, 0⟩ from by kernel_rfl, show plS z0 no no 3 = ⟨3, false, 0⟩ from by kernel_rfl, show acN (plS z0 no no) 4 = 0 from by kernel_rfl, show plN z0 no no = 0 from by kernel_rfl] at this
  exact this
/-- how many are active goes by their modes -/
theorem acN_same {x y : Nat → St} (k : Nat) (h : ∀ j, j < k → (y j).m = (x j).m) : acN y k = acN x k := by
  induction k with
  | zero => rfl
  | succ k ih =>
    show acN y k + _ = acN x k + _
    rw [ih fun j hj => h j (by omega), h k (by omega)]

set_option maxHeartbeats 16000000 in
set_option maxRecDepth 100000 in
theorem walk_bad (t : Nat → St) (o f : Nat → Bool) (E : Int) (w : World) (hE : E = 1 ∨ E = 4) (CP : Hid (∀ W, Calls Try.prog 8 #[.agg #[.int .i64 (t 0).m, .bool (t 0).f, .int .i64 (t 0).n, .int .i64 (t 1).m, .bool (t 1).f, .int .i64 (t 1).n, .int .i64 (t 2).m, .bool (t 2).f, .int .i64 (t 2).n, .int .i64 (t 3).m, .bool (t 3).f, .int .i64 (t 3).n], .agg #[.bool (o 0), .bool (o 1), .bool (o 2), .bool (o 3)], .agg #[.bool (f 0), .bool (f 1), .bool (f 2), .bool (f 3)]] W fun r w' => r = .returned (.tuple #[.agg #[.int .i64 0, .bool false, .int .i64 0, .int .i64 0, .bool false, .int .i64 0, .int .i64 0, .bool false, .int .i64 0, .int .i64 0, .bool false, .int .i64 0], .agg #[.int .i64 0, .int .i64 0, .bool false], .int .i64 E]) ∧ Below W.heap.size W w')) :
    Calls Try.prog 5 #[.agg #[.int .i64 (t 0).m, .bool (t 0).f, .int .i64 (t 0).n, .int .i64 (t 1).m, .bool (t 1).f, .int .i64 (t 1).n, .int .i64 (t 2).m, .bool (t 2).f, .int .i64 (t 2).n, .int .i64 (t 3).m, .bool (t 3).f, .int .i64 (t 3).n], .agg #[.bool (o 0), .bool (o 1), .bool (o 2), .bool (o 3)], .agg #[.bool (f 0), .bool (f 1), .bool (f 2), .bool (f 3)]] w fun r w' => r = .returned (.bool true) ∧ Below w.heap.size w w' := by
  have B0 : Hid (_) := bxs_three w #[.int .i64 (t 0).m, .bool (t 0).f, .int .i64 (t 0).n, .int .i64 (t 1).m, .bool (t 1).f, .int .i64 (t 1).n, .int .i64 (t 2).m, .bool (t 2).f, .int .i64 (t 2).n, .int .i64 (t 3).m, .bool (t 3).f, .int .i64 (t 3).n] #[.bool (o 0), .bool (o 1), .bool (o 2), .bool (o 3)] #[.bool (f 0), .bool (f 1), .bool (f 2), .bool (f 3)] 25 26 26
  have CF : Hid (_) := fun W => first_any W
  go_enter Try.func5, Try.ntmps5
  go_wp2_with fail
  refine (CF.out _).mono ?_
  rintro r w1 ⟨rfl, hb⟩
  have B1 : Hid (_) := B0.out.step hb
  clear hb B0 CF
  have cl := (B1.out.box 0 _ _ rfl).lt
  have c0 := (B1.out.box 0 _ _ rfl).cell 0 _ rfl
  have c1 := (B1.out.box 0 _ _ rfl).cell 1 _ rfl
  have c2 := (B1.out.box 0 _ _ rfl).cell 2 _ rfl
  have c3 := (B1.out.box 0 _ _ rfl).cell 3 _ rfl
  have c4 := (B1.out.box 0 _ _ rfl).cell 4 _ rfl
  have c5 := (B1.out.box 0 _ _ rfl).cell 5 _ rfl
  have c6 := (B1.out.box 0 _ _ rfl).cell 6 _ rfl
  have c7 := (B1.out.box 0 _ _ rfl).cell 7 _ rfl
  have c8 := (B1.out.box 0 _ _ rfl).cell 8 _ rfl
  have c9 := (B1.out.box 0 _ _ rfl).cell 9 _ rfl
  have c10 := (B1.out.box 0 _ _ rfl).cell 10 _ rfl
  have c11 := (B1.out.box 0 _ _ rfl).cell 11 _ rfl
  have dl := (B1.out.box 1 _ _ rfl).lt
  have d0 := (B1.out.box 1 _ _ rfl).cell 0 _ rfl
  have d1 := (B1.out.box 1 _ _ rfl).cell 1 _ rfl
  have d2 := (B1.out.box 1 _ _ rfl).cell 2 _ rfl
  have d3 := (B1.out.box 1 _ _ rfl).cell 3 _ rfl
  have el := (B1.out.box 2 _ _ rfl).lt
  have e0 := (B1.out.box 2 _ _ rfl).cell 0 _ rfl
  have e1 := (B1.out.box 2 _ _ rfl).cell 1 _ rfl
  have e2 := (B1.out.box 2 _ _ rfl).cell 2 _ rfl
  have e3 := (B1.out.box 2 _ _ rfl).cell 3 _ rfl
  go_wp2_with fail
  refine (CP.out _).mono ?_
  rintro r w4 ⟨rfl, hb⟩
  have B4 : Hid (_) := ((B1.out.alloc _).alloc _).step hb
  clear hb B1 CP
  clear cl c0 c1 c2 c3 c4 c5 c6 c7 c8 c9 c10 c11
  clear dl d0 d1 d2 d3
  clear el e0 e1 e2 e3
  rcases hE with rfl | rfl
  all_goals
    go_wp2_with fail
    go_ret
    exact ⟨rfl, ((B4.out.alloc _).alloc _).bel⟩

set_option maxHeartbeats 32000000 in
set_option maxRecDepth 100000 in
theorem walk_ok (t x : Nat → St) (o f : Nat → Bool) (T : Nat → Int) (n K : Nat) (l : Bool) (w : World) (CP : Hid (∀ W, Calls Try.prog 8 #[.agg #[.int .i64 (t 0).m, .bool (t 0).f, .int .i64 (t 0).n, .int .i64 (t 1).m, .bool (t 1).f, .int .i64 (t 1).n, .int .i64 (t 2).m, .bool (t 2).f, .int .i64 (t 2).n, .int .i64 (t 3).m, .bool (t 3).f, .int .i64 (t 3).n], .agg #[.bool (o 0), .bool (o 1), .bool (o 2), .bool (o 3)], .agg #[.bool (f 0), .bool (f 1), .bool (f 2), .bool (f 3)]] W fun r w' => r = .returned (.tuple #[.agg #[.int .i64 (x 0).m, .bool (x 0).f, .int .i64 (x 0).n, .int .i64 (x 1).m, .bool (x 1).f, .int .i64 (x 1).n, .int .i64 (x 2).m, .bool (x 2).f, .int .i64 (x 2).n, .int .i64 (x 3).m, .bool (x 3).f, .int .i64 (x 3).n], .agg #[.int .i64 n, .int .i64 K, .bool l], .int .i64 0]) ∧ Below W.heap.size W w'))
    (CQ : Hid (∀ W, Calls Try.prog 8 #[.agg #[.int .i64 (x 0).m, .bool (x 0).f, .int .i64 (x 0).n, .int .i64 (x 1).m, .bool (x 1).f, .int .i64 (x 1).n, .int .i64 (x 2).m, .bool (x 2).f, .int .i64 (x 2).n, .int .i64 (x 3).m, .bool (x 3).f, .int .i64 (x 3).n], .agg #[.bool (o 0), .bool (o 1), .bool (o 2), .bool (o 3)], .agg #[.bool false, .bool false, .bool false, .bool false]] W fun r w' => r = .returned (.tuple #[.agg #[.int .i64 (x 0).m, .bool (x 0).f, .int .i64 (T 0), .int .i64 (x 1).m, .bool (x 1).f, .int .i64 (T 1), .int .i64 (x 2).m, .bool (x 2).f, .int .i64 (T 2), .int .i64 (x 3).m, .bool (x 3).f, .int .i64 (T 3)], .agg #[.int .i64 n, .int .i64 K, .bool l], .int .i64 0]) ∧ Below W.heap.size W w')) (HI : Hid (∀ j, j < 4 → (0 ≤ (x j).n ∧ (x j).n ≤ 10000) ∧ T j = tkI (x j).n)) :
    Calls Try.prog 5 #[.agg #[.int .i64 (t 0).m, .bool (t 0).f, .int .i64 (t 0).n, .int .i64 (t 1).m, .bool (t 1).f, .int .i64 (t 1).n, .int .i64 (t 2).m, .bool (t 2).f, .int .i64 (t 2).n, .int .i64 (t 3).m, .bool (t 3).f, .int .i64 (t 3).n], .agg #[.bool (o 0), .bool (o 1), .bool (o 2), .bool (o 3)], .agg #[.bool (f 0), .bool (f 1), .bool (f 2), .bool (f 3)]] w fun r w' => r = .returned (.bool true) ∧ Below w.heap.size w w' := by
  have B0 : Hid (_) := bxs_three w #[.int .i64 (t 0).m, .bool (t 0).f, .int .i64 (t 0).n, .int .i64 (t 1).m, .bool (t 1).f, .int .i64 (t 1).n, .int .i64 (t 2).m, .bool (t 2).f, .int .i64 (t 2).n, .int .i64 (t 3).m, .bool (t 3).f, .int .i64 (t 3).n] #[.bool (o 0), .bool (o 1), .bool (o 2), .bool (o 3)] #[.bool (f 0), .bool (f 1), .bool (f 2), .bool (f 3)] 25 26 26
  have CF : Hid (_) := fun W => first_any W
  go_enter Try.func5, Try.ntmps5
  go_wp2_with fail
  refine (CF.out _).mono ?_
  rintro r w1 ⟨rfl, hb⟩
  have B1 : Hid (_) := B0.out.step hb
  clear hb B0 CF
  have cl := (B1.out.box 0 _ _ rfl).lt
  have c0 := (B1.out.box 0 _ _ rfl).cell 0 _ rfl
  have c1 := (B1.out.box 0 _ _ rfl).cell 1 _ rfl
  have c2 := (B1.out.box 0 _ _ rfl).cell 2 _ rfl
  have c3 := (B1.out.box 0 _ _ rfl).cell 3 _ rfl
  have c4 := (B1.out.box 0 _ _ rfl).cell 4 _ rfl
  have c5 := (B1.out.box 0 _ _ rfl).cell 5 _ rfl
  have c6 := (B1.out.box 0 _ _ rfl).cell 6 _ rfl
  have c7 := (B1.out.box 0 _ _ rfl).cell 7 _ rfl
  have c8 := (B1.out.box 0 _ _ rfl).cell 8 _ rfl
  have c9 := (B1.out.box 0 _ _ rfl).cell 9 _ rfl
  have c10 := (B1.out.box 0 _ _ rfl).cell 10 _ rfl
  have c11 := (B1.out.box 0 _ _ rfl).cell 11 _ rfl
  have dl := (B1.out.box 1 _ _ rfl).lt
  have d0 := (B1.out.box 1 _ _ rfl).cell 0 _ rfl
  have d1 := (B1.out.box 1 _ _ rfl).cell 1 _ rfl
  have d2 := (B1.out.box 1 _ _ rfl).cell 2 _ rfl
  have d3 := (B1.out.box 1 _ _ rfl).cell 3 _ rfl
  have el := (B1.out.box 2 _ _ rfl).lt
  have e0 := (B1.out.box 2 _ _ rfl).cell 0 _ rfl
  have e1 := (B1.out.box 2 _ _ rfl).cell 1 _ rfl
  have e2 := (B1.out.box 2 _ _ rfl).cell 2 _ rfl
  have e3 := (B1.out.box 2 _ _ rfl).cell 3 _ rfl
  go_wp2_with fail
  refine (CP.out _).mono ?_
  rintro r w4 ⟨rfl, hb⟩
  have B4 : Hid (_) := ((B1.out.alloc _).alloc _).step hb
  clear hb B1 CP
  clear cl c0 c1 c2 c3 c4 c5 c6 c7 c8 c9 c10 c11
  clear dl d0 d1 d2 d3
  clear el e0 e1 e2 e3
  have dl := (B4.out.box 1 _ _ rfl).lt
  have d0 := (B4.out.box 1 _ _ rfl).cell 0 _ rfl
  have d1 := (B4.out.box 1 _ _ rfl).cell 1 _ rfl
  have d2 := (B4.out.box 1 _ _ rfl).cell 2 _ rfl
  have d3 := (B4.out.box 1 _ _ rfl).cell 3 _ rfl
  have c0l := (B4.out.box 0 _ _ rfl).lt
  go_wp2_with fail
  clear c0l
  obtain ⟨N, W5, hW5, hN5, B5', Z5⟩ := B4.out.newTwo #[.int .i64 (x 0).m, .bool (x 0).f, .int .i64 (x 0).n, .int .i64 (x 1).m, .bool (x 1).f, .int .i64 (x 1).n, .int .i64 (x 2).m, .bool (x 2).f, .int .i64 (x 2).n, .int .i64 (x 3).m, .bool (x 3).f, .int .i64 (x 3).n] #[.int .i64 n, .int .i64 K, .bool l] 25 30
  rw [hW5]
  have B5 : Hid (_) := B5'
  clear B5' B4 Z5
  clear dl d0 d1 d2 d3
  rw [hN5]
  clear hW5 hN5
  refine (CQ.out _).mono ?_
  rintro r w6 ⟨rfl, hb⟩
  have B6 : Hid (_) := B5.out.step hb
  clear hb B5 CQ
  go_wp2_with fail
  obtain ⟨M, W7, hW7, hM7, B7', Z7⟩ := B6.out.newTwo #[.int .i64 (x 0).m, .bool (x 0).f, .int .i64 (T 0), .int .i64 (x 1).m, .bool (x 1).f, .int .i64 (T 1), .int .i64 (x 2).m, .bool (x 2).f, .int .i64 (T 2), .int .i64 (x 3).m, .bool (x 3).f, .int .i64 (T 3)] #[.int .i64 n, .int .i64 K, .bool l] 25 30
  rw [hW7]
  have B7 : Hid (Bxs w [(w.heap.size, [.int .i64 (t 0).m, .bool (t 0).f, .int .i64 (t 0).n, .int .i64 (t 1).m, .bool (t 1).f, .int .i64 (t 1).n, .int .i64 (t 2).m, .bool (t 2).f, .int .i64 (t 2).n, .int .i64 (t 3).m, .bool (t 3).f, .int .i64 (t 3).n]), (w.heap.size + 1, [.bool (o 0), .bool (o 1), .bool (o 2), .bool (o 3)]), (w.heap.size + 1 + 1, [.bool (f 0), .bool (f 1), .bool (f 2), .bool (f 3)]), (N, [.int .i64 (x 0).m, .bool (x 0).f, .int .i64 (x 0).n, .int .i64 (x 1).m, .bool (x 1).f, .int .i64 (x 1).n, .int .i64 (x 2).m, .bool (x 2).f, .int .i64 (x 2).n, .int .i64 (x 3).m, .bool (x 3).f, .int .i64 (x 3).n]), (N + 1, [.int .i64 n, .int .i64 K, .bool l]), (M, [.int .i64 (x 0).m, .bool (x 0).f, .int .i64 (T 0), .int .i64 (x 1).m, .bool (x 1).f, .int .i64 (T 1), .int .i64 (x 2).m, .bool (x 2).f, .int .i64 (T 2), .int .i64 (x 3).m, .bool (x 3).f, .int .i64 (T 3)]), (M + 1, [.int .i64 n, .int .i64 K, .bool l])] W7) := B7'
  clear B7' B6 Z7
  rw [hM7]
  clear hW7 hM7
  go_loopg [50] (5) (fun g s wr => ∃ j : Nat, s = .int .i64 j ∧ 4 - j < g ∧ j ≤ 4 ∧ Hid (Bxs w [(w.heap.size, [.int .i64 (t 0).m, .bool (t 0).f, .int .i64 (t 0).n, .int .i64 (t 1).m, .bool (t 1).f, .int .i64 (t 1).n, .int .i64 (t 2).m, .bool (t 2).f, .int .i64 (t 2).n, .int .i64 (t 3).m, .bool (t 3).f, .int .i64 (t 3).n]), (w.heap.size + 1, [.bool (o 0), .bool (o 1), .bool (o 2), .bool (o 3)]), (w.heap.size + 1 + 1, [.bool (f 0), .bool (f 1), .bool (f 2), .bool (f 3)]), (N, [.int .i64 (x 0).m, .bool (x 0).f, .int .i64 (x 0).n, .int .i64 (x 1).m, .bool (x 1).f, .int .i64 (x 1).n, .int .i64 (x 2).m, .bool (x 2).f, .int .i64 (x 2).n, .int .i64 (x 3).m, .bool (x 3).f, .int .i64 (x 3).n]), (N + 1, [.int .i64 n, .int .i64 K, .bool l]), (M, [.int .i64 (x 0).m, .bool (x 0).f, .int .i64 (T 0), .int .i64 (x 1).m, .bool (x 1).f, .int .i64 (T 1), .int .i64 (x 2).m, .bool (x 2).f, .int .i64 (T 2), .int .i64 (x 3).m, .bool (x 3).f, .int .i64 (T 3)]), (M + 1, [.int .i64 n, .int .i64 K, .bool l])] wr))
  case atStart => exact ⟨0, rfl, by omega, by omega, B7⟩
  case round =>
    obtain ⟨j, rfl, hg, hj, HB⟩ := hrel
    clear B7
    by_cases hlt : j < 4
    · obtain rfl | rfl | rfl | rfl := cases4 hlt
      · obtain ⟨⟨n1, n2⟩, hT⟩ := HI.out 0 (by omega)
        have hmin : ∀ (ts : Array TypeId) (ty : TypeId) (W : World), (Builtin.min_ ts ty #[.int .i64 10000, .int .i64 ((x 0).n + 1)]).run Try.prog W = .ok (.int .i64 (T 0)) W := fun ts ty W => by
          rw [hT, run_min_int2 W ts ty .i64 .i64 10000 ((x 0).n + 1)]
          unfold tkI
          split <;> split <;> first | rfl | (congr 2; omega) | omega
        clear hT
        have cl := (HB.out.box 3 _ _ rfl).lt
        have c0 := (HB.out.box 3 _ _ rfl).cell 0 _ rfl
        have c1 := (HB.out.box 3 _ _ rfl).cell 1 _ rfl
        have c2 := (HB.out.box 3 _ _ rfl).cell 2 _ rfl
        have c3 := (HB.out.box 3 _ _ rfl).cell 3 _ rfl
        have c4 := (HB.out.box 3 _ _ rfl).cell 4 _ rfl
        have c5 := (HB.out.box 3 _ _ rfl).cell 5 _ rfl
        have c6 := (HB.out.box 3 _ _ rfl).cell 6 _ rfl
        have c7 := (HB.out.box 3 _ _ rfl).cell 7 _ rfl
        have c8 := (HB.out.box 3 _ _ rfl).cell 8 _ rfl
        have c9 := (HB.out.box 3 _ _ rfl).cell 9 _ rfl
        have c10 := (HB.out.box 3 _ _ rfl).cell 10 _ rfl
        have c11 := (HB.out.box 3 _ _ rfl).cell 11 _ rfl
        have dl := (HB.out.box 5 _ _ rfl).lt
        have d0 := (HB.out.box 5 _ _ rfl).cell 0 _ rfl
        have d1 := (HB.out.box 5 _ _ rfl).cell 1 _ rfl
        have d2 := (HB.out.box 5 _ _ rfl).cell 2 _ rfl
        have d3 := (HB.out.box 5 _ _ rfl).cell 3 _ rfl
        have d4 := (HB.out.box 5 _ _ rfl).cell 4 _ rfl
        have d5 := (HB.out.box 5 _ _ rfl).cell 5 _ rfl
        have d6 := (HB.out.box 5 _ _ rfl).cell 6 _ rfl
        have d7 := (HB.out.box 5 _ _ rfl).cell 7 _ rfl
        have d8 := (HB.out.box 5 _ _ rfl).cell 8 _ rfl
        have d9 := (HB.out.box 5 _ _ rfl).cell 9 _ rfl
        have d10 := (HB.out.box 5 _ _ rfl).cell 10 _ rfl
        have d11 := (HB.out.box 5 _ _ rfl).cell 11 _ rfl
        go_wp2_with fail
        go_big_quiet (fail)
        go_wp2_with fail
        go_roundg (4 - (0 + 1) + 1)
        case measure => omega
        case rel => exact ⟨1, rfl, by omega, by omega, HB.out.step ⟨rfl, rfl, rfl, Nat.le_refl _, fun _ _ => rfl⟩⟩
      · obtain ⟨⟨n1, n2⟩, hT⟩ := HI.out 1 (by omega)
        have hmin : ∀ (ts : Array TypeId) (ty : TypeId) (W : World), (Builtin.min_ ts ty #[.int .i64 10000, .int .i64 ((x 1).n + 1)]).run Try.prog W = .ok (.int .i64 (T 1)) W := fun ts ty W => by
          rw [hT, run_min_int2 W ts ty .i64 .i64 10000 ((x 1).n + 1)]
          unfold tkI
          split <;> split <;> first | rfl | (congr 2; omega) | omega
        clear hT
        have cl := (HB.out.box 3 _ _ rfl).lt
        have c0 := (HB.out.box 3 _ _ rfl).cell 0 _ rfl
        have c1 := (HB.out.box 3 _ _ rfl).cell 1 _ rfl
        have c2 := (HB.out.box 3 _ _ rfl).cell 2 _ rfl
        have c3 := (HB.out.box 3 _ _ rfl).cell 3 _ rfl
        have c4 := (HB.out.box 3 _ _ rfl).cell 4 _ rfl
        have c5 := (HB.out.box 3 _ _ rfl).cell 5 _ rfl
        have c6 := (HB.out.box 3 _ _ rfl).cell 6 _ rfl
        have c7 := (HB.out.box 3 _ _ rfl).cell 7 _ rfl
        have c8 := (HB.out.box 3 _ _ rfl).cell 8 _ rfl
        have c9 := (HB.out.box 3 _ _ rfl).cell 9 _ rfl
        have c10 := (HB.out.box 3 _ _ rfl).cell 10 _ rfl
        have c11 := (HB.out.box 3 _ _ rfl).cell 11 _ rfl
        have dl := (HB.out.box 5 _ _ rfl).lt
        have d0 := (HB.out.box 5 _ _ rfl).cell 0 _ rfl
        have d1 := (HB.out.box 5 _ _ rfl).cell 1 _ rfl
        have d2 := (HB.out.box 5 _ _ rfl).cell 2 _ rfl
        have d3 := (HB.out.box 5 _ _ rfl).cell 3 _ rfl
        have d4 := (HB.out.box 5 _ _ rfl).cell 4 _ rfl
        have d5 := (HB.out.box 5 _ _ rfl).cell 5 _ rfl
        have d6 := (HB.out.box 5 _ _ rfl).cell 6 _ rfl
        have d7 := (HB.out.box 5 _ _ rfl).cell 7 _ rfl
        have d8 := (HB.out.box 5 _ _ rfl).cell 8 _ rfl
        have d9 := (HB.out.box 5 _ _ rfl).cell 9 _ rfl
        have d10 := (HB.out.box 5 _ _ rfl).cell 10 _ rfl
        have d11 := (HB.out.box 5 _ _ rfl).cell 11 _ rfl
        go_wp2_with fail
        go_big_quiet (fail)
        go_wp2_with fail
        go_roundg (4 - (1 + 1) + 1)
        case measure => omega
        case rel => exact ⟨2, rfl, by omega, by omega, HB.out.step ⟨rfl, rfl, rfl, Nat.le_refl _, fun _ _ => rfl⟩⟩
      · obtain ⟨⟨n1, n2⟩, hT⟩ := HI.out 2 (by omega)
        have hmin : ∀ (ts : Array TypeId) (ty : TypeId) (W : World), (Builtin.min_ ts ty #[.int .i64 10000, .int .i64 ((x 2).n + 1)]).run Try.prog W = .ok (.int .i64 (T 2)) W := fun ts ty W => by
          rw [hT, run_min_int2 W ts ty .i64 .i64 10000 ((x 2).n + 1)]
          unfold tkI
          split <;> split <;> first | rfl | (congr 2; omega) | omega
        clear hT
        have cl := (HB.out.box 3 _ _ rfl).lt
        have c0 := (HB.out.box 3 _ _ rfl).cell 0 _ rfl
        have c1 := (HB.out.box 3 _ _ rfl).cell 1 _ rfl
        have c2 := (HB.out.box 3 _ _ rfl).cell 2 _ rfl
        have c3 := (HB.out.box 3 _ _ rfl).cell 3 _ rfl
        have c4 := (HB.out.box 3 _ _ rfl).cell 4 _ rfl
        have c5 := (HB.out.box 3 _ _ rfl).cell 5 _ rfl
        have c6 := (HB.out.box 3 _ _ rfl).cell 6 _ rfl
        have c7 := (HB.out.box 3 _ _ rfl).cell 7 _ rfl
        have c8 := (HB.out.box 3 _ _ rfl).cell 8 _ rfl
        have c9 := (HB.out.box 3 _ _ rfl).cell 9 _ rfl
        have c10 := (HB.out.box 3 _ _ rfl).cell 10 _ rfl
        have c11 := (HB.out.box 3 _ _ rfl).cell 11 _ rfl
        have dl := (HB.out.box 5 _ _ rfl).lt
        have d0 := (HB.out.box 5 _ _ rfl).cell 0 _ rfl
        have d1 := (HB.out.box 5 _ _ rfl).cell 1 _ rfl
        have d2 := (HB.out.box 5 _ _ rfl).cell 2 _ rfl
        have d3 := (HB.out.box 5 _ _ rfl).cell 3 _ rfl
        have d4 := (HB.out.box 5 _ _ rfl).cell 4 _ rfl
        have d5 := (HB.out.box 5 _ _ rfl).cell 5 _ rfl
        have d6 := (HB.out.box 5 _ _ rfl).cell 6 _ rfl
        have d7 := (HB.out.box 5 _ _ rfl).cell 7 _ rfl
        have d8 := (HB.out.box 5 _ _ rfl).cell 8 _ rfl
        have d9 := (HB.out.box 5 _ _ rfl).cell 9 _ rfl
        have d10 := (HB.out.box 5 _ _ rfl).cell 10 _ rfl
        have d11 := (HB.out.box 5 _ _ rfl).cell 11 _ rfl
        go_wp2_with fail
        go_big_quiet (fail)
        go_wp2_with fail
        go_roundg (4 - (2 + 1) + 1)
        case measure => omega
        case rel => exact ⟨3, rfl, by omega, by omega, HB.out.step ⟨rfl, rfl, rfl, Nat.le_refl _, fun _ _ => rfl⟩⟩
      · obtain ⟨⟨n1, n2⟩, hT⟩ := HI.out 3 (by omega)
        have hmin : ∀ (ts : Array TypeId) (ty : TypeId) (W : World), (Builtin.min_ ts ty #[.int .i64 10000, .int .i64 ((x 3).n + 1)]).run Try.prog W = .ok (.int .i64 (T 3)) W := fun ts ty W => by
          rw [hT, run_min_int2 W ts ty .i64 .i64 10000 ((x 3).n + 1)]
          unfold tkI
          split <;> split <;> first | rfl | (congr 2; omega) | omega
        clear hT
        have cl := (HB.out.box 3 _ _ rfl).lt
        have c0 := (HB.out.box 3 _ _ rfl).cell 0 _ rfl
        have c1 := (HB.out.box 3 _ _ rfl).cell 1 _ rfl
        have c2 := (HB.out.box 3 _ _ rfl).cell 2 _ rfl
        have c3 := (HB.out.box 3 _ _ rfl).cell 3 _ rfl
        have c4 := (HB.out.box 3 _ _ rfl).cell 4 _ rfl
        have c5 := (HB.out.box 3 _ _ rfl).cell 5 _ rfl
        have c6 := (HB.out.box 3 _ _ rfl).cell 6 _ rfl
        have c7 := (HB.out.box 3 _ _ rfl).cell 7 _ rfl
        have c8 := (HB.out.box 3 _ _ rfl).cell 8 _ rfl
        have c9 := (HB.out.box 3 _ _ rfl).cell 9 _ rfl
        have c10 := (HB.out.box 3 _ _ rfl).cell 10 _ rfl
        have c11 := (HB.out.box 3 _ _ rfl).cell 11 _ rfl
        have dl := (HB.out.box 5 _ _ rfl).lt
        have d0 := (HB.out.box 5 _ _ rfl).cell 0 _ rfl
        have d1 := (HB.out.box 5 _ _ rfl).cell 1 _ rfl
        have d2 := (HB.out.box 5 _ _ rfl).cell 2 _ rfl
        have d3 := (HB.out.box 5 _ _ rfl).cell 3 _ rfl
        have d4 := (HB.out.box 5 _ _ rfl).cell 4 _ rfl
        have d5 := (HB.out.box 5 _ _ rfl).cell 5 _ rfl
        have d6 := (HB.out.box 5 _ _ rfl).cell 6 _ rfl
        have d7 := (HB.out.box 5 _ _ rfl).cell 7 _ rfl
        have d8 := (HB.out.box 5 _ _ rfl).cell 8 _ rfl
        have d9 := (HB.out.box 5 _ _ rfl).cell 9 _ rfl
        have d10 := (HB.out.box 5 _ _ rfl).cell 10 _ rfl
        have d11 := (HB.out.box 5 _ _ rfl).cell 11 _ rfl
        go_wp2_with fail
        go_big_quiet (fail)
        go_wp2_with fail
        go_roundg (4 - (3 + 1) + 1)
        case measure => omega
        case rel => exact ⟨4, rfl, by omega, by omega, HB.out.step ⟨rfl, rfl, rfl, Nat.le_refl _, fun _ _ => rfl⟩⟩
    · obtain rfl : j = 4 := by omega
      have cl := (HB.out.box 4 _ _ rfl).lt
      have c0 := (HB.out.box 4 _ _ rfl).cell 0 _ rfl
      have c1 := (HB.out.box 4 _ _ rfl).cell 1 _ rfl
      have c2 := (HB.out.box 4 _ _ rfl).cell 2 _ rfl
      have dl := (HB.out.box 6 _ _ rfl).lt
      have d0 := (HB.out.box 6 _ _ rfl).cell 0 _ rfl
      have d1 := (HB.out.box 6 _ _ rfl).cell 1 _ rfl
      have d2 := (HB.out.box 6 _ _ rfl).cell 2 _ rfl
      go_wp2_with fail
      go_ret
      exact ⟨rfl, HB.out.bel⟩

theorem walkT (t : Nat → St) (o f : Nat → Bool) (w : World) : Calls Try.prog 5 #[.agg #[.int .i64 (t 0).m, .bool (t 0).f, .int .i64 (t 0).n, .int .i64 (t 1).m, .bool (t 1).f, .int .i64 (t 1).n, .int .i64 (t 2).m, .bool (t 2).f, .int .i64 (t 2).n, .int .i64 (t 3).m, .bool (t 3).f, .int .i64 (t 3).n], .agg #[.bool (o 0), .bool (o 1), .bool (o 2), .bool (o 3)], .agg #[.bool (f 0), .bool (f 1), .bool (f 2), .bool (f 3)]] w fun r w' => r = .returned (.bool true) ∧ Below w.heap.size w w' := by
  rcases teE_cases t with h | h | h
  · exact walk_bad t o f 1 w (Or.inl rfl) fun W => rplan_bad t _ _ _ _ _ _ _ _ 1 W (rcheck_is t 1 h) (Or.inl rfl)
  · exact walk_bad t o f 4 w (Or.inr rfl) fun W => rplan_bad t _ _ _ _ _ _ _ _ 4 W (rcheck_is t 4 h) (Or.inr rfl)
  · have ht := okt_of h
    have hx := plS_ok ht o f
    have hu : usB (skS (plS t o f) o no) o = usB (skS t o f) o := by
      funext j
      rw [usB_sk, usB_sk, plS_f]
      cases (t j).f <;> cases f j <;> rfl
    have hN : plN (plS t o f) o no = plN t o f := by
      unfold plN
      rw [hu]
    have hm : ∀ j, j < 4 → (plS (plS t o f) o no j).m = (plS t o f j).m := fun j hj => by
      rw [plS_m hx o no hj, plS_m ht o f hj]
      unfold plM
      rw [hN, hu, plS_f, show no j = false from rfl, Bool.or_false]
    have hf : ∀ j, (plS (plS t o f) o no j).f = (plS t o f j).f := fun j => by
      rw [plS_f, show no j = false from rfl, Bool.or_false]
    have hn : ∀ j, j < 4 → (plS (plS t o f) o no j).n = tkI (plS t o f j).n := fun j hj => by
      rw [plS_n, if_pos (hm j hj)]
    refine walk_ok t (plS t o f) o f (fun j => tkI (plS t o f j).n) (plN t o f) _ (((plN t o f : Nat) : Int) == 0) w (fun W => rplan_any t o f W h) (fun W => ?_) (fun j hj => ⟨okt_n hx j hj, rfl⟩)
    have := rplan_any (plS t o f) o no W (teE_of hx)
    rw [hN, acN_same 4 hm, hm 0 (by omega), hm 1 (by omega), hm 2 (by omega), hm 3 (by omega), hf, hf, hf, hf, hn 0 (by omega), hn 1 (by omega), hn 2 (by omega), hn 3 (by omega)] at this
    exact this

theorem walk (t0Mode : Int) (t0Failed : Bool) (t0For : Int) (t1Mode : Int) (t1Failed : Bool) (t1For : Int) (t2Mode : Int) (t2Failed : Bool) (t2For : Int) (t3Mode : Int) (t3Failed : Bool) (t3For : Int) (has0 : Bool) (has1 : Bool) (has2 : Bool) (has3 : Bool) (faults0 : Bool) (faults1 : Bool) (faults2 : Bool) (faults3 : Bool) (w : World) (h_t0Mode : (Lit.int .i64 t0Mode).wf = true) (h_t0For : (Lit.int .i64 t0For).wf = true) (h_t1Mode : (Lit.int .i64 t1Mode).wf = true) (h_t1For : (Lit.int .i64 t1For).wf = true) (h_t2Mode : (Lit.int .i64 t2Mode).wf = true) (h_t2For : (Lit.int .i64 t2For).wf = true) (h_t3Mode : (Lit.int .i64 t3Mode).wf = true) (h_t3For : (Lit.int .i64 t3For).wf = true) :
    Calls Try.prog 5 #[.agg #[.int .i64 t0Mode, .bool t0Failed, .int .i64 t0For, .int .i64 t1Mode, .bool t1Failed, .int .i64 t1For, .int .i64 t2Mode, .bool t2Failed, .int .i64 t2For, .int .i64 t3Mode, .bool t3Failed, .int .i64 t3For], .agg #[.bool has0, .bool has1, .bool has2, .bool has3], .agg #[.bool faults0, .bool faults1, .bool faults2, .bool faults3]] w fun e w' => e = .returned (.bool true) ∧ Below w.heap.size w w' := by
  exact walkT (tq ⟨t0Mode, t0Failed, t0For⟩ ⟨t1Mode, t1Failed, t1For⟩ ⟨t2Mode, t2Failed, t2For⟩ ⟨t3Mode, t3Failed, t3For⟩) (bq has0 has1 has2 has3) (bq faults0 faults1 faults2 faults3) w

/-! ### THE ROW's STEP -/
set_option maxRecDepth 100000 in
theorem lifted (os : Os) (started : os.Started) (H : Type) (enc : TypeId × Value → H) :
    ReturnsInHanded {} Try.checked os 5 .any (Rows.redStaysSpec.pre6 enc Try.prog Try.f5 Rows.redStaysRow.domain false) (Rows.redStaysSpec.post enc Try.prog Try.f5 false true false false) := by
  refine returnsInHanded_of_change_sized (C := Try.checked) own started (by kernel_rfl) Try.func5
    (ChangeSpec.witness6 (enc := enc) (C := Try.checked) false ⟨#[], #[.agg #[.int .i64 0, .bool false, .int .i64 0, .int .i64 0, .bool false, .int .i64 0, .int .i64 0, .bool false, .int .i64 0, .int .i64 0, .bool false, .int .i64 0], .agg #[.bool false, .bool false, .bool false, .bool false], .agg #[.bool false, .bool false, .bool false, .bool false]], []⟩ 8 (by kernel_rfl) (by kernel_rfl) (by kernel_rfl) (by kernel_rfl)) ?_
  intro W base args ds gs before hval0 hW hcnd hsz0 _
  have hval : ∀ (j : Nat) t v, Try.f5.params[j]? = some t → args[j]? = some v → Value.okWide Try.prog W .any base t v := hval0
  have hW' := hW
  obtain ⟨p, q, hA0, hV, rfl, hfz, hnd⟩ := hW
  have hA : DataW.TrodAll enc Try.prog W 0 (fun _ => true) true Try.f5.params.toList args.toList ds p := hA0
  rw [Try.params5] at hA hval
  obtain ⟨v_0, vs_0, d_0, ds_0, p_0, q_0, hargs, rfl, rfl, h_0, r_0⟩ := trodAll_cons hA
  obtain ⟨v_1, vs_1, d_1, ds_1, p_1, q_1, rfl, rfl, rfl, h_1, r_1⟩ := trodAll_cons r_0
  obtain ⟨v_2, vs_2, d_2, ds_2, p_2, q_2, rfl, rfl, rfl, h_2, r_2⟩ := trodAll_cons r_1
  obtain ⟨rfl, rfl, rfl⟩ := trodAll_nil r_2
  obtain rfl : args = #[v_0, v_1, v_2] := by cases args; simp_all
  obtain ⟨rfl, rfl⟩ := trodVars_none hV
  have hz_0 : Light Try.prog 25 d_0 := light_of hsz0 (j := 0) (by first | rfl | (rw [Try.params5]; rfl)) rfl
  have k_0 := h_0
  have lt_0 : ∀ x ∈ p_0, x.block < W.heap.size := by obtain ⟨m, hm⟩ := k_0; exact DataW.trod_lt m _ _ _ hm
  obtain ⟨cs_0, rfl, _⟩ := okWide_array Try.underlying25 (hval 0 25 v_0 rfl rfl)
  obtain ⟨t0Mode, t0Failed, t0For, t1Mode, t1Failed, t1For, t2Mode, t2Failed, t2For, t3Mode, t3Failed, t3For, e_0, h_t0Mode, h_t0For, h_t1Mode, h_t1For, h_t2Mode, h_t2For, h_t3Mode, h_t3For⟩ := (by obtain ⟨fuel, hf⟩ := h_0; exact open25 hf hz_0 : ∃ t0Mode : Int, ∃ t0Failed : Bool, ∃ t0For : Int, ∃ t1Mode : Int, ∃ t1Failed : Bool, ∃ t1For : Int, ∃ t2Mode : Int, ∃ t2Failed : Bool, ∃ t2For : Int, ∃ t3Mode : Int, ∃ t3Failed : Bool, ∃ t3For : Int, cs_0.toList = [.int .i64 t0Mode, .bool t0Failed, .int .i64 t0For, .int .i64 t1Mode, .bool t1Failed, .int .i64 t1For, .int .i64 t2Mode, .bool t2Failed, .int .i64 t2For, .int .i64 t3Mode, .bool t3Failed, .int .i64 t3For] ∧ (Lit.int .i64 t0Mode).wf = true ∧ (Lit.int .i64 t0For).wf = true ∧ (Lit.int .i64 t1Mode).wf = true ∧ (Lit.int .i64 t1For).wf = true ∧ (Lit.int .i64 t2Mode).wf = true ∧ (Lit.int .i64 t2For).wf = true ∧ (Lit.int .i64 t3Mode).wf = true ∧ (Lit.int .i64 t3For).wf = true)
  obtain rfl : cs_0 = #[.int .i64 t0Mode, .bool t0Failed, .int .i64 t0For, .int .i64 t1Mode, .bool t1Failed, .int .i64 t1For, .int .i64 t2Mode, .bool t2Failed, .int .i64 t2For, .int .i64 t3Mode, .bool t3Failed, .int .i64 t3For] := by cases cs_0; simp_all
  clear e_0
  have hz_1 : Light Try.prog 26 d_1 := light_of hsz0 (j := 1) (by first | rfl | (rw [Try.params5]; rfl)) rfl
  have k_1 := h_1
  have lt_1 : ∀ x ∈ p_1, x.block < W.heap.size := by obtain ⟨m, hm⟩ := k_1; exact DataW.trod_lt m _ _ _ hm
  obtain ⟨cs_1, rfl, _⟩ := okWide_array Try.underlying26 (hval 1 26 v_1 rfl rfl)
  obtain ⟨has0, has1, has2, has3, e_1⟩ := (by obtain ⟨fuel, hf⟩ := h_1; exact open26 hf hz_1 : ∃ has0 : Bool, ∃ has1 : Bool, ∃ has2 : Bool, ∃ has3 : Bool, cs_1.toList = [.bool has0, .bool has1, .bool has2, .bool has3])
  obtain rfl : cs_1 = #[.bool has0, .bool has1, .bool has2, .bool has3] := by cases cs_1; simp_all
  clear e_1
  have hz_2 : Light Try.prog 26 d_2 := light_of hsz0 (j := 2) (by first | rfl | (rw [Try.params5]; rfl)) rfl
  have k_2 := h_2
  have lt_2 : ∀ x ∈ p_2, x.block < W.heap.size := by obtain ⟨m, hm⟩ := k_2; exact DataW.trod_lt m _ _ _ hm
  obtain ⟨cs_2, rfl, _⟩ := okWide_array Try.underlying26 (hval 2 26 v_2 rfl rfl)
  obtain ⟨faults0, faults1, faults2, faults3, e_2⟩ := (by obtain ⟨fuel, hf⟩ := h_2; exact open26 hf hz_2 : ∃ faults0 : Bool, ∃ faults1 : Bool, ∃ faults2 : Bool, ∃ faults3 : Bool, cs_2.toList = [.bool faults0, .bool faults1, .bool faults2, .bool faults3])
  obtain rfl : cs_2 = #[.bool faults0, .bool faults1, .bool faults2, .bool faults3] := by cases cs_2; simp_all
  clear e_2
  clear hA0 hval0
  refine (walk t0Mode t0Failed t0For t1Mode t1Failed t1For t2Mode t2Failed t2For t3Mode t3Failed t3For has0 has1 has2 has3 faults0 faults1 faults2 faults3 W h_t0Mode h_t0For h_t1Mode h_t1For h_t2Mode h_t2For h_t3Mode h_t3For).mono fun e W' ⟨he, bel⟩ => ?_
  subst he
  exact ⟨_, rfl, _, _, _, [], _, [], hW', trodAll_mk1 (shut_bool Try.underlying4 _), (trodAll_cons_mk (Below.trod laidOut (by kernel_rfl) (of_decide_eq_true (by kernel_rfl)) k_0 bel lt_0) (trodAll_cons_mk (Below.trod laidOut (by kernel_rfl) (of_decide_eq_true (by kernel_rfl)) k_1 bel lt_1) (trodAll_cons_mk (Below.trod laidOut (by kernel_rfl) (of_decide_eq_true (by kernel_rfl)) k_2 bel lt_2) trodAll_mk0))), rfl, bel.frame _, fun h => by cases h⟩

theorem over : Rows.redStaysRow.holds Try.pinned (OpenSpec.ofChange Rows.redStaysSpec) :=
  OpenClaim.holds_of_wide 5 Try.f5 rfl rfl rfl rfl rfl rfl rfl ⟨rfl, rfl, rfl, rfl, rfl⟩ rfl rfl rfl rfl rfl (by kernel_rfl) Try.func5 (by kernel_rfl)
    (of_decide_eq_true (by kernel_rfl)) (by unfold Func.isWrapper; first | (rw [if_pos (by decide +kernel)]; kernel_rfl) | (rw [if_neg (by decide +kernel)]; exact ⟨rfl, rfl⟩))
    (fun os started H enc _ => lifted os started H enc)


end Go.Proofs.Ytnomceopmjlbhaa.redStays
namespace Go.Proofs.Ytnomceopmjlbhaa
/-- THE STATEMENT -/
theorem redStays_holds : Rows.RedStaysSaid := redStays.over
#print axioms redStays_holds
end Go.Proofs.Ytnomceopmjlbhaa
