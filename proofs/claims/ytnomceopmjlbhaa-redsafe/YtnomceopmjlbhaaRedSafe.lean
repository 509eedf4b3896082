/-
  Whatever is handed in, the law RedSafe returns true: behind a plan some lane is active and none is damped, or the surface is lost and all are damped. No condition.
-/
import Derived.Test.YtnomceopmjlbhaaRedMath
import Derived.Test.YtnomceopmjlbhaaRedEq
import Derived.Test.YtnomceopmjlbhaaOpenZ
import Derived.ProofKit
namespace Go.Proofs.Ytnomceopmjlbhaa.redSafe
open Go.ChangeShapes Go.WideShapes Go.ChangeAt Go.RowKit
set_option linter.unusedVariables false

theorem own : ownKnob Try.prog.godebug = none := by kernel_rfl
theorem laidOut : laidOutB Try.prog = true := by kernel_rfl

theorem list3 {l : List Value} (h : l.length = 3) : ∃ c0 c1 c2, l = [c0, c1, c2] := by
  match l, h with
  | [c0, c1, c2], _ => exact ⟨c0, c1, c2, rfl⟩

theorem list4 {l : List Value} (h : l.length = 4) : ∃ c0 c1 c2 c3, l = [c0, c1, c2, c3] := by
  match l, h with
  | [c0, c1, c2, c3], _ => exact ⟨c0, c1, c2, c3, rfl⟩

theorem list12 {l : List Value} (h : l.length = 12) : ∃ c0 c1 c2 c3 c4 c5 c6 c7 c8 c9 c10 c11, l = [c0, c1, c2, c3, c4, c5, c6, c7, c8, c9, c10, c11] := by
  match l, h with
  | [c0, c1, c2, c3, c4, c5, c6, c7, c8, c9, c10, c11], _ => exact ⟨c0, c1, c2, c3, c4, c5, c6, c7, c8, c9, c10, c11, rfl⟩

theorem open23 {H : Type} {enc : TypeId × Value → H} {w : World} {base : Nat} {spare : Nat → Bool} {held : Bool} {fuel : Nat} {cs : List Value} {x : DataW H × List MemPlace} (h : DataW.trod enc Try.prog w base spare held fuel 23 cs = some x) (hz : Light Try.prog 23 x.1) :
    ∃ vMode : Int, ∃ vFailed : Bool, ∃ vFor : Int, cs = [.int .i64 vMode, .bool vFailed, .int .i64 vFor] ∧ (Lit.int .i64 vMode).wf = true ∧ (Lit.int .i64 vFor).wf = true := by
  obtain ⟨hl, hf⟩ := trod_field_z Try.underlying23 h hz
  rw [show Try.prog.cellsOf 23 = 3 from by kernel_rfl] at hl
  obtain ⟨c0, c1, c2, rfl⟩ := list3 hl
  obtain ⟨n0, y0, h0, z0⟩ := hf 0 _ rfl
  replace h0 : DataW.trod enc Try.prog w base spare held n0 3 (([c0, c1, c2] : List Value).drop 0 |>.take (Try.prog.cellsOf 3)) = some y0 := h0
  rw [show Try.prog.cellsOf 3 = 1 from by kernel_rfl] at h0
  replace h0 : DataW.trod enc Try.prog w base spare held n0 3 [c0] = some y0 := h0
  obtain ⟨n1, y1, h1, z1⟩ := hf 1 _ rfl
  replace h1 : DataW.trod enc Try.prog w base spare held n1 4 (([c0, c1, c2] : List Value).drop 1 |>.take (Try.prog.cellsOf 4)) = some y1 := h1
  rw [show Try.prog.cellsOf 4 = 1 from by kernel_rfl] at h1
  replace h1 : DataW.trod enc Try.prog w base spare held n1 4 [c1] = some y1 := h1
  obtain ⟨n2, y2, h2, z2⟩ := hf 2 _ rfl
  replace h2 : DataW.trod enc Try.prog w base spare held n2 3 (([c0, c1, c2] : List Value).drop 2 |>.take (Try.prog.cellsOf 3)) = some y2 := h2
  rw [show Try.prog.cellsOf 3 = 1 from by kernel_rfl] at h2
  replace h2 : DataW.trod enc Try.prog w base spare held n2 3 [c2] = some y2 := h2
  obtain ⟨x0, e0, _, f0_0⟩ := DataW.trod_int Try.underlying3 h0
  simp only [List.cons.injEq, and_true] at e0
  obtain rfl := e0
  obtain ⟨x1, e1, _⟩ := DataW.trod_bool Try.underlying4 h1
  simp only [List.cons.injEq, and_true] at e1
  obtain rfl := e1
  obtain ⟨x2, e2, _, f2_0⟩ := DataW.trod_int Try.underlying3 h2
  simp only [List.cons.injEq, and_true] at e2
  obtain rfl := e2
  exact ⟨x0, x1, x2, rfl, f0_0, f2_0⟩

theorem open25 {H : Type} {enc : TypeId × Value → H} {w : World} {base : Nat} {spare : Nat → Bool} {held : Bool} {fuel : Nat} {cs : List Value} {x : DataW H × List MemPlace} (h : DataW.trod enc Try.prog w base spare held fuel 25 cs = some x) (hz : Light Try.prog 25 x.1) :
    ∃ v0Mode : Int, ∃ v0Failed : Bool, ∃ v0For : Int, ∃ v1Mode : Int, ∃ v1Failed : Bool, ∃ v1For : Int, ∃ v2Mode : Int, ∃ v2Failed : Bool, ∃ v2For : Int, ∃ v3Mode : Int, ∃ v3Failed : Bool, ∃ v3For : Int, cs = [.int .i64 v0Mode, .bool v0Failed, .int .i64 v0For, .int .i64 v1Mode, .bool v1Failed, .int .i64 v1For, .int .i64 v2Mode, .bool v2Failed, .int .i64 v2For, .int .i64 v3Mode, .bool v3Failed, .int .i64 v3For] ∧ (Lit.int .i64 v0Mode).wf = true ∧ (Lit.int .i64 v0For).wf = true ∧ (Lit.int .i64 v1Mode).wf = true ∧ (Lit.int .i64 v1For).wf = true ∧ (Lit.int .i64 v2Mode).wf = true ∧ (Lit.int .i64 v2For).wf = true ∧ (Lit.int .i64 v3Mode).wf = true ∧ (Lit.int .i64 v3For).wf = true := by
  obtain ⟨hl, hf⟩ := trod_elem_z Try.underlying25 h hz
  rw [show Try.prog.cellsOf 25 = 12 from by kernel_rfl] at hl
  obtain ⟨c0, c1, c2, c3, c4, c5, c6, c7, c8, c9, c10, c11, rfl⟩ := list12 hl
  obtain ⟨n0, y0, h0, z0⟩ := hf 0 (by decide)
  replace h0 : DataW.trod enc Try.prog w base spare held n0 23 (([c0, c1, c2, c3, c4, c5, c6, c7, c8, c9, c10, c11] : List Value).drop (0 * Try.prog.cellsOf 23) |>.take (Try.prog.cellsOf 23)) = some y0 := h0
  rw [show Try.prog.cellsOf 23 = 3 from by kernel_rfl] at h0
  replace h0 : DataW.trod enc Try.prog w base spare held n0 23 [c0, c1, c2] = some y0 := h0
  obtain ⟨n1, y1, h1, z1⟩ := hf 1 (by decide)
  replace h1 : DataW.trod enc Try.prog w base spare held n1 23 (([c0, c1, c2, c3, c4, c5, c6, c7, c8, c9, c10, c11] : List Value).drop (1 * Try.prog.cellsOf 23) |>.take (Try.prog.cellsOf 23)) = some y1 := h1
  rw [show Try.prog.cellsOf 23 = 3 from by kernel_rfl] at h1
  replace h1 : DataW.trod enc Try.prog w base spare held n1 23 [c3, c4, c5] = some y1 := h1
  obtain ⟨n2, y2, h2, z2⟩ := hf 2 (by decide)
  replace h2 : DataW.trod enc Try.prog w base spare held n2 23 (([c0, c1, c2, c3, c4, c5, c6, c7, c8, c9, c10, c11] : List Value).drop (2 * Try.prog.cellsOf 23) |>.take (Try.prog.cellsOf 23)) = some y2 := h2
  rw [show Try.prog.cellsOf 23 = 3 from by kernel_rfl] at h2
  replace h2 : DataW.trod enc Try.prog w base spare held n2 23 [c6, c7, c8] = some y2 := h2
  obtain ⟨n3, y3, h3, z3⟩ := hf 3 (by decide)
  replace h3 : DataW.trod enc Try.prog w base spare held n3 23 (([c0, c1, c2, c3, c4, c5, c6, c7, c8, c9, c10, c11] : List Value).drop (3 * Try.prog.cellsOf 23) |>.take (Try.prog.cellsOf 23)) = some y3 := h3
  rw [show Try.prog.cellsOf 23 = 3 from by kernel_rfl] at h3
  replace h3 : DataW.trod enc Try.prog w base spare held n3 23 [c9, c10, c11] = some y3 := h3
  obtain ⟨x0Mode, x0Failed, x0For, e0, f0_0, f0_1⟩ := open23 h0 z0
  simp only [List.cons.injEq, and_true] at e0
  obtain ⟨rfl, rfl, rfl⟩ := e0
  obtain ⟨x1Mode, x1Failed, x1For, e1, f1_0, f1_1⟩ := open23 h1 z1
  simp only [List.cons.injEq, and_true] at e1
  obtain ⟨rfl, rfl, rfl⟩ := e1
  obtain ⟨x2Mode, x2Failed, x2For, e2, f2_0, f2_1⟩ := open23 h2 z2
  simp only [List.cons.injEq, and_true] at e2
  obtain ⟨rfl, rfl, rfl⟩ := e2
  obtain ⟨x3Mode, x3Failed, x3For, e3, f3_0, f3_1⟩ := open23 h3 z3
  simp only [List.cons.injEq, and_true] at e3
  obtain ⟨rfl, rfl, rfl⟩ := e3
  exact ⟨x0Mode, x0Failed, x0For, x1Mode, x1Failed, x1For, x2Mode, x2Failed, x2For, x3Mode, x3Failed, x3For, rfl, f0_0, f0_1, f1_0, f1_1, f2_0, f2_1, f3_0, f3_1⟩

theorem open26 {H : Type} {enc : TypeId × Value → H} {w : World} {base : Nat} {spare : Nat → Bool} {held : Bool} {fuel : Nat} {cs : List Value} {x : DataW H × List MemPlace} (h : DataW.trod enc Try.prog w base spare held fuel 26 cs = some x) (hz : Light Try.prog 26 x.1) :
    ∃ v0 : Bool, ∃ v1 : Bool, ∃ v2 : Bool, ∃ v3 : Bool, cs = [.bool v0, .bool v1, .bool v2, .bool v3] := by
  obtain ⟨hl, hf⟩ := trod_elem_z Try.underlying26 h hz
  rw [show Try.prog.cellsOf 26 = 4 from by kernel_rfl] at hl
  obtain ⟨c0, c1, c2, c3, rfl⟩ := list4 hl
  obtain ⟨n0, y0, h0, z0⟩ := hf 0 (by decide)
  replace h0 : DataW.trod enc Try.prog w base spare held n0 4 (([c0, c1, c2, c3] : List Value).drop (0 * Try.prog.cellsOf 4) |>.take (Try.prog.cellsOf 4)) = some y0 := h0
  rw [show Try.prog.cellsOf 4 = 1 from by kernel_rfl] at h0
  replace h0 : DataW.trod enc Try.prog w base spare held n0 4 [c0] = some y0 := h0
  obtain ⟨n1, y1, h1, z1⟩ := hf 1 (by decide)
  replace h1 : DataW.trod enc Try.prog w base spare held n1 4 (([c0, c1, c2, c3] : List Value).drop (1 * Try.prog.cellsOf 4) |>.take (Try.prog.cellsOf 4)) = some y1 := h1
  rw [show Try.prog.cellsOf 4 = 1 from by kernel_rfl] at h1
  replace h1 : DataW.trod enc Try.prog w base spare held n1 4 [c1] = some y1 := h1
  obtain ⟨n2, y2, h2, z2⟩ := hf 2 (by decide)
  replace h2 : DataW.trod enc Try.prog w base spare held n2 4 (([c0, c1, c2, c3] : List Value).drop (2 * Try.prog.cellsOf 4) |>.take (Try.prog.cellsOf 4)) = some y2 := h2
  rw [show Try.prog.cellsOf 4 = 1 from by kernel_rfl] at h2
  replace h2 : DataW.trod enc Try.prog w base spare held n2 4 [c2] = some y2 := h2
  obtain ⟨n3, y3, h3, z3⟩ := hf 3 (by decide)
  replace h3 : DataW.trod enc Try.prog w base spare held n3 4 (([c0, c1, c2, c3] : List Value).drop (3 * Try.prog.cellsOf 4) |>.take (Try.prog.cellsOf 4)) = some y3 := h3
  rw [show Try.prog.cellsOf 4 = 1 from by kernel_rfl] at h3
  replace h3 : DataW.trod enc Try.prog w base spare held n3 4 [c3] = some y3 := h3
  obtain ⟨x0, e0, _⟩ := DataW.trod_bool Try.underlying4 h0
  simp only [List.cons.injEq, and_true] at e0
  obtain rfl := e0
  obtain ⟨x1, e1, _⟩ := DataW.trod_bool Try.underlying4 h1
  simp only [List.cons.injEq, and_true] at e1
  obtain rfl := e1
  obtain ⟨x2, e2, _⟩ := DataW.trod_bool Try.underlying4 h2
  simp only [List.cons.injEq, and_true] at e2
  obtain rfl := e2
  obtain ⟨x3, e3, _⟩ := DataW.trod_bool Try.underlying4 h3
  simp only [List.cons.injEq, and_true] at e3
  obtain rfl := e3
  exact ⟨x0, x1, x2, x3, rfl⟩


/-- how many of the first j lanes are damped -/
def dmN (t : Nat → St) : Nat → Nat
  | 0 => 0
  | j + 1 => dmN t j + (if (t j).m = 3 then 1 else 0)
theorem dmN_yes {t : Nat → St} {j : Nat} (h : (t j).m = 3) : dmN t (j + 1) = dmN t j + 1 := by
  show dmN t j + (if (t j).m = 3 then 1 else 0) = _
  rw [if_pos h]
theorem dmN_no {t : Nat → St} {j : Nat} (h : ¬ (t j).m = 3) : dmN t (j + 1) = dmN t j := by
  show dmN t j + (if (t j).m = 3 then 1 else 0) = _
  rw [if_neg h]; rfl
/-- a lane behind a plan: active, damped, or neither; with a fault it has failed -/
def Fine (s : St) (o f : Bool) : Prop := (((s.m == 1) = true ∧ (s.m == 3) = false ∧ s.m = 1 ∧ s.f = false ∧ o = true ∧ f = false) ∨ ((s.m == 1) = false ∧ (s.m == 3) = true ∧ s.m = 3 ∧ (f = false ∨ (f = true ∧ s.f = true))) ∨ ((s.m == 1) = false ∧ (s.m == 3) = false ∧ (¬ s.m = 1 ∧ ¬ s.m = 3) ∧ (f = false ∨ (f = true ∧ s.f = true))))
def z0 : Nat → St := fun _ => ⟨0, false, 0⟩
def o1 : Nat → Bool := fun _ => true
def f1 : Nat → Bool := fun j => decide (j = 0)
theorem first_any (w : World) : Calls Try.prog 8 #[.agg #[.int .i64 0, .bool false, .int .i64 0, .int .i64 0, .bool false, .int .i64 0, .int .i64 0, .bool false, .int .i64 0, .int .i64 0, .bool false, .int .i64 0], .agg #[.bool true, .bool true, .bool true, .bool true], .agg #[.bool true, .bool false, .bool false, .bool false]] w fun r w' => r = .returned (.tuple #[.agg #[.int .i64 2, .bool true, .int .i64 0, .int .i64 1, .bool false, .int .i64 0, .int .i64 1, .bool false, .int .i64 0, .int .i64 0, .bool false, .int .i64 1], .agg #[.int .i64 3, .int .i64 2, .bool false], .int .i64 0]) ∧ Below w.heap.size w w' := by
  have := rplan_any z0 o1 f1 w (by decide +kernel)
  rw [show plS z0 o1 f1 0 = ⟨2, true, 0⟩ from by kernel_rfl, show plS z0 o1 f1 1 = ⟨1, false, 0⟩ from by kernel_rfl, show plS z0 o1 f1 2 = ⟨1, false, 0⟩ from by kernel_rfl, show plS z0 o1 f1 3 = ⟨0, false, 1⟩ from by kernel_rfl, show acN (plS z0 o1 f1) 4 = 2 from by kernel_rfl, show plN z0 o1 f1 = 3 from by kernel_rfl] at this
  exact this

set_option maxHeartbeats 8000000 in
set_option maxRecDepth 100000 in
theorem walk_bad (t : Nat → St) (o f : Nat → Bool) (E : Int) (w : World) (hE : E = 1 ∨ E = 4) (CP : Hid (∀ W, Calls Try.prog 8 #[.agg #[.int .i64 (t 0).m, .bool (t 0).f, .int .i64 (t 0).n, .int .i64 (t 1).m, .bool (t 1).f, .int .i64 (t 1).n, .int .i64 (t 2).m, .bool (t 2).f, .int .i64 (t 2).n, .int .i64 (t 3).m, .bool (t 3).f, .int .i64 (t 3).n], .agg #[.bool (o 0), .bool (o 1), .bool (o 2), .bool (o 3)], .agg #[.bool (f 0), .bool (f 1), .bool (f 2), .bool (f 3)]] W fun r w' => r = .returned (.tuple #[.agg #[.int .i64 0, .bool false, .int .i64 0, .int .i64 0, .bool false, .int .i64 0, .int .i64 0, .bool false, .int .i64 0, .int .i64 0, .bool false, .int .i64 0], .agg #[.int .i64 0, .int .i64 0, .bool false], .int .i64 E]) ∧ Below W.heap.size W w')) :
    Calls Try.prog 4 #[.agg #[.int .i64 (t 0).m, .bool (t 0).f, .int .i64 (t 0).n, .int .i64 (t 1).m, .bool (t 1).f, .int .i64 (t 1).n, .int .i64 (t 2).m, .bool (t 2).f, .int .i64 (t 2).n, .int .i64 (t 3).m, .bool (t 3).f, .int .i64 (t 3).n], .agg #[.bool (o 0), .bool (o 1), .bool (o 2), .bool (o 3)], .agg #[.bool (f 0), .bool (f 1), .bool (f 2), .bool (f 3)]] w fun r w' => r = .returned (.bool true) ∧ Below w.heap.size w w' := by
  have B0 : Hid (_) := bxs_three w #[.int .i64 (t 0).m, .bool (t 0).f, .int .i64 (t 0).n, .int .i64 (t 1).m, .bool (t 1).f, .int .i64 (t 1).n, .int .i64 (t 2).m, .bool (t 2).f, .int .i64 (t 2).n, .int .i64 (t 3).m, .bool (t 3).f, .int .i64 (t 3).n] #[.bool (o 0), .bool (o 1), .bool (o 2), .bool (o 3)] #[.bool (f 0), .bool (f 1), .bool (f 2), .bool (f 3)] 25 26 26
  have Q1 : Hid (∀ W, (Op.equalIn 10000 25 (.agg #[.int .i64 0, .bool false, .int .i64 0, .int .i64 0, .bool false, .int .i64 0, .int .i64 0, .bool false, .int .i64 0, .int .i64 0, .bool false, .int .i64 0]) (.agg #[.int .i64 0, .bool false, .int .i64 0, .int .i64 0, .bool false, .int .i64 0, .int .i64 0, .bool false, .int .i64 0, .int .i64 0, .bool false, .int .i64 0])).run Try.prog W = .ok true W) := fun W => eqT z0 W
  have CF : Hid (_) := fun W => first_any W
  go_enter Try.func4, Try.ntmps4
  go_wp2_with fail
  refine (CF.out _).mono ?_
  rintro r w1 ⟨rfl, hb⟩
  have B1 : Hid (_) := B0.out.step hb
  clear hb B0 CF
  have cl := (B1.out.box 0 _ _ rfl).lt
  have c0 := (B1.out.box 0 _ _ rfl).cell 0 _ rfl
  have c1 := (B1.out.box 0 _ _ rfl).cell 1 _ rfl
  have c2 := (B1.out.box 0 _ _ rfl).cell 2 _ rfl
  have c3 := (B1.out.box 0 _ _ rfl).cell 3 _ rfl
  have c4 := (B1.out.box 0 _ _ rfl).cell 4 _ rfl
  have c5 := (B1.out.box 0 _ _ rfl).cell 5 _ rfl
  have c6 := (B1.out.box 0 _ _ rfl).cell 6 _ rfl
  have c7 := (B1.out.box 0 _ _ rfl).cell 7 _ rfl
  have c8 := (B1.out.box 0 _ _ rfl).cell 8 _ rfl
  have c9 := (B1.out.box 0 _ _ rfl).cell 9 _ rfl
  have c10 := (B1.out.box 0 _ _ rfl).cell 10 _ rfl
  have c11 := (B1.out.box 0 _ _ rfl).cell 11 _ rfl
  have dl := (B1.out.box 1 _ _ rfl).lt
  have d0 := (B1.out.box 1 _ _ rfl).cell 0 _ rfl
  have d1 := (B1.out.box 1 _ _ rfl).cell 1 _ rfl
  have d2 := (B1.out.box 1 _ _ rfl).cell 2 _ rfl
  have d3 := (B1.out.box 1 _ _ rfl).cell 3 _ rfl
  have el := (B1.out.box 2 _ _ rfl).lt
  have e0 := (B1.out.box 2 _ _ rfl).cell 0 _ rfl
  have e1 := (B1.out.box 2 _ _ rfl).cell 1 _ rfl
  have e2 := (B1.out.box 2 _ _ rfl).cell 2 _ rfl
  have e3 := (B1.out.box 2 _ _ rfl).cell 3 _ rfl
  go_wp2_with fail
  refine (CP.out _).mono ?_
  rintro r w2 ⟨rfl, hb⟩
  have B2 : Hid (_) := ((B1.out.alloc _).alloc _).step hb
  clear hb B1 CP
  clear cl c0 c1 c2 c3 c4 c5 c6 c7 c8 c9 c10 c11
  clear dl d0 d1 d2 d3
  clear el e0 e1 e2 e3
  have hq := Q1.out
  rcases hE with rfl | rfl
  all_goals
    go_wp2_with fail
    go_ret
    exact ⟨rfl, ((B2.out.alloc _).alloc _).bel⟩

set_option maxHeartbeats 32000000 in
set_option maxRecDepth 100000 in
theorem walk_ok (t x : Nat → St) (o f : Nat → Bool) (n K D : Nat) (l : Bool) (w : World) (CP : Hid (∀ W, Calls Try.prog 8 #[.agg #[.int .i64 (t 0).m, .bool (t 0).f, .int .i64 (t 0).n, .int .i64 (t 1).m, .bool (t 1).f, .int .i64 (t 1).n, .int .i64 (t 2).m, .bool (t 2).f, .int .i64 (t 2).n, .int .i64 (t 3).m, .bool (t 3).f, .int .i64 (t 3).n], .agg #[.bool (o 0), .bool (o 1), .bool (o 2), .bool (o 3)], .agg #[.bool (f 0), .bool (f 1), .bool (f 2), .bool (f 3)]] W fun r w' => r = .returned (.tuple #[.agg #[.int .i64 (x 0).m, .bool (x 0).f, .int .i64 (x 0).n, .int .i64 (x 1).m, .bool (x 1).f, .int .i64 (x 1).n, .int .i64 (x 2).m, .bool (x 2).f, .int .i64 (x 2).n, .int .i64 (x 3).m, .bool (x 3).f, .int .i64 (x 3).n], .agg #[.int .i64 n, .int .i64 K, .bool l], .int .i64 0]) ∧ Below W.heap.size W w'))
    (CK : Hid (∀ j, j < 4 → ∀ W, Calls Try.prog 17 #[.agg #[.int .i64 (x j).m, .bool (x j).f, .int .i64 (x j).n]] W fun r w' => r = .returned (.int .i64 0) ∧ Below W.heap.size W w')) (HX : Hid (∀ j, j < 4 → Fine (x j) (o j) (f j))) (hK : acN x 4 = K) (hD : dmN x 4 = D) (hL : (l = true ∧ n = 0 ∧ K = 0 ∧ D = 4) ∨ (l = false ∧ D = 0 ∧ 0 < K ∧ ((n < 2 ∧ K = n) ∨ (2 ≤ n ∧ K = 2)))) (hn : n ≤ 4) :
    Calls Try.prog 4 #[.agg #[.int .i64 (t 0).m, .bool (t 0).f, .int .i64 (t 0).n, .int .i64 (t 1).m, .bool (t 1).f, .int .i64 (t 1).n, .int .i64 (t 2).m, .bool (t 2).f, .int .i64 (t 2).n, .int .i64 (t 3).m, .bool (t 3).f, .int .i64 (t 3).n], .agg #[.bool (o 0), .bool (o 1), .bool (o 2), .bool (o 3)], .agg #[.bool (f 0), .bool (f 1), .bool (f 2), .bool (f 3)]] w fun r w' => r = .returned (.bool true) ∧ Below w.heap.size w w' := by
  have B0 : Hid (_) := bxs_three w #[.int .i64 (t 0).m, .bool (t 0).f, .int .i64 (t 0).n, .int .i64 (t 1).m, .bool (t 1).f, .int .i64 (t 1).n, .int .i64 (t 2).m, .bool (t 2).f, .int .i64 (t 2).n, .int .i64 (t 3).m, .bool (t 3).f, .int .i64 (t 3).n] #[.bool (o 0), .bool (o 1), .bool (o 2), .bool (o 3)] #[.bool (f 0), .bool (f 1), .bool (f 2), .bool (f 3)] 25 26 26
  have CF : Hid (_) := fun W => first_any W
  have HKK : Hid (acN x 4 = K) := hK
  have HDD : Hid (dmN x 4 = D) := hD
  have HLL : Hid (_) := hL
  clear hK hD hL
  obtain ⟨i0, i1, i2, i3⟩ := ixT x
  go_enter Try.func4, Try.ntmps4
  go_wp2_with fail
  refine (CF.out _).mono ?_
  rintro r w1 ⟨rfl, hb⟩
  have B1 : Hid (_) := B0.out.step hb
  clear hb B0 CF
  have cl := (B1.out.box 0 _ _ rfl).lt
  have c0 := (B1.out.box 0 _ _ rfl).cell 0 _ rfl
  have c1 := (B1.out.box 0 _ _ rfl).cell 1 _ rfl
  have c2 := (B1.out.box 0 _ _ rfl).cell 2 _ rfl
  have c3 := (B1.out.box 0 _ _ rfl).cell 3 _ rfl
  have c4 := (B1.out.box 0 _ _ rfl).cell 4 _ rfl
  have c5 := (B1.out.box 0 _ _ rfl).cell 5 _ rfl
  have c6 := (B1.out.box 0 _ _ rfl).cell 6 _ rfl
  have c7 := (B1.out.box 0 _ _ rfl).cell 7 _ rfl
  have c8 := (B1.out.box 0 _ _ rfl).cell 8 _ rfl
  have c9 := (B1.out.box 0 _ _ rfl).cell 9 _ rfl
  have c10 := (B1.out.box 0 _ _ rfl).cell 10 _ rfl
  have c11 := (B1.out.box 0 _ _ rfl).cell 11 _ rfl
  have dl := (B1.out.box 1 _ _ rfl).lt
  have d0 := (B1.out.box 1 _ _ rfl).cell 0 _ rfl
  have d1 := (B1.out.box 1 _ _ rfl).cell 1 _ rfl
  have d2 := (B1.out.box 1 _ _ rfl).cell 2 _ rfl
  have d3 := (B1.out.box 1 _ _ rfl).cell 3 _ rfl
  have el := (B1.out.box 2 _ _ rfl).lt
  have e0 := (B1.out.box 2 _ _ rfl).cell 0 _ rfl
  have e1 := (B1.out.box 2 _ _ rfl).cell 1 _ rfl
  have e2 := (B1.out.box 2 _ _ rfl).cell 2 _ rfl
  have e3 := (B1.out.box 2 _ _ rfl).cell 3 _ rfl
  go_wp2_with fail
  refine (CP.out _).mono ?_
  rintro r w2 ⟨rfl, hb⟩
  have B2 : Hid (_) := ((B1.out.alloc _).alloc _).step hb
  clear hb B1 CP
  clear cl c0 c1 c2 c3 c4 c5 c6 c7 c8 c9 c10 c11
  clear dl d0 d1 d2 d3
  clear el e0 e1 e2 e3
  go_wp2_with fail
  obtain ⟨N, W3, hW3, hN3, B3', Z3⟩ := B2.out.newTwo #[.int .i64 (x 0).m, .bool (x 0).f, .int .i64 (x 0).n, .int .i64 (x 1).m, .bool (x 1).f, .int .i64 (x 1).n, .int .i64 (x 2).m, .bool (x 2).f, .int .i64 (x 2).n, .int .i64 (x 3).m, .bool (x 3).f, .int .i64 (x 3).n] #[.int .i64 n, .int .i64 K, .bool l] 25 30
  rw [hW3, hN3]
  have B3 : Hid (Bxs w [(w.heap.size, [.int .i64 (t 0).m, .bool (t 0).f, .int .i64 (t 0).n, .int .i64 (t 1).m, .bool (t 1).f, .int .i64 (t 1).n, .int .i64 (t 2).m, .bool (t 2).f, .int .i64 (t 2).n, .int .i64 (t 3).m, .bool (t 3).f, .int .i64 (t 3).n]), (w.heap.size + 1, [.bool (o 0), .bool (o 1), .bool (o 2), .bool (o 3)]), (w.heap.size + 1 + 1, [.bool (f 0), .bool (f 1), .bool (f 2), .bool (f 3)]), (N, [.int .i64 (x 0).m, .bool (x 0).f, .int .i64 (x 0).n, .int .i64 (x 1).m, .bool (x 1).f, .int .i64 (x 1).n, .int .i64 (x 2).m, .bool (x 2).f, .int .i64 (x 2).n, .int .i64 (x 3).m, .bool (x 3).f, .int .i64 (x 3).n]), (N + 1, [.int .i64 n, .int .i64 K, .bool l])] W3) := B3'
  clear hW3 hN3 B3' B2 Z3
  go_loopg [13, 14, 58] (5) (fun g s1 s2 s3 wr => ∃ j k d : Nat, s1 = .int .i64 k ∧ s2 = .int .i64 d ∧ s3 = .int .i64 j ∧ 4 - j < g ∧ j ≤ 4 ∧ k ≤ j ∧ d ≤ j ∧ Hid (acN x j = k) ∧ Hid (dmN x j = d) ∧ Hid (Bxs w [(w.heap.size, [.int .i64 (t 0).m, .bool (t 0).f, .int .i64 (t 0).n, .int .i64 (t 1).m, .bool (t 1).f, .int .i64 (t 1).n, .int .i64 (t 2).m, .bool (t 2).f, .int .i64 (t 2).n, .int .i64 (t 3).m, .bool (t 3).f, .int .i64 (t 3).n]), (w.heap.size + 1, [.bool (o 0), .bool (o 1), .bool (o 2), .bool (o 3)]), (w.heap.size + 1 + 1, [.bool (f 0), .bool (f 1), .bool (f 2), .bool (f 3)]), (N, [.int .i64 (x 0).m, .bool (x 0).f, .int .i64 (x 0).n, .int .i64 (x 1).m, .bool (x 1).f, .int .i64 (x 1).n, .int .i64 (x 2).m, .bool (x 2).f, .int .i64 (x 2).n, .int .i64 (x 3).m, .bool (x 3).f, .int .i64 (x 3).n]), (N + 1, [.int .i64 n, .int .i64 K, .bool l])] wr))
  case atStart => exact ⟨0, 0, 0, rfl, rfl, rfl, by omega, by omega, by omega, by omega, rfl, rfl, B3⟩
  case round =>
    obtain ⟨j, k, d, rfl, rfl, rfl, hg, hj, hk, hd, HK, HD, HB⟩ := hrel
    clear B3
    by_cases hlt : j < 4
    · obtain rfl | rfl | rfl | rfl := cases4 hlt
      · have CC : Hid (_) := CK.out 0 (by omega)
        go_wp2_with fail
        obtain ⟨M, W4, hW4, hM4, B4', Z4⟩ := HB.out.new #[.int .i64 (x 0).m, .bool (x 0).f, .int .i64 (x 0).n] 23
        rw [hW4, hM4]
        have B4 : Hid (_) := B4'
        clear hW4 hM4 B4' HB Z4
        refine (CC.out _).mono ?_
        rintro r w5 ⟨rfl, hb⟩
        have B5 : Hid (_) := B4.out.step hb
        clear hb B4 CC
        have HB2 : Hid (Bxs w [(w.heap.size, [.int .i64 (t 0).m, .bool (t 0).f, .int .i64 (t 0).n, .int .i64 (t 1).m, .bool (t 1).f, .int .i64 (t 1).n, .int .i64 (t 2).m, .bool (t 2).f, .int .i64 (t 2).n, .int .i64 (t 3).m, .bool (t 3).f, .int .i64 (t 3).n]), (w.heap.size + 1, [.bool (o 0), .bool (o 1), .bool (o 2), .bool (o 3)]), (w.heap.size + 1 + 1, [.bool (f 0), .bool (f 1), .bool (f 2), .bool (f 3)]), (N, [.int .i64 (x 0).m, .bool (x 0).f, .int .i64 (x 0).n, .int .i64 (x 1).m, .bool (x 1).f, .int .i64 (x 1).n, .int .i64 (x 2).m, .bool (x 2).f, .int .i64 (x 2).n, .int .i64 (x 3).m, .bool (x 3).f, .int .i64 (x 3).n]), (N + 1, [.int .i64 n, .int .i64 K, .bool l])] w5) := bxs_front B5.out
        have al := (B5.out.box 1 _ _ rfl).lt
        have a0 := (B5.out.box 1 _ _ rfl).cell 0 _ rfl
        have a1 := (B5.out.box 1 _ _ rfl).cell 1 _ rfl
        have a2 := (B5.out.box 1 _ _ rfl).cell 2 _ rfl
        have a3 := (B5.out.box 1 _ _ rfl).cell 3 _ rfl
        have bl := (B5.out.box 2 _ _ rfl).lt
        have b0 := (B5.out.box 2 _ _ rfl).cell 0 _ rfl
        have b1 := (B5.out.box 2 _ _ rfl).cell 1 _ rfl
        have b2 := (B5.out.box 2 _ _ rfl).cell 2 _ rfl
        have b3 := (B5.out.box 2 _ _ rfl).cell 3 _ rfl
        have zl := (B5.out.box 5 _ _ rfl).lt
        have z0 := (B5.out.box 5 _ _ rfl).cell 0 _ rfl
        have z1 := (B5.out.box 5 _ _ rfl).cell 1 _ rfl
        have z2 := (B5.out.box 5 _ _ rfl).cell 2 _ rfl
        clear B5
        rcases HX.out 0 (by omega) with ⟨q1, q3, qm, qf, qo, qt⟩ | ⟨q1, q3, qm, qt⟩ | ⟨q1, q3, qm, qt⟩
        · have HKN : Hid (acN x (0 + 1) = k + 1) := (acN_yes qm).trans (congrArg (· + 1) HK.out)
          have HDN : Hid (dmN x (0 + 1) = d) := (dmN_no (by omega)).trans HD.out
          rw [qf] at z1
          rw [qo] at a0
          rw [qt] at b0
          clear qm qf qo qt
          go_wp2_with fail
          go_roundg (4 - (0 + 1) + 1)
          case measure => omega
          case rel => exact ⟨1, k + 1, d, by go_num, rfl, rfl, by omega, by omega, by omega, by omega, HKN.out, HDN.out, HB2.out⟩
        · have HKN : Hid (acN x (0 + 1) = k) := (acN_no (by omega)).trans HK.out
          have HDN : Hid (dmN x (0 + 1) = d + 1) := (dmN_yes qm).trans (congrArg (· + 1) HD.out)
          clear qm
          rcases qt with qt | ⟨qt, qf⟩
          · rw [qt] at b0
            clear qt
            go_wp2_with fail
            go_roundg (4 - (0 + 1) + 1)
            case measure => omega
            case rel => exact ⟨1, k, d + 1, rfl, by go_num, rfl, by omega, by omega, by omega, by omega, HKN.out, HDN.out, HB2.out⟩
          · rw [qt] at b0
            rw [qf] at z1
            clear qt qf
            go_wp2_with fail
            go_roundg (4 - (0 + 1) + 1)
            case measure => omega
            case rel => exact ⟨1, k, d + 1, rfl, by go_num, rfl, by omega, by omega, by omega, by omega, HKN.out, HDN.out, HB2.out⟩
        · have HKN : Hid (acN x (0 + 1) = k) := (acN_no qm.1).trans HK.out
          have HDN : Hid (dmN x (0 + 1) = d) := (dmN_no qm.2).trans HD.out
          clear qm
          rcases qt with qt | ⟨qt, qf⟩
          · rw [qt] at b0
            clear qt
            go_wp2_with fail
            go_roundg (4 - (0 + 1) + 1)
            case measure => omega
            case rel => exact ⟨1, k, d, rfl, rfl, rfl, by omega, by omega, by omega, by omega, HKN.out, HDN.out, HB2.out⟩
          · rw [qt] at b0
            rw [qf] at z1
            clear qt qf
            go_wp2_with fail
            go_roundg (4 - (0 + 1) + 1)
            case measure => omega
            case rel => exact ⟨1, k, d, rfl, rfl, rfl, by omega, by omega, by omega, by omega, HKN.out, HDN.out, HB2.out⟩
      · have CC : Hid (_) := CK.out 1 (by omega)
        go_wp2_with fail
        obtain ⟨M, W4, hW4, hM4, B4', Z4⟩ := HB.out.new #[.int .i64 (x 1).m, .bool (x 1).f, .int .i64 (x 1).n] 23
        rw [hW4, hM4]
        have B4 : Hid (_) := B4'
        clear hW4 hM4 B4' HB Z4
        refine (CC.out _).mono ?_
        rintro r w5 ⟨rfl, hb⟩
        have B5 : Hid (_) := B4.out.step hb
        clear hb B4 CC
        have HB2 : Hid (Bxs w [(w.heap.size, [.int .i64 (t 0).m, .bool (t 0).f, .int .i64 (t 0).n, .int .i64 (t 1).m, .bool (t 1).f, .int .i64 (t 1).n, .int .i64 (t 2).m, .bool (t 2).f, .int .i64 (t 2).n, .int .i64 (t 3).m, .bool (t 3).f, .int .i64 (t 3).n]), (w.heap.size + 1, [.bool (o 0), .bool (o 1), .bool (o 2), .bool (o 3)]), (w.heap.size + 1 + 1, [.bool (f 0), .bool (f 1), .bool (f 2), .bool (f 3)]), (N, [.int .i64 (x 0).m, .bool (x 0).f, .int .i64 (x 0).n, .int .i64 (x 1).m, .bool (x 1).f, .int .i64 (x 1).n, .int .i64 (x 2).m, .bool (x 2).f, .int .i64 (x 2).n, .int .i64 (x 3).m, .bool (x 3).f, .int .i64 (x 3).n]), (N + 1, [.int .i64 n, .int .i64 K, .bool l])] w5) := bxs_front B5.out
        have al := (B5.out.box 1 _ _ rfl).lt
        have a0 := (B5.out.box 1 _ _ rfl).cell 0 _ rfl
        have a1 := (B5.out.box 1 _ _ rfl).cell 1 _ rfl
        have a2 := (B5.out.box 1 _ _ rfl).cell 2 _ rfl
        have a3 := (B5.out.box 1 _ _ rfl).cell 3 _ rfl
        have bl := (B5.out.box 2 _ _ rfl).lt
        have b0 := (B5.out.box 2 _ _ rfl).cell 0 _ rfl
        have b1 := (B5.out.box 2 _ _ rfl).cell 1 _ rfl
        have b2 := (B5.out.box 2 _ _ rfl).cell 2 _ rfl
        have b3 := (B5.out.box 2 _ _ rfl).cell 3 _ rfl
        have zl := (B5.out.box 5 _ _ rfl).lt
        have z0 := (B5.out.box 5 _ _ rfl).cell 0 _ rfl
        have z1 := (B5.out.box 5 _ _ rfl).cell 1 _ rfl
        have z2 := (B5.out.box 5 _ _ rfl).cell 2 _ rfl
        clear B5
        rcases HX.out 1 (by omega) with ⟨q1, q3, qm, qf, qo, qt⟩ | ⟨q1, q3, qm, qt⟩ | ⟨q1, q3, qm, qt⟩
        · have HKN : Hid (acN x (1 + 1) = k + 1) := (acN_yes qm).trans (congrArg (· + 1) HK.out)
          have HDN : Hid (dmN x (1 + 1) = d) := (dmN_no (by omega)).trans HD.out
          rw [qf] at z1
          rw [qo] at a1
          rw [qt] at b1
          clear qm qf qo qt
          go_wp2_with fail
          go_roundg (4 - (1 + 1) + 1)
          case measure => omega
          case rel => exact ⟨2, k + 1, d, by go_num, rfl, rfl, by omega, by omega, by omega, by omega, HKN.out, HDN.out, HB2.out⟩
        · have HKN : Hid (acN x (1 + 1) = k) := (acN_no (by omega)).trans HK.out
          have HDN : Hid (dmN x (1 + 1) = d + 1) := (dmN_yes qm).trans (congrArg (· + 1) HD.out)
          clear qm
          rcases qt with qt | ⟨qt, qf⟩
          · rw [qt] at b1
            clear qt
            go_wp2_with fail
            go_roundg (4 - (1 + 1) + 1)
            case measure => omega
            case rel => exact ⟨2, k, d + 1, rfl, by go_num, rfl, by omega, by omega, by omega, by omega, HKN.out, HDN.out, HB2.out⟩
          · rw [qt] at b1
            rw [qf] at z1
            clear qt qf
            go_wp2_with fail
            go_roundg (4 - (1 + 1) + 1)
            case measure => omega
            case rel => exact ⟨2, k, d + 1, rfl, by go_num, rfl, by omega, by omega, by omega, by omega, HKN.out, HDN.out, HB2.out⟩
        · have HKN : Hid (acN x (1 + 1) = k) := (acN_no qm.1).trans HK.out
          have HDN : Hid (dmN x (1 + 1) = d) := (dmN_no qm.2).trans HD.out
          clear qm
          rcases qt with qt | ⟨qt, qf⟩
          · rw [qt] at b1
            clear qt
            go_wp2_with fail
            go_roundg (4 - (1 + 1) + 1)
            case measure => omega
            case rel => exact ⟨2, k, d, rfl, rfl, rfl, by omega, by omega, by omega, by omega, HKN.out, HDN.out, HB2.out⟩
          · rw [qt] at b1
            rw [qf] at z1
            clear qt qf
            go_wp2_with fail
            go_roundg (4 - (1 + 1) + 1)
            case measure => omega
            case rel => exact ⟨2, k, d, rfl, rfl, rfl, by omega, by omega, by omega, by omega, HKN.out, HDN.out, HB2.out⟩
      · have CC : Hid (_) := CK.out 2 (by omega)
        go_wp2_with fail
        obtain ⟨M, W4, hW4, hM4, B4', Z4⟩ := HB.out.new #[.int .i64 (x 2).m, .bool (x 2).f, .int .i64 (x 2).n] 23
        rw [hW4, hM4]
        have B4 : Hid (_) := B4'
        clear hW4 hM4 B4' HB Z4
        refine (CC.out _).mono ?_
        rintro r w5 ⟨rfl, hb⟩
        have B5 : Hid (_) := B4.out.step hb
        clear hb B4 CC
        have HB2 : Hid (Bxs w [(w.heap.size, [.int .i64 (t 0).m, .bool (t 0).f, .int .i64 (t 0).n, .int .i64 (t 1).m, .bool (t 1).f, .int .i64 (t 1).n, .int .i64 (t 2).m, .bool (t 2).f, .int .i64 (t 2).n, .int .i64 (t 3).m, .bool (t 3).f, .int .i64 (t 3).n]), (w.heap.size + 1, [.bool (o 0), .bool (o 1), .bool (o 2), .bool (o 3)]), (w.heap.size + 1 + 1, [.bool (f 0), .bool (f 1), .bool (f 2), .bool (f 3)]), (N, [.int .i64 (x 0).m, .bool (x 0).f, .int .i64 (x 0).n, .int .i64 (x 1).m, .bool (x 1).f, .int .i64 (x 1).n, .int .i64 (x 2).m, .bool (x 2).f, .int .i64 (x 2).n, .int .i64 (x 3).m, .bool (x 3).f, .int .i64 (x 3).n]), (N + 1, [.int .i64 n, .int .i64 K, .bool l])] w5) := bxs_front B5.out
        have al := (B5.out.box 1 _ _ rfl).lt
        have a0 := (B5.out.box 1 _ _ rfl).cell 0 _ rfl
        have a1 := (B5.out.box 1 _ _ rfl).cell 1 _ rfl
        have a2 := (B5.out.box 1 _ _ rfl).cell 2 _ rfl
        have a3 := (B5.out.box 1 _ _ rfl).cell 3 _ rfl
        have bl := (B5.out.box 2 _ _ rfl).lt
        have b0 := (B5.out.box 2 _ _ rfl).cell 0 _ rfl
        have b1 := (B5.out.box 2 _ _ rfl).cell 1 _ rfl
        have b2 := (B5.out.box 2 _ _ rfl).cell 2 _ rfl
        have b3 := (B5.out.box 2 _ _ rfl).cell 3 _ rfl
        have zl := (B5.out.box 5 _ _ rfl).lt
        have z0 := (B5.out.box 5 _ _ rfl).cell 0 _ rfl
        have z1 := (B5.out.box 5 _ _ rfl).cell 1 _ rfl
        have z2 := (B5.out.box 5 _ _ rfl).cell 2 _ rfl
        clear B5
        rcases HX.out 2 (by omega) with ⟨q1, q3, qm, qf, qo, qt⟩ | ⟨q1, q3, qm, qt⟩ | ⟨q1, q3, qm, qt⟩
        · have HKN : Hid (acN x (2 + 1) = k + 1) := (acN_yes qm).trans (congrArg (· + 1) HK.out)
          have HDN : Hid (dmN x (2 + 1) = d) := (dmN_no (by omega)).trans HD.out
          rw [qf] at z1
          rw [qo] at a2
          rw [qt] at b2
          clear qm qf qo qt
          go_wp2_with fail
          go_roundg (4 - (2 + 1) + 1)
          case measure => omega
          case rel => exact ⟨3, k + 1, d, by go_num, rfl, rfl, by omega, by omega, by omega, by omega, HKN.out, HDN.out, HB2.out⟩
        · have HKN : Hid (acN x (2 + 1) = k) := (acN_no (by omega)).trans HK.out
          have HDN : Hid (dmN x (2 + 1) = d + 1) := (dmN_yes qm).trans (congrArg (· + 1) HD.out)
          clear qm
          rcases qt with qt | ⟨qt, qf⟩
          · rw [qt] at b2
            clear qt
            go_wp2_with fail
            go_roundg (4 - (2 + 1) + 1)
            case measure => omega
            case rel => exact ⟨3, k, d + 1, rfl, by go_num, rfl, by omega, by omega, by omega, by omega, HKN.out, HDN.out, HB2.out⟩
          · rw [qt] at b2
            rw [qf] at z1
            clear qt qf
            go_wp2_with fail
            go_roundg (4 - (2 + 1) + 1)
            case measure => omega
            case rel => exact ⟨3, k, d + 1, rfl, by go_num, rfl, by omega, by omega, by omega, by omega, HKN.out, HDN.out, HB2.out⟩
        · have HKN : Hid (acN x (2 + 1) = k) := (acN_no qm.1).trans HK.out
          have HDN : Hid (dmN x (2 + 1) = d) := (dmN_no qm.2).trans HD.out
          clear qm
          rcases qt with qt | ⟨qt, qf⟩
          · rw [qt] at b2
            clear qt
            go_wp2_with fail
            go_roundg (4 - (2 + 1) + 1)
            case measure => omega
            case rel => exact ⟨3, k, d, rfl, rfl, rfl, by omega, by omega, by omega, by omega, HKN.out, HDN.out, HB2.out⟩
          · rw [qt] at b2
            rw [qf] at z1
            clear qt qf
            go_wp2_with fail
            go_roundg (4 - (2 + 1) + 1)
            case measure => omega
            case rel => exact ⟨3, k, d, rfl, rfl, rfl, by omega, by omega, by omega, by omega, HKN.out, HDN.out, HB2.out⟩
      · have CC : Hid (_) := CK.out 3 (by omega)
        go_wp2_with fail
        obtain ⟨M, W4, hW4, hM4, B4', Z4⟩ := HB.out.new #[.int .i64 (x 3).m, .bool (x 3).f, .int .i64 (x 3).n] 23
        rw [hW4, hM4]
        have B4 : Hid (_) := B4'
        clear hW4 hM4 B4' HB Z4
        refine (CC.out _).mono ?_
        rintro r w5 ⟨rfl, hb⟩
        have B5 : Hid (_) := B4.out.step hb
        clear hb B4 CC
        have HB2 : Hid (Bxs w [(w.heap.size, [.int .i64 (t 0).m, .bool (t 0).f, .int .i64 (t 0).n, .int .i64 (t 1).m, .bool (t 1).f, .int .i64 (t 1).n, .int .i64 (t 2).m, .bool (t 2).f, .int .i64 (t 2).n, .int .i64 (t 3).m, .bool (t 3).f, .int .i64 (t 3).n]), (w.heap.size + 1, [.bool (o 0), .bool (o 1), .bool (o 2), .bool (o 3)]), (w.heap.size + 1 + 1, [.bool (f 0), .bool (f 1), .bool (f 2), .bool (f 3)]), (N, [.int .i64 (x 0).m, .bool (x 0).f, .int .i64 (x 0).n, .int .i64 (x 1).m, .bool (x 1).f, .int .i64 (x 1).n, .int .i64 (x 2).m, .bool (x 2).f, .int .i64 (x 2).n, .int .i64 (x 3).m, .bool (x 3).f, .int .i64 (x 3).n]), (N + 1, [.int .i64 n, .int .i64 K, .bool l])] w5) := bxs_front B5.out
        have al := (B5.out.box 1 _ _ rfl).lt
        have a0 := (B5.out.box 1 _ _ rfl).cell 0 _ rfl
        have a1 := (B5.out.box 1 _ _ rfl).cell 1 _ rfl
        have a2 := (B5.out.box 1 _ _ rfl).cell 2 _ rfl
        have a3 := (B5.out.box 1 _ _ rfl).cell 3 _ rfl
        have bl := (B5.out.box 2 _ _ rfl).lt
        have b0 := (B5.out.box 2 _ _ rfl).cell 0 _ rfl
        have b1 := (B5.out.box 2 _ _ rfl).cell 1 _ rfl
        have b2 := (B5.out.box 2 _ _ rfl).cell 2 _ rfl
        have b3 := (B5.out.box 2 _ _ rfl).cell 3 _ rfl
        have zl := (B5.out.box 5 _ _ rfl).lt
        have z0 := (B5.out.box 5 _ _ rfl).cell 0 _ rfl
        have z1 := (B5.out.box 5 _ _ rfl).cell 1 _ rfl
        have z2 := (B5.out.box 5 _ _ rfl).cell 2 _ rfl
        clear B5
        rcases HX.out 3 (by omega) with ⟨q1, q3, qm, qf, qo, qt⟩ | ⟨q1, q3, qm, qt⟩ | ⟨q1, q3, qm, qt⟩
        · have HKN : Hid (acN x (3 + 1) = k + 1) := (acN_yes qm).trans (congrArg (· + 1) HK.out)
          have HDN : Hid (dmN x (3 + 1) = d) := (dmN_no (by omega)).trans HD.out
          rw [qf] at z1
          rw [qo] at a3
          rw [qt] at b3
          clear qm qf qo qt
          go_wp2_with fail
          go_roundg (4 - (3 + 1) + 1)
          case measure => omega
          case rel => exact ⟨4, k + 1, d, by go_num, rfl, rfl, by omega, by omega, by omega, by omega, HKN.out, HDN.out, HB2.out⟩
        · have HKN : Hid (acN x (3 + 1) = k) := (acN_no (by omega)).trans HK.out
          have HDN : Hid (dmN x (3 + 1) = d + 1) := (dmN_yes qm).trans (congrArg (· + 1) HD.out)
          clear qm
          rcases qt with qt | ⟨qt, qf⟩
          · rw [qt] at b3
            clear qt
            go_wp2_with fail
            go_roundg (4 - (3 + 1) + 1)
            case measure => omega
            case rel => exact ⟨4, k, d + 1, rfl, by go_num, rfl, by omega, by omega, by omega, by omega, HKN.out, HDN.out, HB2.out⟩
          · rw [qt] at b3
            rw [qf] at z1
            clear qt qf
            go_wp2_with fail
            go_roundg (4 - (3 + 1) + 1)
            case measure => omega
            case rel => exact ⟨4, k, d + 1, rfl, by go_num, rfl, by omega, by omega, by omega, by omega, HKN.out, HDN.out, HB2.out⟩
        · have HKN : Hid (acN x (3 + 1) = k) := (acN_no qm.1).trans HK.out
          have HDN : Hid (dmN x (3 + 1) = d) := (dmN_no qm.2).trans HD.out
          clear qm
          rcases qt with qt | ⟨qt, qf⟩
          · rw [qt] at b3
            clear qt
            go_wp2_with fail
            go_roundg (4 - (3 + 1) + 1)
            case measure => omega
            case rel => exact ⟨4, k, d, rfl, rfl, rfl, by omega, by omega, by omega, by omega, HKN.out, HDN.out, HB2.out⟩
          · rw [qt] at b3
            rw [qf] at z1
            clear qt qf
            go_wp2_with fail
            go_roundg (4 - (3 + 1) + 1)
            case measure => omega
            case rel => exact ⟨4, k, d, rfl, rfl, rfl, by omega, by omega, by omega, by omega, HKN.out, HDN.out, HB2.out⟩
    · obtain rfl : j = 4 := by omega
      have e1 : k = K := HK.out.symm.trans HKK.out
      have e2 : d = D := HD.out.symm.trans HDD.out
      clear HK HD HKK HDD
      subst e1 e2
      have zl := (HB.out.box 4 _ _ rfl).lt
      have z0 := (HB.out.box 4 _ _ rfl).cell 0 _ rfl
      have z1 := (HB.out.box 4 _ _ rfl).cell 1 _ rfl
      have z2 := (HB.out.box 4 _ _ rfl).cell 2 _ rfl
      rcases HLL.out with ⟨rfl, rfl, rfl, rfl⟩ | ⟨rfl, rfl, h0, hm⟩
      · go_wp2_with fail
        go_ret
        exact ⟨rfl, HB.out.bel⟩
      · have hmin : ∀ (ts : Array TypeId) (ty : TypeId) (W : World), (Builtin.min_ ts ty #[.int .i64 2, .int .i64 n]).run Try.prog W = .ok (.int .i64 k) W := fun ts ty W => by
          rw [run_min_int2 W ts ty .i64 .i64 2 n]
          split <;> first | rfl | (congr 2; omega) | omega
        have h1 : 0 < (k : Int) := by omega
        clear HLL h0 hm
        go_wp2_with fail
        go_ret
        exact ⟨rfl, HB.out.bel⟩

theorem walkT (t : Nat → St) (o f : Nat → Bool) (w : World) : Calls Try.prog 4 #[.agg #[.int .i64 (t 0).m, .bool (t 0).f, .int .i64 (t 0).n, .int .i64 (t 1).m, .bool (t 1).f, .int .i64 (t 1).n, .int .i64 (t 2).m, .bool (t 2).f, .int .i64 (t 2).n, .int .i64 (t 3).m, .bool (t 3).f, .int .i64 (t 3).n], .agg #[.bool (o 0), .bool (o 1), .bool (o 2), .bool (o 3)], .agg #[.bool (f 0), .bool (f 1), .bool (f 2), .bool (f 3)]] w fun r w' => r = .returned (.bool true) ∧ Below w.heap.size w w' := by
  rcases teE_cases t with h | h | h
  · exact walk_bad t o f 1 w (Or.inl rfl) fun W => rplan_bad t _ _ _ _ _ _ _ _ 1 W (rcheck_is t 1 h) (Or.inl rfl)
  · exact walk_bad t o f 4 w (Or.inr rfl) fun W => rplan_bad t _ _ _ _ _ _ _ _ 4 W (rcheck_is t 4 h) (Or.inr rfl)
  · have ht := okt_of h
    have hn4 : plN t o f ≤ 4 := usL_le _ 4
    have hA := plS_active ht o f
    refine walk_ok t (plS t o f) o f (plN t o f) _ _ (((plN t o f : Nat) : Int) == 0) w (fun W => rplan_any t o f W h) (fun j hj W => ?_) (fun j hj => ?_) rfl rfl ?_ hn4
    · have := lcheck_any (plS t o f j).m (plS t o f j).f (plS t o f j).n W
      rw [show lE (plS t o f j).m (plS t o f j).f (plS t o f j).n = 0 from plS_ok ht o f j hj] at this
      exact this
    · have hm := plS_m ht o f hj
      have hf := plS_f t o f j
      have hff : f j = false ∨ (f j = true ∧ (plS t o f j).f = true) := by
        rcases boolTwo (f j) with e | e
        · exact Or.inl e
        · exact Or.inr ⟨e, by rw [hf, e]; simp⟩
      unfold plM at hm
      unfold Fine
      by_cases c0 : plN t o f = 0
      · rw [if_pos c0] at hm
        exact Or.inr (Or.inl ⟨by rw [hm]; rfl, by rw [hm]; rfl, hm, hff⟩)
      · rw [if_neg c0] at hm
        by_cases c1 : ((t j).f || f j) = true
        · rw [if_pos c1] at hm
          exact Or.inr (Or.inr ⟨by rw [hm]; rfl, by rw [hm]; rfl, ⟨by omega, by omega⟩, hff⟩)
        · rw [if_neg c1] at hm
          have c1' : ((t j).f || f j) = false := by simpa using c1
          by_cases c2 : o j = true ∧ usN (usB (skS t o f) o) j < 2
          · rw [if_pos c2] at hm
            exact Or.inl ⟨by rw [hm]; rfl, by rw [hm]; rfl, hm, by rw [hf]; exact c1', c2.1, by
              rcases boolTwo (f j) with e | e
              · exact e
              · rw [e] at c1; simp at c1⟩
          · rw [if_neg c2] at hm
            exact Or.inr (Or.inr ⟨by rw [hm]; rfl, by rw [hm]; rfl, ⟨by omega, by omega⟩, hff⟩)
    · by_cases c0 : plN t o f = 0
      · have k : ∀ j, j < 4 → (plS t o f j).m = 3 := fun j hj => by
          rw [plS_m ht o f hj]
          unfold plM
          rw [if_pos c0]
        refine Or.inl ⟨by rw [c0]; rfl, c0, by rw [hA, if_pos c0], ?_⟩
        show dmN _ 3 + _ = 4
        rw [if_pos (k 3 (by omega)), dmN_yes (k 2 (by omega)), dmN_yes (k 1 (by omega)), dmN_yes (k 0 (by omega))]
        rfl
      · have k : ∀ j, j < 4 → ¬ (plS t o f j).m = 3 := fun j hj => by
          rw [plS_m ht o f hj]
          unfold plM
          rw [if_neg c0]
          split
          · decide
          · split <;> decide
        rw [if_neg c0] at hA
        refine Or.inr ⟨by simp; omega, ?_, ?_, ?_⟩
        · show dmN _ 3 + _ = 0
          rw [if_neg (k 3 (by omega)), dmN_no (k 2 (by omega)), dmN_no (k 1 (by omega)), dmN_no (k 0 (by omega))]
          rfl
        · rw [hA]
          split <;> omega
        · rw [hA]
          by_cases c2 : plN t o f < 2
          · exact Or.inl ⟨c2, if_pos c2⟩
          · exact Or.inr ⟨by omega, if_neg c2⟩

theorem walk (t0Mode : Int) (t0Failed : Bool) (t0For : Int) (t1Mode : Int) (t1Failed : Bool) (t1For : Int) (t2Mode : Int) (t2Failed : Bool) (t2For : Int) (t3Mode : Int) (t3Failed : Bool) (t3For : Int) (has0 : Bool) (has1 : Bool) (has2 : Bool) (has3 : Bool) (faults0 : Bool) (faults1 : Bool) (faults2 : Bool) (faults3 : Bool) (w : World) (h_t0Mode : (Lit.int .i64 t0Mode).wf = true) (h_t0For : (Lit.int .i64 t0For).wf = true) (h_t1Mode : (Lit.int .i64 t1Mode).wf = true) (h_t1For : (Lit.int .i64 t1For).wf = true) (h_t2Mode : (Lit.int .i64 t2Mode).wf = true) (h_t2For : (Lit.int .i64 t2For).wf = true) (h_t3Mode : (Lit.int .i64 t3Mode).wf = true) (h_t3For : (Lit.int .i64 t3For).wf = true) :
    Calls Try.prog 4 #[.agg #[.int .i64 t0Mode, .bool t0Failed, .int .i64 t0For, .int .i64 t1Mode, .bool t1Failed, .int .i64 t1For, .int .i64 t2Mode, .bool t2Failed, .int .i64 t2For, .int .i64 t3Mode, .bool t3Failed, .int .i64 t3For], .agg #[.bool has0, .bool has1, .bool has2, .bool has3], .agg #[.bool faults0, .bool faults1, .bool faults2, .bool faults3]] w fun e w' => e = .returned (.bool true) ∧ Below w.heap.size w w' := by
  exact walkT (tq ⟨t0Mode, t0Failed, t0For⟩ ⟨t1Mode, t1Failed, t1For⟩ ⟨t2Mode, t2Failed, t2For⟩ ⟨t3Mode, t3Failed, t3For⟩) (bq has0 has1 has2 has3) (bq faults0 faults1 faults2 faults3) w

/-! ### THE ROW's STEP -/
set_option maxRecDepth 100000 in
theorem lifted (os : Os) (started : os.Started) (H : Type) (enc : TypeId × Value → H) :
    ReturnsInHanded {} Try.checked os 4 .any (Rows.redSafeSpec.pre6 enc Try.prog Try.f4 Rows.redSafeRow.domain false) (Rows.redSafeSpec.post enc Try.prog Try.f4 false true false false) := by
  refine returnsInHanded_of_change_sized (C := Try.checked) own started (by kernel_rfl) Try.func4
    (ChangeSpec.witness6 (enc := enc) (C := Try.checked) false ⟨#[], #[.agg #[.int .i64 0, .bool false, .int .i64 0, .int .i64 0, .bool false, .int .i64 0, .int .i64 0, .bool false, .int .i64 0, .int .i64 0, .bool false, .int .i64 0], .agg #[.bool false, .bool false, .bool false, .bool false], .agg #[.bool false, .bool false, .bool false, .bool false]], []⟩ 8 (by kernel_rfl) (by kernel_rfl) (by kernel_rfl) (by kernel_rfl)) ?_
  intro W base args ds gs before hval0 hW hcnd hsz0 _
  have hval : ∀ (j : Nat) t v, Try.f4.params[j]? = some t → args[j]? = some v → Value.okWide Try.prog W .any base t v := hval0
  have hW' := hW
  obtain ⟨p, q, hA0, hV, rfl, hfz, hnd⟩ := hW
  have hA : DataW.TrodAll enc Try.prog W 0 (fun _ => true) true Try.f4.params.toList args.toList ds p := hA0
  rw [Try.params4] at hA hval
  obtain ⟨v_0, vs_0, d_0, ds_0, p_0, q_0, hargs, rfl, rfl, h_0, r_0⟩ := trodAll_cons hA
  obtain ⟨v_1, vs_1, d_1, ds_1, p_1, q_1, rfl, rfl, rfl, h_1, r_1⟩ := trodAll_cons r_0
  obtain ⟨v_2, vs_2, d_2, ds_2, p_2, q_2, rfl, rfl, rfl, h_2, r_2⟩ := trodAll_cons r_1
  obtain ⟨rfl, rfl, rfl⟩ := trodAll_nil r_2
  obtain rfl : args = #[v_0, v_1, v_2] := by cases args; simp_all
  obtain ⟨rfl, rfl⟩ := trodVars_none hV
  have hz_0 : Light Try.prog 25 d_0 := light_of hsz0 (j := 0) (by first | rfl | (rw [Try.params4]; rfl)) rfl
  have k_0 := h_0
  have lt_0 : ∀ x ∈ p_0, x.block < W.heap.size := by obtain ⟨m, hm⟩ := k_0; exact DataW.trod_lt m _ _ _ hm
  obtain ⟨cs_0, rfl, _⟩ := okWide_array Try.underlying25 (hval 0 25 v_0 rfl rfl)
  obtain ⟨t0Mode, t0Failed, t0For, t1Mode, t1Failed, t1For, t2Mode, t2Failed, t2For, t3Mode, t3Failed, t3For, e_0, h_t0Mode, h_t0For, h_t1Mode, h_t1For, h_t2Mode, h_t2For, h_t3Mode, h_t3For⟩ := (by obtain ⟨fuel, hf⟩ := h_0; exact open25 hf hz_0 : ∃ t0Mode : Int, ∃ t0Failed : Bool, ∃ t0For : Int, ∃ t1Mode : Int, ∃ t1Failed : Bool, ∃ t1For : Int, ∃ t2Mode : Int, ∃ t2Failed : Bool, ∃ t2For : Int, ∃ t3Mode : Int, ∃ t3Failed : Bool, ∃ t3For : Int, cs_0.toList = [.int .i64 t0Mode, .bool t0Failed, .int .i64 t0For, .int .i64 t1Mode, .bool t1Failed, .int .i64 t1For, .int .i64 t2Mode, .bool t2Failed, .int .i64 t2For, .int .i64 t3Mode, .bool t3Failed, .int .i64 t3For] ∧ (Lit.int .i64 t0Mode).wf = true ∧ (Lit.int .i64 t0For).wf = true ∧ (Lit.int .i64 t1Mode).wf = true ∧ (Lit.int .i64 t1For).wf = true ∧ (Lit.int .i64 t2Mode).wf = true ∧ (Lit.int .i64 t2For).wf = true ∧ (Lit.int .i64 t3Mode).wf = true ∧ (Lit.int .i64 t3For).wf = true)
  obtain rfl : cs_0 = #[.int .i64 t0Mode, .bool t0Failed, .int .i64 t0For, .int .i64 t1Mode, .bool t1Failed, .int .i64 t1For, .int .i64 t2Mode, .bool t2Failed, .int .i64 t2For, .int .i64 t3Mode, .bool t3Failed, .int .i64 t3For] := by cases cs_0; simp_all
  clear e_0
  have hz_1 : Light Try.prog 26 d_1 := light_of hsz0 (j := 1) (by first | rfl | (rw [Try.params4]; rfl)) rfl
  have k_1 := h_1
  have lt_1 : ∀ x ∈ p_1, x.block < W.heap.size := by obtain ⟨m, hm⟩ := k_1; exact DataW.trod_lt m _ _ _ hm
  obtain ⟨cs_1, rfl, _⟩ := okWide_array Try.underlying26 (hval 1 26 v_1 rfl rfl)
  obtain ⟨has0, has1, has2, has3, e_1⟩ := (by obtain ⟨fuel, hf⟩ := h_1; exact open26 hf hz_1 : ∃ has0 : Bool, ∃ has1 : Bool, ∃ has2 : Bool, ∃ has3 : Bool, cs_1.toList = [.bool has0, .bool has1, .bool has2, .bool has3])
  obtain rfl : cs_1 = #[.bool has0, .bool has1, .bool has2, .bool has3] := by cases cs_1; simp_all
  clear e_1
  have hz_2 : Light Try.prog 26 d_2 := light_of hsz0 (j := 2) (by first | rfl | (rw [Try.params4]; rfl)) rfl
  have k_2 := h_2
  have lt_2 : ∀ x ∈ p_2, x.block < W.heap.size := by obtain ⟨m, hm⟩ := k_2; exact DataW.trod_lt m _ _ _ hm
  obtain ⟨cs_2, rfl, _⟩ := okWide_array Try.underlying26 (hval 2 26 v_2 rfl rfl)
  obtain ⟨faults0, faults1, faults2, faults3, e_2⟩ := (by obtain ⟨fuel, hf⟩ := h_2; exact open26 hf hz_2 : ∃ faults0 : Bool, ∃ faults1 : Bool, ∃ faults2 : Bool, ∃ faults3 : Bool, cs_2.toList = [.bool faults0, .bool faults1, .bool faults2, .bool faults3])
  obtain rfl : cs_2 = #[.bool faults0, .bool faults1, .bool faults2, .bool faults3] := by cases cs_2; simp_all
  clear e_2
  clear hA0 hval0
  refine (walk t0Mode t0Failed t0For t1Mode t1Failed t1For t2Mode t2Failed t2For t3Mode t3Failed t3For has0 has1 has2 has3 faults0 faults1 faults2 faults3 W h_t0Mode h_t0For h_t1Mode h_t1For h_t2Mode h_t2For h_t3Mode h_t3For).mono fun e W' ⟨he, bel⟩ => ?_
  subst he
  exact ⟨_, rfl, _, _, _, [], _, [], hW', trodAll_mk1 (shut_bool Try.underlying4 _), (trodAll_cons_mk (Below.trod laidOut (by kernel_rfl) (of_decide_eq_true (by kernel_rfl)) k_0 bel lt_0) (trodAll_cons_mk (Below.trod laidOut (by kernel_rfl) (of_decide_eq_true (by kernel_rfl)) k_1 bel lt_1) (trodAll_cons_mk (Below.trod laidOut (by kernel_rfl) (of_decide_eq_true (by kernel_rfl)) k_2 bel lt_2) trodAll_mk0))), rfl, bel.frame _, fun h => by cases h⟩

theorem over : Rows.redSafeRow.holds Try.pinned (OpenSpec.ofChange Rows.redSafeSpec) :=
  OpenClaim.holds_of_wide 4 Try.f4 rfl rfl rfl rfl rfl rfl rfl ⟨rfl, rfl, rfl, rfl, rfl⟩ rfl rfl rfl rfl rfl (by kernel_rfl) Try.func4 (by kernel_rfl)
    (of_decide_eq_true (by kernel_rfl)) (by unfold Func.isWrapper; first | (rw [if_pos (by decide +kernel)]; kernel_rfl) | (rw [if_neg (by decide +kernel)]; exact ⟨rfl, rfl⟩))
    (fun os started H enc _ => lifted os started H enc)


end Go.Proofs.Ytnomceopmjlbhaa.redSafe
namespace Go.Proofs.Ytnomceopmjlbhaa
/-- THE STATEMENT -/
theorem redSafe_holds : Rows.RedSafeSaid := redSafe.over
#print axioms redSafe_holds
end Go.Proofs.Ytnomceopmjlbhaa
