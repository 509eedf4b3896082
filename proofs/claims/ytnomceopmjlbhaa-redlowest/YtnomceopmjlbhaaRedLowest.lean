/-
  Whatever is handed in, the law RedLowest returns true: of the lanes that may be used the first two are active. No condition.
-/
import Derived.Test.YtnomceopmjlbhaaRedMath
import Derived.Test.YtnomceopmjlbhaaRedEq
import Derived.Test.YtnomceopmjlbhaaOpenZ
import Derived.ProofKit
namespace Go.Proofs.Ytnomceopmjlbhaa.redLowest
open Go.ChangeShapes Go.WideShapes Go.ChangeAt Go.RowKit
set_option linter.unusedVariables false

theorem own : ownKnob Try.prog.godebug = none := by kernel_rfl
theorem laidOut : laidOutB Try.prog = true := by kernel_rfl

theorem list3 {l : List Value} (h : l.length = 3) : ∃ c0 c1 c2, l = [c0, c1, c2] := by
  match l, h with
  | [c0, c1, c2], _ => exact ⟨c0, c1, c2, rfl⟩

theorem list4 {l : List Value} (h : l.length = 4) : ∃ c0 c1 c2 c3, l = [c0, c1, c2, c3] := by
  match l, h with
  | [c0, c1, c2, c3], _ => exact ⟨c0, c1, c2, c3, rfl⟩

theorem list12 {l : List Value} (h : l.length = 12) : ∃ c0 c1 c2 c3 c4 c5 c6 c7 c8 c9 c10 c11, l = [c0, c1, c2, c3, c4, c5, c6, c7, c8, c9, c10, c11] := by
  match l, h with
  | [c0, c1, c2, c3, c4, c5, c6, c7, c8, c9, c10, c11], _ => exact ⟨c0, c1, c2, c3, c4, c5, c6, c7, c8, c9, c10, c11, rfl⟩

theorem open23 {H : Type} {enc : TypeId × Value → H} {w : World} {base : Nat} {spare : Nat → Bool} {held : Bool} {fuel : Nat} {cs : List Value} {x : DataW H × List MemPlace} (h : DataW.trod enc Try.prog w base spare held fuel 23 cs = some x) (hz : Light Try.prog 23 x.1) :
    ∃ vMode : Int, ∃ vFailed : Bool, ∃ vFor : Int, cs = [.int .i64 vMode, .bool vFailed, .int .i64 vFor] ∧ (Lit.int .i64 vMode).wf = true ∧ (Lit.int .i64 vFor).wf = true := by
  obtain ⟨hl, hf⟩ := trod_field_z Try.underlying23 h hz
  rw [show Try.prog.cellsOf 23 = 3 from by kernel_rfl] at hl
  obtain ⟨c0, c1, c2, rfl⟩ := list3 hl
  obtain ⟨n0, y0, h0, z0⟩ := hf 0 _ rfl
  replace h0 : DataW.trod enc Try.prog w base spare held n0 3 (([c0, c1, c2] : List Value).drop 0 |>.take (Try.prog.cellsOf 3)) = some y0 := h0
  rw [show Try.prog.cellsOf 3 = 1 from by kernel_rfl] at h0
  replace h0 : DataW.trod enc Try.prog w base spare held n0 3 [c0] = some y0 := h0
  obtain ⟨n1, y1, h1, z1⟩ := hf 1 _ rfl
  replace h1 : DataW.trod enc Try.prog w base spare held n1 4 (([c0, c1, c2] : List Value).drop 1 |>.take (Try.prog.cellsOf 4)) = some y1 := h1
  rw [show Try.prog.cellsOf 4 = 1 from by kernel_rfl] at h1
  replace h1 : DataW.trod enc Try.prog w base spare held n1 4 [c1] = some y1 := h1
  obtain ⟨n2, y2, h2, z2⟩ := hf 2 _ rfl
  replace h2 : DataW.trod enc Try.prog w base spare held n2 3 (([c0, c1, c2] : List Value).drop 2 |>.take (Try.prog.cellsOf 3)) = some y2 := h2
  rw [show Try.prog.cellsOf 3 = 1 from by kernel_rfl] at h2
  replace h2 : DataW.trod enc Try.prog w base spare held n2 3 [c2] = some y2 := h2
  obtain ⟨x0, e0, _, f0_0⟩ := DataW.trod_int Try.underlying3 h0
  simp only [List.cons.injEq, and_true] at e0
  obtain rfl := e0
  obtain ⟨x1, e1, _⟩ := DataW.trod_bool Try.underlying4 h1
  simp only [List.cons.injEq, and_true] at e1
  obtain rfl := e1
  obtain ⟨x2, e2, _, f2_0⟩ := DataW.trod_int Try.underlying3 h2
  simp only [List.cons.injEq, and_true] at e2
  obtain rfl := e2
  exact ⟨x0, x1, x2, rfl, f0_0, f2_0⟩

theorem open25 {H : Type} {enc : TypeId × Value → H} {w : World} {base : Nat} {spare : Nat → Bool} {held : Bool} {fuel : Nat} {cs : List Value} {x : DataW H × List MemPlace} (h : DataW.trod enc Try.prog w base spare held fuel 25 cs = some x) (hz : Light Try.prog 25 x.1) :
    ∃ v0Mode : Int, ∃ v0Failed : Bool, ∃ v0For : Int, ∃ v1Mode : Int, ∃ v1Failed : Bool, ∃ v1For : Int, ∃ v2Mode : Int, ∃ v2Failed : Bool, ∃ v2For : Int, ∃ v3Mode : Int, ∃ v3Failed : Bool, ∃ v3For : Int, cs = [.int .i64 v0Mode, .bool v0Failed, .int .i64 v0For, .int .i64 v1Mode, .bool v1Failed, .int .i64 v1For, .int .i64 v2Mode, .bool v2Failed, .int .i64 v2For, .int .i64 v3Mode, .bool v3Failed, .int .i64 v3For] ∧ (Lit.int .i64 v0Mode).wf = true ∧ (Lit.int .i64 v0For).wf = true ∧ (Lit.int .i64 v1Mode).wf = true ∧ (Lit.int .i64 v1For).wf = true ∧ (Lit.int .i64 v2Mode).wf = true ∧ (Lit.int .i64 v2For).wf = true ∧ (Lit.int .i64 v3Mode).wf = true ∧ (Lit.int .i64 v3For).wf = true := by
  obtain ⟨hl, hf⟩ := trod_elem_z Try.underlying25 h hz
  rw [show Try.prog.cellsOf 25 = 12 from by kernel_rfl] at hl
  obtain ⟨c0, c1, c2, c3, c4, c5, c6, c7, c8, c9, c10, c11, rfl⟩ := list12 hl
  obtain ⟨n0, y0, h0, z0⟩ := hf 0 (by decide)
  replace h0 : DataW.trod enc Try.prog w base spare held n0 23 (([c0, c1, c2, c3, c4, c5, c6, c7, c8, c9, c10, c11] : List Value).drop (0 * Try.prog.cellsOf 23) |>.take (Try.prog.cellsOf 23)) = some y0 := h0
  rw [show Try.prog.cellsOf 23 = 3 from by kernel_rfl] at h0
  replace h0 : DataW.trod enc Try.prog w base spare held n0 23 [c0, c1, c2] = some y0 := h0
  obtain ⟨n1, y1, h1, z1⟩ := hf 1 (by decide)
  replace h1 : DataW.trod enc Try.prog w base spare held n1 23 (([c0, c1, c2, c3, c4, c5, c6, c7, c8, c9, c10, c11] : List Value).drop (1 * Try.prog.cellsOf 23) |>.take (Try.prog.cellsOf 23)) = some y1 := h1
  rw [show Try.prog.cellsOf 23 = 3 from by kernel_rfl] at h1
  replace h1 : DataW.trod enc Try.prog w base spare held n1 23 [c3, c4, c5] = some y1 := h1
  obtain ⟨n2, y2, h2, z2⟩ := hf 2 (by decide)
  replace h2 : DataW.trod enc Try.prog w base spare held n2 23 (([c0, c1, c2, c3, c4, c5, c6, c7, c8, c9, c10, c11] : List Value).drop (2 * Try.prog.cellsOf 23) |>.take (Try.prog.cellsOf 23)) = some y2 := h2
  rw [show Try.prog.cellsOf 23 = 3 from by kernel_rfl] at h2
  replace h2 : DataW.trod enc Try.prog w base spare held n2 23 [c6, c7, c8] = some y2 := h2
  obtain ⟨n3, y3, h3, z3⟩ := hf 3 (by decide)
  replace h3 : DataW.trod enc Try.prog w base spare held n3 23 (([c0, c1, c2, c3, c4, c5, c6, c7, c8, c9, c10, c11] : List Value).drop (3 * Try.prog.cellsOf 23) |>.take (Try.prog.cellsOf 23)) = some y3 := h3
  rw [show Try.prog.cellsOf 23 = 3 from by kernel_rfl] at h3
  replace h3 : DataW.trod enc Try.prog w base spare held n3 23 [c9, c10, c11] = some y3 := h3
  obtain ⟨x0Mode, x0Failed, x0For, e0, f0_0, f0_1⟩ := open23 h0 z0
  simp only [List.cons.injEq, and_true] at e0
  obtain ⟨rfl, rfl, rfl⟩ := e0
  obtain ⟨x1Mode, x1Failed, x1For, e1, f1_0, f1_1⟩ := open23 h1 z1
  simp only [List.cons.injEq, and_true] at e1
  obtain ⟨rfl, rfl, rfl⟩ := e1
  obtain ⟨x2Mode, x2Failed, x2For, e2, f2_0, f2_1⟩ := open23 h2 z2
  simp only [List.cons.injEq, and_true] at e2
  obtain ⟨rfl, rfl, rfl⟩ := e2
  obtain ⟨x3Mode, x3Failed, x3For, e3, f3_0, f3_1⟩ := open23 h3 z3
  simp only [List.cons.injEq, and_true] at e3
  obtain ⟨rfl, rfl, rfl⟩ := e3
  exact ⟨x0Mode, x0Failed, x0For, x1Mode, x1Failed, x1For, x2Mode, x2Failed, x2For, x3Mode, x3Failed, x3For, rfl, f0_0, f0_1, f1_0, f1_1, f2_0, f2_1, f3_0, f3_1⟩

theorem open26 {H : Type} {enc : TypeId × Value → H} {w : World} {base : Nat} {spare : Nat → Bool} {held : Bool} {fuel : Nat} {cs : List Value} {x : DataW H × List MemPlace} (h : DataW.trod enc Try.prog w base spare held fuel 26 cs = some x) (hz : Light Try.prog 26 x.1) :
    ∃ v0 : Bool, ∃ v1 : Bool, ∃ v2 : Bool, ∃ v3 : Bool, cs = [.bool v0, .bool v1, .bool v2, .bool v3] := by
  obtain ⟨hl, hf⟩ := trod_elem_z Try.underlying26 h hz
  rw [show Try.prog.cellsOf 26 = 4 from by kernel_rfl] at hl
  obtain ⟨c0, c1, c2, c3, rfl⟩ := list4 hl
  obtain ⟨n0, y0, h0, z0⟩ := hf 0 (by decide)
  replace h0 : DataW.trod enc Try.prog w base spare held n0 4 (([c0, c1, c2, c3] : List Value).drop (0 * Try.prog.cellsOf 4) |>.take (Try.prog.cellsOf 4)) = some y0 := h0
  rw [show Try.prog.cellsOf 4 = 1 from by kernel_rfl] at h0
  replace h0 : DataW.trod enc Try.prog w base spare held n0 4 [c0] = some y0 := h0
  obtain ⟨n1, y1, h1, z1⟩ := hf 1 (by decide)
  replace h1 : DataW.trod enc Try.prog w base spare held n1 4 (([c0, c1, c2, c3] : List Value).drop (1 * Try.prog.cellsOf 4) |>.take (Try.prog.cellsOf 4)) = some y1 := h1
  rw [show Try.prog.cellsOf 4 = 1 from by kernel_rfl] at h1
  replace h1 : DataW.trod enc Try.prog w base spare held n1 4 [c1] = some y1 := h1
  obtain ⟨n2, y2, h2, z2⟩ := hf 2 (by decide)
  replace h2 : DataW.trod enc Try.prog w base spare held n2 4 (([c0, c1, c2, c3] : List Value).drop (2 * Try.prog.cellsOf 4) |>.take (Try.prog.cellsOf 4)) = some y2 := h2
  rw [show Try.prog.cellsOf 4 = 1 from by kernel_rfl] at h2
  replace h2 : DataW.trod enc Try.prog w base spare held n2 4 [c2] = some y2 := h2
  obtain ⟨n3, y3, h3, z3⟩ := hf 3 (by decide)
  replace h3 : DataW.trod enc Try.prog w base spare held n3 4 (([c0, c1, c2, c3] : List Value).drop (3 * Try.prog.cellsOf 4) |>.take (Try.prog.cellsOf 4)) = some y3 := h3
  rw [show Try.prog.cellsOf 4 = 1 from by kernel_rfl] at h3
  replace h3 : DataW.trod enc Try.prog w base spare held n3 4 [c3] = some y3 := h3
  obtain ⟨x0, e0, _⟩ := DataW.trod_bool Try.underlying4 h0
  simp only [List.cons.injEq, and_true] at e0
  obtain rfl := e0
  obtain ⟨x1, e1, _⟩ := DataW.trod_bool Try.underlying4 h1
  simp only [List.cons.injEq, and_true] at e1
  obtain rfl := e1
  obtain ⟨x2, e2, _⟩ := DataW.trod_bool Try.underlying4 h2
  simp only [List.cons.injEq, and_true] at e2
  obtain rfl := e2
  obtain ⟨x3, e3, _⟩ := DataW.trod_bool Try.underlying4 h3
  simp only [List.cons.injEq, and_true] at e3
  obtain rfl := e3
  exact ⟨x0, x1, x2, x3, rfl⟩


def z0 : Nat → St := fun _ => ⟨0, false, 0⟩
def o13 : Nat → Bool := fun j => decide (j = 1) || decide (j = 3)
def u13 (q : Nat) : Nat := if q = 0 then 1 else 3
theorem first_any (w : World) : Calls Try.prog 13 #[.agg #[.int .i64 0, .bool false, .int .i64 0, .int .i64 0, .bool false, .int .i64 0, .int .i64 0, .bool false, .int .i64 0, .int .i64 0, .bool false, .int .i64 0], .agg #[.bool false, .bool true, .bool false, .bool true]] w fun e w' => ∃ a c, e = .returned (.slice a 2 c) ∧ RI w' a 2 u13 ∧ Below w.heap.size w w' :=
  (rusable_any z0 o13 w).mono fun e w' hr => by
    obtain ⟨a, c, h1, h2, h3⟩ := hr
    rw [show usN (usB z0 o13) 4 = 2 from by kernel_rfl] at h1 h2
    refine ⟨a, c, h1, fun hn => ?_, h3⟩
    obtain ⟨b, off, rfl, k1, k2⟩ := h2.ri hn
    refine ⟨b, off, rfl, k1, fun q hq => ?_⟩
    rw [k2 q hq]
    have : q = 0 ∨ q = 1 := by omega
    rcases this with rfl | rfl
    · rw [show usA (usB z0 o13) 0 = u13 0 from by kernel_rfl]
    · rw [show usA (usB z0 o13) 1 = u13 1 from by kernel_rfl]
/-- the two numbers of the law's own list -/
theorem own_two (b : Nat) (W : World) (h0 : W.cell? ⟨b, 0, none⟩ = some (.int .i64 1)) (h1 : W.cell? ⟨b, 1, none⟩ = some (.int .i64 3)) (hb : b < W.heap.size) : RI W (some ⟨b, 0, none⟩) 2 u13 := fun _ =>
  ⟨b, 0, rfl, hb, fun q hq => by
    have : q = 0 ∨ q = 1 := by omega
    rcases this with rfl | rfl
    · exact h0
    · exact h1⟩
/-- a lane behind a plan, and its place among those that may be used -/
def Lw (U : Nat → Nat) (n : Nat) (m : Int) (j : Nat) : Prop := ∃ k : Int, Ix U n j k ∧ (((m == 1) = true ∧ (k = 0 ∨ k = 1)) ∨ ((m == 1) = false ∧ (k = -1 ∨ k = 2 ∨ k = 3)))

set_option maxHeartbeats 16000000 in
set_option maxRecDepth 100000 in
theorem walk_bad (t : Nat → St) (o f : Nat → Bool) (E : Int) (w : World) (hE : E = 1 ∨ E = 4) (CP : Hid (∀ W, Calls Try.prog 8 #[.agg #[.int .i64 (t 0).m, .bool (t 0).f, .int .i64 (t 0).n, .int .i64 (t 1).m, .bool (t 1).f, .int .i64 (t 1).n, .int .i64 (t 2).m, .bool (t 2).f, .int .i64 (t 2).n, .int .i64 (t 3).m, .bool (t 3).f, .int .i64 (t 3).n], .agg #[.bool (o 0), .bool (o 1), .bool (o 2), .bool (o 3)], .agg #[.bool (f 0), .bool (f 1), .bool (f 2), .bool (f 3)]] W fun r w' => r = .returned (.tuple #[.agg #[.int .i64 0, .bool false, .int .i64 0, .int .i64 0, .bool false, .int .i64 0, .int .i64 0, .bool false, .int .i64 0, .int .i64 0, .bool false, .int .i64 0], .agg #[.int .i64 0, .int .i64 0, .bool false], .int .i64 E]) ∧ Below W.heap.size W w')) :
    Calls Try.prog 6 #[.agg #[.int .i64 (t 0).m, .bool (t 0).f, .int .i64 (t 0).n, .int .i64 (t 1).m, .bool (t 1).f, .int .i64 (t 1).n, .int .i64 (t 2).m, .bool (t 2).f, .int .i64 (t 2).n, .int .i64 (t 3).m, .bool (t 3).f, .int .i64 (t 3).n], .agg #[.bool (o 0), .bool (o 1), .bool (o 2), .bool (o 3)], .agg #[.bool (f 0), .bool (f 1), .bool (f 2), .bool (f 3)]] w fun r w' => r = .returned (.bool true) ∧ Below w.heap.size w w' := by
  have B0 : Hid (_) := bxs_three w #[.int .i64 (t 0).m, .bool (t 0).f, .int .i64 (t 0).n, .int .i64 (t 1).m, .bool (t 1).f, .int .i64 (t 1).n, .int .i64 (t 2).m, .bool (t 2).f, .int .i64 (t 2).n, .int .i64 (t 3).m, .bool (t 3).f, .int .i64 (t 3).n] #[.bool (o 0), .bool (o 1), .bool (o 2), .bool (o 3)] #[.bool (f 0), .bool (f 1), .bool (f 2), .bool (f 3)] 25 26 26
  have CF : Hid (_) := fun W => first_any W
  go_enter Try.func6, Try.ntmps6
  go_wp2_with fail
  refine (CF.out _).mono ?_
  rintro r w1 ⟨a1, cp1, rfl, hri, hb⟩
  have B1 : Hid (_) := B0.out.step hb
  have HR1 : Hid (RI w1 a1 2 u13) := hri
  clear hri hb B0 CF
  go_wp2_with fail
  refine (equalI_same _ _ 2 _ _ u13 _ (by omega) (HR1.out.step ((Below.refl _ w1).alloc (Nat.le_refl _) _)) (own_two _ _ (by go_simp) (by go_simp) (by simp))).mono ?_
  rintro r w2 ⟨rfl, hb⟩
  have B2 : Hid (_) := (B1.out.alloc _).step hb
  clear hb B1 HR1
  have cl := (B2.out.box 0 _ _ rfl).lt
  have c0 := (B2.out.box 0 _ _ rfl).cell 0 _ rfl
  have c1 := (B2.out.box 0 _ _ rfl).cell 1 _ rfl
  have c2 := (B2.out.box 0 _ _ rfl).cell 2 _ rfl
  have c3 := (B2.out.box 0 _ _ rfl).cell 3 _ rfl
  have c4 := (B2.out.box 0 _ _ rfl).cell 4 _ rfl
  have c5 := (B2.out.box 0 _ _ rfl).cell 5 _ rfl
  have c6 := (B2.out.box 0 _ _ rfl).cell 6 _ rfl
  have c7 := (B2.out.box 0 _ _ rfl).cell 7 _ rfl
  have c8 := (B2.out.box 0 _ _ rfl).cell 8 _ rfl
  have c9 := (B2.out.box 0 _ _ rfl).cell 9 _ rfl
  have c10 := (B2.out.box 0 _ _ rfl).cell 10 _ rfl
  have c11 := (B2.out.box 0 _ _ rfl).cell 11 _ rfl
  have dl := (B2.out.box 1 _ _ rfl).lt
  have d0 := (B2.out.box 1 _ _ rfl).cell 0 _ rfl
  have d1 := (B2.out.box 1 _ _ rfl).cell 1 _ rfl
  have d2 := (B2.out.box 1 _ _ rfl).cell 2 _ rfl
  have d3 := (B2.out.box 1 _ _ rfl).cell 3 _ rfl
  have el := (B2.out.box 2 _ _ rfl).lt
  have e0 := (B2.out.box 2 _ _ rfl).cell 0 _ rfl
  have e1 := (B2.out.box 2 _ _ rfl).cell 1 _ rfl
  have e2 := (B2.out.box 2 _ _ rfl).cell 2 _ rfl
  have e3 := (B2.out.box 2 _ _ rfl).cell 3 _ rfl
  go_wp2_with fail
  refine (CP.out _).mono ?_
  rintro r w4 ⟨rfl, hb⟩
  have B4 : Hid (_) := B2.out.step hb
  clear hb B2 CP
  clear cl c0 c1 c2 c3 c4 c5 c6 c7 c8 c9 c10 c11
  clear dl d0 d1 d2 d3
  clear el e0 e1 e2 e3
  rcases hE with rfl | rfl
  all_goals
    go_wp2_with fail
    go_ret
    exact ⟨rfl, ((B4.out.alloc _).alloc _).bel⟩

set_option maxHeartbeats 32000000 in
set_option maxRecDepth 100000 in
theorem walk_ok (t x : Nat → St) (o f : Nat → Bool) (n K : Nat) (l : Bool) (U : Nat → Nat) (w : World) (hn : n ≤ 4) (CP : Hid (∀ W, Calls Try.prog 8 #[.agg #[.int .i64 (t 0).m, .bool (t 0).f, .int .i64 (t 0).n, .int .i64 (t 1).m, .bool (t 1).f, .int .i64 (t 1).n, .int .i64 (t 2).m, .bool (t 2).f, .int .i64 (t 2).n, .int .i64 (t 3).m, .bool (t 3).f, .int .i64 (t 3).n], .agg #[.bool (o 0), .bool (o 1), .bool (o 2), .bool (o 3)], .agg #[.bool (f 0), .bool (f 1), .bool (f 2), .bool (f 3)]] W fun r w' => r = .returned (.tuple #[.agg #[.int .i64 (x 0).m, .bool (x 0).f, .int .i64 (x 0).n, .int .i64 (x 1).m, .bool (x 1).f, .int .i64 (x 1).n, .int .i64 (x 2).m, .bool (x 2).f, .int .i64 (x 2).n, .int .i64 (x 3).m, .bool (x 3).f, .int .i64 (x 3).n], .agg #[.int .i64 n, .int .i64 K, .bool l], .int .i64 0]) ∧ Below W.heap.size W w'))
    (CU : Hid (∀ W, Calls Try.prog 13 #[.agg #[.int .i64 (x 0).m, .bool (x 0).f, .int .i64 (x 0).n, .int .i64 (x 1).m, .bool (x 1).f, .int .i64 (x 1).n, .int .i64 (x 2).m, .bool (x 2).f, .int .i64 (x 2).n, .int .i64 (x 3).m, .bool (x 3).f, .int .i64 (x 3).n], .agg #[.bool (o 0), .bool (o 1), .bool (o 2), .bool (o 3)]] W fun e w' => ∃ a c, e = .returned (.slice a n c) ∧ RI w' a n U ∧ Below W.heap.size W w')) (HX : Hid (∀ j, j < 4 → Lw U n (x j).m j)) :
    Calls Try.prog 6 #[.agg #[.int .i64 (t 0).m, .bool (t 0).f, .int .i64 (t 0).n, .int .i64 (t 1).m, .bool (t 1).f, .int .i64 (t 1).n, .int .i64 (t 2).m, .bool (t 2).f, .int .i64 (t 2).n, .int .i64 (t 3).m, .bool (t 3).f, .int .i64 (t 3).n], .agg #[.bool (o 0), .bool (o 1), .bool (o 2), .bool (o 3)], .agg #[.bool (f 0), .bool (f 1), .bool (f 2), .bool (f 3)]] w fun r w' => r = .returned (.bool true) ∧ Below w.heap.size w w' := by
  obtain ⟨i0, i1, i2, i3⟩ := ixT x
  have B0 : Hid (_) := bxs_three w #[.int .i64 (t 0).m, .bool (t 0).f, .int .i64 (t 0).n, .int .i64 (t 1).m, .bool (t 1).f, .int .i64 (t 1).n, .int .i64 (t 2).m, .bool (t 2).f, .int .i64 (t 2).n, .int .i64 (t 3).m, .bool (t 3).f, .int .i64 (t 3).n] #[.bool (o 0), .bool (o 1), .bool (o 2), .bool (o 3)] #[.bool (f 0), .bool (f 1), .bool (f 2), .bool (f 3)] 25 26 26
  have CF : Hid (_) := fun W => first_any W
  go_enter Try.func6, Try.ntmps6
  go_wp2_with fail
  refine (CF.out _).mono ?_
  rintro r w1 ⟨a1, cp1, rfl, hri, hb⟩
  have B1 : Hid (_) := B0.out.step hb
  have HR1 : Hid (RI w1 a1 2 u13) := hri
  clear hri hb B0 CF
  go_wp2_with fail
  refine (equalI_same _ _ 2 _ _ u13 _ (by omega) (HR1.out.step ((Below.refl _ w1).alloc (Nat.le_refl _) _)) (own_two _ _ (by go_simp) (by go_simp) (by simp))).mono ?_
  rintro r w2 ⟨rfl, hb⟩
  have B2 : Hid (_) := (B1.out.alloc _).step hb
  clear hb B1 HR1
  have cl := (B2.out.box 0 _ _ rfl).lt
  have c0 := (B2.out.box 0 _ _ rfl).cell 0 _ rfl
  have c1 := (B2.out.box 0 _ _ rfl).cell 1 _ rfl
  have c2 := (B2.out.box 0 _ _ rfl).cell 2 _ rfl
  have c3 := (B2.out.box 0 _ _ rfl).cell 3 _ rfl
  have c4 := (B2.out.box 0 _ _ rfl).cell 4 _ rfl
  have c5 := (B2.out.box 0 _ _ rfl).cell 5 _ rfl
  have c6 := (B2.out.box 0 _ _ rfl).cell 6 _ rfl
  have c7 := (B2.out.box 0 _ _ rfl).cell 7 _ rfl
  have c8 := (B2.out.box 0 _ _ rfl).cell 8 _ rfl
  have c9 := (B2.out.box 0 _ _ rfl).cell 9 _ rfl
  have c10 := (B2.out.box 0 _ _ rfl).cell 10 _ rfl
  have c11 := (B2.out.box 0 _ _ rfl).cell 11 _ rfl
  have dl := (B2.out.box 1 _ _ rfl).lt
  have d0 := (B2.out.box 1 _ _ rfl).cell 0 _ rfl
  have d1 := (B2.out.box 1 _ _ rfl).cell 1 _ rfl
  have d2 := (B2.out.box 1 _ _ rfl).cell 2 _ rfl
  have d3 := (B2.out.box 1 _ _ rfl).cell 3 _ rfl
  have el := (B2.out.box 2 _ _ rfl).lt
  have e0 := (B2.out.box 2 _ _ rfl).cell 0 _ rfl
  have e1 := (B2.out.box 2 _ _ rfl).cell 1 _ rfl
  have e2 := (B2.out.box 2 _ _ rfl).cell 2 _ rfl
  have e3 := (B2.out.box 2 _ _ rfl).cell 3 _ rfl
  go_wp2_with fail
  refine (CP.out _).mono ?_
  rintro r w4 ⟨rfl, hb⟩
  have B4 : Hid (_) := B2.out.step hb
  clear hb B2 CP
  clear cl c0 c1 c2 c3 c4 c5 c6 c7 c8 c9 c10 c11
  clear dl d0 d1 d2 d3
  clear el e0 e1 e2 e3
  have dl := (B4.out.box 1 _ _ rfl).lt
  have d0 := (B4.out.box 1 _ _ rfl).cell 0 _ rfl
  have d1 := (B4.out.box 1 _ _ rfl).cell 1 _ rfl
  have d2 := (B4.out.box 1 _ _ rfl).cell 2 _ rfl
  have d3 := (B4.out.box 1 _ _ rfl).cell 3 _ rfl
  have c0l := (B4.out.box 0 _ _ rfl).lt
  go_wp2_with fail
  clear c0l
  obtain ⟨N, W5, hW5, hN5, B5', Z5⟩ := B4.out.newTwo #[.int .i64 (x 0).m, .bool (x 0).f, .int .i64 (x 0).n, .int .i64 (x 1).m, .bool (x 1).f, .int .i64 (x 1).n, .int .i64 (x 2).m, .bool (x 2).f, .int .i64 (x 2).n, .int .i64 (x 3).m, .bool (x 3).f, .int .i64 (x 3).n] #[.int .i64 n, .int .i64 K, .bool l] 25 30
  rw [hW5]
  have B5 : Hid (_) := B5'
  clear B5' B4 Z5
  clear dl d0 d1 d2 d3
  rw [hN5]
  clear hW5 hN5
  refine (CU.out _).mono ?_
  rintro r w6 ⟨a, c, rfl, hri, hb⟩
  have B6 : Hid (_) := B5.out.step hb
  have HR : Hid (RI w6 a n U) := hri
  clear hri hb B5 CU
  have xl := (B6.out.box 3 _ _ rfl).lt
  have x0 := (B6.out.box 3 _ _ rfl).cell 0 _ rfl
  have x1 := (B6.out.box 3 _ _ rfl).cell 1 _ rfl
  have x2 := (B6.out.box 3 _ _ rfl).cell 2 _ rfl
  have x3 := (B6.out.box 3 _ _ rfl).cell 3 _ rfl
  have x4 := (B6.out.box 3 _ _ rfl).cell 4 _ rfl
  have x5 := (B6.out.box 3 _ _ rfl).cell 5 _ rfl
  have x6 := (B6.out.box 3 _ _ rfl).cell 6 _ rfl
  have x7 := (B6.out.box 3 _ _ rfl).cell 7 _ rfl
  have x8 := (B6.out.box 3 _ _ rfl).cell 8 _ rfl
  have x9 := (B6.out.box 3 _ _ rfl).cell 9 _ rfl
  have x10 := (B6.out.box 3 _ _ rfl).cell 10 _ rfl
  have x11 := (B6.out.box 3 _ _ rfl).cell 11 _ rfl
  go_wp2_with fail
  go_loopg [36] (5) (fun g s wr => ∃ j : Nat, s = .int .i64 j ∧ 4 - j < g ∧ j ≤ 4 ∧ Hid (Below w6.heap.size w6 wr))
  case atStart => exact ⟨0, rfl, by omega, by omega, Below.refl _ _⟩
  case round =>
    obtain ⟨j, rfl, hg, hj, HB⟩ := hrel
    clear xl x0 x1 x2 x3 x4 x5 x6 x7 x8 x9 x10 x11
    by_cases hlt : j < 4
    · obtain rfl | rfl | rfl | rfl := cases4 hlt
      · obtain ⟨k, hk, hd⟩ := HX.out 0 (by omega)
        have HB2 : Hid (Below w6.heap.size w6 (wr.alloc (.cells #[.int .i64 (x 0).m, .bool (x 0).f, .int .i64 (x 0).n] 23))) := HB.out.alloc HB.out.size _
        have CI : Hid (_) := fun c => indexI_any a n c U 0 k _ hn (HR.out.step HB2.out) hk
        clear hk
        go_wp2_with fail
        refine (CI.out _).mono ?_
        rintro r w7 ⟨rfl, hb⟩
        have HB3 : Hid (Below w6.heap.size w6 w7) := below_seq HB2.out hb
        have Z := (cells_new wr #[.int .i64 (x 0).m, .bool (x 0).f, .int .i64 (x 0).n] 23).step hb
        have z0 := Z.cell 0 _ rfl
        clear Z hb HB2 CI HB
        rcases hd with ⟨q1, rfl | rfl⟩ | ⟨q1, rfl | rfl | rfl⟩
        all_goals
          go_wp2_with fail
          go_roundg (4 - (0 + 1) + 1)
          case measure => omega
          case rel => exact ⟨1, rfl, by omega, by omega, HB3.out⟩
      · obtain ⟨k, hk, hd⟩ := HX.out 1 (by omega)
        have HB2 : Hid (Below w6.heap.size w6 (wr.alloc (.cells #[.int .i64 (x 1).m, .bool (x 1).f, .int .i64 (x 1).n] 23))) := HB.out.alloc HB.out.size _
        have CI : Hid (_) := fun c => indexI_any a n c U 1 k _ hn (HR.out.step HB2.out) hk
        clear hk
        go_wp2_with fail
        refine (CI.out _).mono ?_
        rintro r w7 ⟨rfl, hb⟩
        have HB3 : Hid (Below w6.heap.size w6 w7) := below_seq HB2.out hb
        have Z := (cells_new wr #[.int .i64 (x 1).m, .bool (x 1).f, .int .i64 (x 1).n] 23).step hb
        have z0 := Z.cell 0 _ rfl
        clear Z hb HB2 CI HB
        rcases hd with ⟨q1, rfl | rfl⟩ | ⟨q1, rfl | rfl | rfl⟩
        all_goals
          go_wp2_with fail
          go_roundg (4 - (1 + 1) + 1)
          case measure => omega
          case rel => exact ⟨2, rfl, by omega, by omega, HB3.out⟩
      · obtain ⟨k, hk, hd⟩ := HX.out 2 (by omega)
        have HB2 : Hid (Below w6.heap.size w6 (wr.alloc (.cells #[.int .i64 (x 2).m, .bool (x 2).f, .int .i64 (x 2).n] 23))) := HB.out.alloc HB.out.size _
        have CI : Hid (_) := fun c => indexI_any a n c U 2 k _ hn (HR.out.step HB2.out) hk
        clear hk
        go_wp2_with fail
        refine (CI.out _).mono ?_
        rintro r w7 ⟨rfl, hb⟩
        have HB3 : Hid (Below w6.heap.size w6 w7) := below_seq HB2.out hb
        have Z := (cells_new wr #[.int .i64 (x 2).m, .bool (x 2).f, .int .i64 (x 2).n] 23).step hb
        have z0 := Z.cell 0 _ rfl
        clear Z hb HB2 CI HB
        rcases hd with ⟨q1, rfl | rfl⟩ | ⟨q1, rfl | rfl | rfl⟩
        all_goals
          go_wp2_with fail
          go_roundg (4 - (2 + 1) + 1)
          case measure => omega
          case rel => exact ⟨3, rfl, by omega, by omega, HB3.out⟩
      · obtain ⟨k, hk, hd⟩ := HX.out 3 (by omega)
        have HB2 : Hid (Below w6.heap.size w6 (wr.alloc (.cells #[.int .i64 (x 3).m, .bool (x 3).f, .int .i64 (x 3).n] 23))) := HB.out.alloc HB.out.size _
        have CI : Hid (_) := fun c => indexI_any a n c U 3 k _ hn (HR.out.step HB2.out) hk
        clear hk
        go_wp2_with fail
        refine (CI.out _).mono ?_
        rintro r w7 ⟨rfl, hb⟩
        have HB3 : Hid (Below w6.heap.size w6 w7) := below_seq HB2.out hb
        have Z := (cells_new wr #[.int .i64 (x 3).m, .bool (x 3).f, .int .i64 (x 3).n] 23).step hb
        have z0 := Z.cell 0 _ rfl
        clear Z hb HB2 CI HB
        rcases hd with ⟨q1, rfl | rfl⟩ | ⟨q1, rfl | rfl | rfl⟩
        all_goals
          go_wp2_with fail
          go_roundg (4 - (3 + 1) + 1)
          case measure => omega
          case rel => exact ⟨4, rfl, by omega, by omega, HB3.out⟩
    · obtain rfl : j = 4 := by omega
      go_wp2_with fail
      go_ret
      exact ⟨rfl, below_seq B6.out.bel HB.out⟩

theorem walkT (t : Nat → St) (o f : Nat → Bool) (w : World) : Calls Try.prog 6 #[.agg #[.int .i64 (t 0).m, .bool (t 0).f, .int .i64 (t 0).n, .int .i64 (t 1).m, .bool (t 1).f, .int .i64 (t 1).n, .int .i64 (t 2).m, .bool (t 2).f, .int .i64 (t 2).n, .int .i64 (t 3).m, .bool (t 3).f, .int .i64 (t 3).n], .agg #[.bool (o 0), .bool (o 1), .bool (o 2), .bool (o 3)], .agg #[.bool (f 0), .bool (f 1), .bool (f 2), .bool (f 3)]] w fun r w' => r = .returned (.bool true) ∧ Below w.heap.size w w' := by
  rcases teE_cases t with h | h | h
  · exact walk_bad t o f 1 w (Or.inl rfl) fun W => rplan_bad t _ _ _ _ _ _ _ _ 1 W (rcheck_is t 1 h) (Or.inl rfl)
  · exact walk_bad t o f 4 w (Or.inr rfl) fun W => rplan_bad t _ _ _ _ _ _ _ _ 4 W (rcheck_is t 4 h) (Or.inr rfl)
  · have ht := okt_of h
    have hn4 : plN t o f ≤ 4 := usL_le _ 4
    refine walk_ok t (plS t o f) o f (plN t o f) _ (((plN t o f : Nat) : Int) == 0) (usA (usB (skS t o f) o)) w hn4 (fun W => rplan_any t o f W h) (fun W => ?_) (fun j hj => ?_)
    · refine (rusable_any (plS t o f) o W).mono fun e w' hr => ?_
      obtain ⟨a, c, h1, h2, h3⟩ := hr
      rw [usB_plS] at h1 h2
      exact ⟨a, c, h1, h2.ri, h3⟩
    · have hm := plS_m ht o f hj
      unfold plM at hm
      rcases boolTwo (usB (skS t o f) o j) with hu | hu
      · -- it may not be used
        refine ⟨-1, Or.inr ⟨rfl, fun p hp e => ?_⟩, Or.inr ⟨?_, Or.inl rfl⟩⟩
        · have := (usA_at (usB (skS t o f) o) hp).2.1
          rw [e, hu] at this
          exact absurd this (by decide)
        · rw [usB_sk] at hu
          have : ¬ (plS t o f j).m = 1 := by
            rw [hm]
            split
            · decide
            · split
              · decide
              · rename_i q
                have q' : ((t j).f || f j) = false := by simpa using q
                rw [q'] at hu
                rw [if_neg (fun z => by rw [z.1] at hu; exact absurd hu (by decide))]
                decide
          simpa using this
      · have hlt := us_lt hu hj
        have hc0 : ¬ plN t o f = 0 := by
          show ¬ usN (usB (skS t o f) o) 4 = 0
          omega
        have hIx : Ix (usA (usB (skS t o f) o)) (plN t o f) j (usN (usB (skS t o f) o) j) := by
          obtain ⟨k1, k2, k3⟩ := usA_at (usB (skS t o f) o) hlt
          refine Or.inl ⟨_, rfl, hlt, us_one k2 hu k3, fun p hp e => ?_⟩
          have := (usA_at (usB (skS t o f) o) (q := p) (by omega)).2.2
          rw [e] at this
          omega
        refine ⟨_, hIx, ?_⟩
        have hu' := hu
        rw [usB_sk] at hu'
        simp only [Bool.and_eq_true, Bool.not_eq_true'] at hu'
        rw [if_neg hc0, if_neg (by rw [hu'.1]; decide)] at hm
        by_cases hc : usN (usB (skS t o f) o) j < 2
        · rw [if_pos ⟨hu'.2, hc⟩] at hm
          exact Or.inl ⟨by rw [hm]; rfl, by omega⟩
        · rw [if_neg (fun z => hc z.2)] at hm
          have : usN (usB (skS t o f) o) 4 ≤ 4 := usL_le _ 4
          exact Or.inr ⟨by rw [hm]; rfl, by omega⟩

theorem walk (t0Mode : Int) (t0Failed : Bool) (t0For : Int) (t1Mode : Int) (t1Failed : Bool) (t1For : Int) (t2Mode : Int) (t2Failed : Bool) (t2For : Int) (t3Mode : Int) (t3Failed : Bool) (t3For : Int) (has0 : Bool) (has1 : Bool) (has2 : Bool) (has3 : Bool) (faults0 : Bool) (faults1 : Bool) (faults2 : Bool) (faults3 : Bool) (w : World) (h_t0Mode : (Lit.int .i64 t0Mode).wf = true) (h_t0For : (Lit.int .i64 t0For).wf = true) (h_t1Mode : (Lit.int .i64 t1Mode).wf = true) (h_t1For : (Lit.int .i64 t1For).wf = true) (h_t2Mode : (Lit.int .i64 t2Mode).wf = true) (h_t2For : (Lit.int .i64 t2For).wf = true) (h_t3Mode : (Lit.int .i64 t3Mode).wf = true) (h_t3For : (Lit.int .i64 t3For).wf = true) :
    Calls Try.prog 6 #[.agg #[.int .i64 t0Mode, .bool t0Failed, .int .i64 t0For, .int .i64 t1Mode, .bool t1Failed, .int .i64 t1For, .int .i64 t2Mode, .bool t2Failed, .int .i64 t2For, .int .i64 t3Mode, .bool t3Failed, .int .i64 t3For], .agg #[.bool has0, .bool has1, .bool has2, .bool has3], .agg #[.bool faults0, .bool faults1, .bool faults2, .bool faults3]] w fun e w' => e = .returned (.bool true) ∧ Below w.heap.size w w' := by
  exact walkT (tq ⟨t0Mode, t0Failed, t0For⟩ ⟨t1Mode, t1Failed, t1For⟩ ⟨t2Mode, t2Failed, t2For⟩ ⟨t3Mode, t3Failed, t3For⟩) (bq has0 has1 has2 has3) (bq faults0 faults1 faults2 faults3) w

/-! ### THE ROW's STEP -/
set_option maxRecDepth 100000 in
theorem lifted (os : Os) (started : os.Started) (H : Type) (enc : TypeId × Value → H) :
    ReturnsInHanded {} Try.checked os 6 .any (Rows.redLowestSpec.pre6 enc Try.prog Try.f6 Rows.redLowestRow.domain false) (Rows.redLowestSpec.post enc Try.prog Try.f6 false true false false) := by
  refine returnsInHanded_of_change_sized (C := Try.checked) own started (by kernel_rfl) Try.func6
    (ChangeSpec.witness6 (enc := enc) (C := Try.checked) false ⟨#[], #[.agg #[.int .i64 0, .bool false, .int .i64 0, .int .i64 0, .bool false, .int .i64 0, .int .i64 0, .bool false, .int .i64 0, .int .i64 0, .bool false, .int .i64 0], .agg #[.bool false, .bool false, .bool false, .bool false], .agg #[.bool false, .bool false, .bool false, .bool false]], []⟩ 8 (by kernel_rfl) (by kernel_rfl) (by kernel_rfl) (by kernel_rfl)) ?_
  intro W base args ds gs before hval0 hW hcnd hsz0 _
  have hval : ∀ (j : Nat) t v, Try.f6.params[j]? = some t → args[j]? = some v → Value.okWide Try.prog W .any base t v := hval0
  have hW' := hW
  obtain ⟨p, q, hA0, hV, rfl, hfz, hnd⟩ := hW
  have hA : DataW.TrodAll enc Try.prog W 0 (fun _ => true) true Try.f6.params.toList args.toList ds p := hA0
  rw [Try.params6] at hA hval
  obtain ⟨v_0, vs_0, d_0, ds_0, p_0, q_0, hargs, rfl, rfl, h_0, r_0⟩ := trodAll_cons hA
  obtain ⟨v_1, vs_1, d_1, ds_1, p_1, q_1, rfl, rfl, rfl, h_1, r_1⟩ := trodAll_cons r_0
  obtain ⟨v_2, vs_2, d_2, ds_2, p_2, q_2, rfl, rfl, rfl, h_2, r_2⟩ := trodAll_cons r_1
  obtain ⟨rfl, rfl, rfl⟩ := trodAll_nil r_2
  obtain rfl : args = #[v_0, v_1, v_2] := by cases args; simp_all
  obtain ⟨rfl, rfl⟩ := trodVars_none hV
  have hz_0 : Light Try.prog 25 d_0 := light_of hsz0 (j := 0) (by first | rfl | (rw [Try.params6]; rfl)) rfl
  have k_0 := h_0
  have lt_0 : ∀ x ∈ p_0, x.block < W.heap.size := by obtain ⟨m, hm⟩ := k_0; exact DataW.trod_lt m _ _ _ hm
  obtain ⟨cs_0, rfl, _⟩ := okWide_array Try.underlying25 (hval 0 25 v_0 rfl rfl)
  obtain ⟨t0Mode, t0Failed, t0For, t1Mode, t1Failed, t1For, t2Mode, t2Failed, t2For, t3Mode, t3Failed, t3For, e_0, h_t0Mode, h_t0For, h_t1Mode, h_t1For, h_t2Mode, h_t2For, h_t3Mode, h_t3For⟩ := (by obtain ⟨fuel, hf⟩ := h_0; exact open25 hf hz_0 : ∃ t0Mode : Int, ∃ t0Failed : Bool, ∃ t0For : Int, ∃ t1Mode : Int, ∃ t1Failed : Bool, ∃ t1For : Int, ∃ t2Mode : Int, ∃ t2Failed : Bool, ∃ t2For : Int, ∃ t3Mode : Int, ∃ t3Failed : Bool, ∃ t3For : Int, cs_0.toList = [.int .i64 t0Mode, .bool t0Failed, .int .i64 t0For, .int .i64 t1Mode, .bool t1Failed, .int .i64 t1For, .int .i64 t2Mode, .bool t2Failed, .int .i64 t2For, .int .i64 t3Mode, .bool t3Failed, .int .i64 t3For] ∧ (Lit.int .i64 t0Mode).wf = true ∧ (Lit.int .i64 t0For).wf = true ∧ (Lit.int .i64 t1Mode).wf = true ∧ (Lit.int .i64 t1For).wf = true ∧ (Lit.int .i64 t2Mode).wf = true ∧ (Lit.int .i64 t2For).wf = true ∧ (Lit.int .i64 t3Mode).wf = true ∧ (Lit.int .i64 t3For).wf = true)
  obtain rfl : cs_0 = #[.int .i64 t0Mode, .bool t0Failed, .int .i64 t0For, .int .i64 t1Mode, .bool t1Failed, .int .i64 t1For, .int .i64 t2Mode, .bool t2Failed, .int .i64 t2For, .int .i64 t3Mode, .bool t3Failed, .int .i64 t3For] := by cases cs_0; simp_all
  clear e_0
  have hz_1 : Light Try.prog 26 d_1 := light_of hsz0 (j := 1) (by first | rfl | (rw [Try.params6]; rfl)) rfl
  have k_1 := h_1
  have lt_1 : ∀ x ∈ p_1, x.block < W.heap.size := by obtain ⟨m, hm⟩ := k_1; exact DataW.trod_lt m _ _ _ hm
  obtain ⟨cs_1, rfl, _⟩ := okWide_array Try.underlying26 (hval 1 26 v_1 rfl rfl)
  obtain ⟨has0, has1, has2, has3, e_1⟩ := (by obtain ⟨fuel, hf⟩ := h_1; exact open26 hf hz_1 : ∃ has0 : Bool, ∃ has1 : Bool, ∃ has2 : Bool, ∃ has3 : Bool, cs_1.toList = [.bool has0, .bool has1, .bool has2, .bool has3])
  obtain rfl : cs_1 = #[.bool has0, .bool has1, .bool has2, .bool has3] := by cases cs_1; simp_all
  clear e_1
  have hz_2 : Light Try.prog 26 d_2 := light_of hsz0 (j := 2) (by first | rfl | (rw [Try.params6]; rfl)) rfl
  have k_2 := h_2
  have lt_2 : ∀ x ∈ p_2, x.block < W.heap.size := by obtain ⟨m, hm⟩ := k_2; exact DataW.trod_lt m _ _ _ hm
  obtain ⟨cs_2, rfl, _⟩ := okWide_array Try.underlying26 (hval 2 26 v_2 rfl rfl)
  obtain ⟨faults0, faults1, faults2, faults3, e_2⟩ := (by obtain ⟨fuel, hf⟩ := h_2; exact open26 hf hz_2 : ∃ faults0 : Bool, ∃ faults1 : Bool, ∃ faults2 : Bool, ∃ faults3 : Bool, cs_2.toList = [.bool faults0, .bool faults1, .bool faults2, .bool faults3])
  obtain rfl : cs_2 = #[.bool faults0, .bool faults1, .bool faults2, .bool faults3] := by cases cs_2; simp_all
  clear e_2
  clear hA0 hval0
  refine (walk t0Mode t0Failed t0For t1Mode t1Failed t1For t2Mode t2Failed t2For t3Mode t3Failed t3For has0 has1 has2 has3 faults0 faults1 faults2 faults3 W h_t0Mode h_t0For h_t1Mode h_t1For h_t2Mode h_t2For h_t3Mode h_t3For).mono fun e W' ⟨he, bel⟩ => ?_
  subst he
  exact ⟨_, rfl, _, _, _, [], _, [], hW', trodAll_mk1 (shut_bool Try.underlying4 _), (trodAll_cons_mk (Below.trod laidOut (by kernel_rfl) (of_decide_eq_true (by kernel_rfl)) k_0 bel lt_0) (trodAll_cons_mk (Below.trod laidOut (by kernel_rfl) (of_decide_eq_true (by kernel_rfl)) k_1 bel lt_1) (trodAll_cons_mk (Below.trod laidOut (by kernel_rfl) (of_decide_eq_true (by kernel_rfl)) k_2 bel lt_2) trodAll_mk0))), rfl, bel.frame _, fun h => by cases h⟩

theorem over : Rows.redLowestRow.holds Try.pinned (OpenSpec.ofChange Rows.redLowestSpec) :=
  OpenClaim.holds_of_wide 6 Try.f6 rfl rfl rfl rfl rfl rfl rfl ⟨rfl, rfl, rfl, rfl, rfl⟩ rfl rfl rfl rfl rfl (by kernel_rfl) Try.func6 (by kernel_rfl)
    (of_decide_eq_true (by kernel_rfl)) (by unfold Func.isWrapper; first | (rw [if_pos (by decide +kernel)]; kernel_rfl) | (rw [if_neg (by decide +kernel)]; exact ⟨rfl, rfl⟩))
    (fun os started H enc _ => lifted os started H enc)


end Go.Proofs.Ytnomceopmjlbhaa.redLowest
namespace Go.Proofs.Ytnomceopmjlbhaa
/-- THE STATEMENT -/
theorem redLowest_holds : Rows.RedLowestSaid := redLowest.over
#print axioms redLowest_holds
end Go.Proofs.Ytnomceopmjlbhaa
