/-
  Whatever is handed in, the law OilOwn returns true: a lane with oil has it from a system that is on; with one system on three lanes have oil, with both all, with none none. No condition.
-/
import Derived.Test.YtebfjlgmljfnlaaOilSup
import Derived.Test.YtebfjlgmljfnlaaOilBx
import Derived.Test.YtebfjlgmljfnlaaOpenZ
import Derived.Laws.StructEq
import Derived.ProofKit
namespace Go.Proofs.Ytebfjlgmljfnlaa.oilOwn
open Go.ChangeShapes Go.WideShapes Go.ChangeAt Go.RowKit
set_option linter.unusedVariables false

theorem own : ownKnob Try.prog.godebug = none := by kernel_rfl
theorem laidOut : laidOutB Try.prog = true := by kernel_rfl

theorem list2 {l : List Value} (h : l.length = 2) : ∃ c0 c1, l = [c0, c1] := by
  match l, h with
  | [c0, c1], _ => exact ⟨c0, c1, rfl⟩

theorem open22 {H : Type} {enc : TypeId × Value → H} {w : World} {base : Nat} {spare : Nat → Bool} {held : Bool} {fuel : Nat} {cs : List Value} {x : DataW H × List MemPlace} (h : DataW.trod enc Try.prog w base spare held fuel 22 cs = some x) (hz : Light Try.prog 22 x.1) :
    ∃ v0 : Bool, ∃ v1 : Bool, cs = [.bool v0, .bool v1] := by
  obtain ⟨hl, hf⟩ := trod_elem_z Try.underlying22 h hz
  rw [show Try.prog.cellsOf 22 = 2 from by kernel_rfl] at hl
  obtain ⟨c0, c1, rfl⟩ := list2 hl
  obtain ⟨n0, y0, h0, z0⟩ := hf 0 (by decide)
  replace h0 : DataW.trod enc Try.prog w base spare held n0 4 (([c0, c1] : List Value).drop (0 * Try.prog.cellsOf 4) |>.take (Try.prog.cellsOf 4)) = some y0 := h0
  rw [show Try.prog.cellsOf 4 = 1 from by kernel_rfl] at h0
  replace h0 : DataW.trod enc Try.prog w base spare held n0 4 [c0] = some y0 := h0
  obtain ⟨n1, y1, h1, z1⟩ := hf 1 (by decide)
  replace h1 : DataW.trod enc Try.prog w base spare held n1 4 (([c0, c1] : List Value).drop (1 * Try.prog.cellsOf 4) |>.take (Try.prog.cellsOf 4)) = some y1 := h1
  rw [show Try.prog.cellsOf 4 = 1 from by kernel_rfl] at h1
  replace h1 : DataW.trod enc Try.prog w base spare held n1 4 [c1] = some y1 := h1
  obtain ⟨x0, e0, _⟩ := DataW.trod_bool Try.underlying4 h0
  simp only [List.cons.injEq, and_true] at e0
  obtain rfl := e0
  obtain ⟨x1, e1, _⟩ := DataW.trod_bool Try.underlying4 h1
  simp only [List.cons.injEq, and_true] at e1
  obtain rfl := e1
  exact ⟨x0, x1, rfl⟩

theorem open23 {H : Type} {enc : TypeId × Value → H} {w : World} {base : Nat} {spare : Nat → Bool} {held : Bool} {fuel : Nat} {cs : List Value} {x : DataW H × List MemPlace} (h : DataW.trod enc Try.prog w base spare held fuel 23 cs = some x) (hz : Light Try.prog 23 x.1) :
    ∃ v0 : Int, ∃ v1 : Int, cs = [.int .i32 v0, .int .i32 v1] ∧ (Lit.int .i32 v0).wf = true ∧ (Lit.int .i32 v1).wf = true := by
  obtain ⟨hl, hf⟩ := trod_elem_z Try.underlying23 h hz
  rw [show Try.prog.cellsOf 23 = 2 from by kernel_rfl] at hl
  obtain ⟨c0, c1, rfl⟩ := list2 hl
  obtain ⟨n0, y0, h0, z0⟩ := hf 0 (by decide)
  replace h0 : DataW.trod enc Try.prog w base spare held n0 21 (([c0, c1] : List Value).drop (0 * Try.prog.cellsOf 21) |>.take (Try.prog.cellsOf 21)) = some y0 := h0
  rw [show Try.prog.cellsOf 21 = 1 from by kernel_rfl] at h0
  replace h0 : DataW.trod enc Try.prog w base spare held n0 21 [c0] = some y0 := h0
  obtain ⟨n1, y1, h1, z1⟩ := hf 1 (by decide)
  replace h1 : DataW.trod enc Try.prog w base spare held n1 21 (([c0, c1] : List Value).drop (1 * Try.prog.cellsOf 21) |>.take (Try.prog.cellsOf 21)) = some y1 := h1
  rw [show Try.prog.cellsOf 21 = 1 from by kernel_rfl] at h1
  replace h1 : DataW.trod enc Try.prog w base spare held n1 21 [c1] = some y1 := h1
  obtain ⟨x0, e0, _, f0_0⟩ := DataW.trod_int Try.underlying21 h0
  simp only [List.cons.injEq, and_true] at e0
  obtain rfl := e0
  obtain ⟨x1, e1, _, f1_0⟩ := DataW.trod_int Try.underlying21 h1
  simp only [List.cons.injEq, and_true] at e1
  obtain rfl := e1
  exact ⟨x0, x1, rfl, f0_0, f1_0⟩


/-- so many lanes ahead of the j-th have oil -/
def cl (c1 c2 c3 c4 : Int) (j : Nat) : Int := if j = 0 then 0 else if j = 1 then c1 else if j = 2 then c2 else if j = 3 then c3 else c4
/-- reading an array of two bools by its place -/
theorem ix2 (a b : Bool) : (∀ w : World, (Instr.index 22 (.agg #[.bool a, .bool b]) (.int .i64 0)).run Try.prog w = .ok (.bool a) w) ∧ (∀ w : World, (Instr.index 22 (.agg #[.bool a, .bool b]) (.int .i64 1)).run Try.prog w = .ok (.bool b) w) :=
  ⟨fun _ => by kernel_rfl, fun _ => by kernel_rfl⟩
theorem first (W : World) : Calls Try.prog 6 #[.agg #[.bool false, .bool true], .int .i64 1] W fun r w' => r = .returned (.tuple #[.int .i64 1, .int .i64 0]) ∧ Below W.heap.size W w' := source_1 false true W

set_option maxHeartbeats 16000000 in
set_option maxRecDepth 100000 in
theorem own_ff (p q : Int) (w : World) : Calls Try.prog 4 #[.agg #[.bool false, .bool false], .agg #[.int .i32 p, .int .i32 q]] w fun e w' => e = .returned (.bool true) ∧ Below w.heap.size w w' := by
  have B0 : Hid (_) := bxs_two w #[.bool false, .bool false] #[.int .i32 p, .int .i32 q] 22 23
  have CP : Hid (∀ W, Calls Try.prog 7 #[.agg #[.bool false, .bool false], .agg #[.int .i32 p, .int .i32 q]] W fun r w' => r = .returned (.tuple #[.agg #[.int .i32 0, .int .i32 0, .int .i32 0, .int .i32 0], .agg #[.bool false, .bool false, .bool false, .bool false]]) ∧ Below W.heap.size W w') := fun W => supply_any false false p q W
  have K0 : Hid (∀ W, Calls Try.prog 6 #[.agg #[.bool false, .bool false], .int .i64 0] W fun r w' => r = .returned (.tuple #[.int .i64 0, .int .i64 7]) ∧ Below W.heap.size W w') := fun W => source_0 false false W
  have K1 : Hid (∀ W, Calls Try.prog 6 #[.agg #[.bool false, .bool false], .int .i64 1] W fun r w' => r = .returned (.tuple #[.int .i64 0, .int .i64 7]) ∧ Below W.heap.size W w') := fun W => source_1 false false W
  have K2 : Hid (∀ W, Calls Try.prog 6 #[.agg #[.bool false, .bool false], .int .i64 2] W fun r w' => r = .returned (.tuple #[.int .i64 0, .int .i64 7]) ∧ Below W.heap.size W w') := fun W => source_2 false false W
  have K3 : Hid (∀ W, Calls Try.prog 6 #[.agg #[.bool false, .bool false], .int .i64 3] W fun r w' => r = .returned (.tuple #[.int .i64 0, .int .i64 7]) ∧ Below W.heap.size W w') := fun W => source_3 false false W
  go_enter Try.func4, Try.ntmps4
  go_wp2_with fail
  refine (first _).mono ?_
  rintro r w1 ⟨rfl, hb⟩
  have B1 : Hid (_) := B0.out.step hb
  clear hb B0
  have cl := (B1.out.box 0 _ _ rfl).lt
  have c0 := (B1.out.box 0 _ _ rfl).cell 0 _ rfl
  have c1 := (B1.out.box 0 _ _ rfl).cell 1 _ rfl
  have dl := (B1.out.box 1 _ _ rfl).lt
  have d0 := (B1.out.box 1 _ _ rfl).cell 0 _ rfl
  have d1 := (B1.out.box 1 _ _ rfl).cell 1 _ rfl
  go_wp2_with fail
  refine (CP.out _).mono ?_
  rintro r w2 ⟨rfl, hb⟩
  have B2 : Hid (_) := B1.out.step hb
  clear hb B1 CP
  clear cl c0 c1
  clear dl d0 d1
  go_upto_region 5 with (fail)
  obtain ⟨N, W3, hW3, hN3, B3', Z3⟩ := B2.out.new2 #[.int .i32 0, .int .i32 0, .int .i32 0, .int .i32 0] #[.bool false, .bool false, .bool false, .bool false] 29 30
  rw [hW3, hN3]
  have B3 : Hid (_) := B3'
  clear hW3 hN3 B3' B2 Z3
  go_wp2_with fail
  go_loopg [9, 33] (5) (fun g n t wr => ∃ j : Nat, n = .int .i64 (cl 0 0 0 0 j) ∧ t = .int .i64 j ∧ 4 - j < g ∧ j ≤ 4 ∧ Hid (Bxs w [(w.heap.size, [.bool false, .bool false]), (w.heap.size + 1, [.int .i32 p, .int .i32 q]), (N, [.int .i32 0, .int .i32 0, .int .i32 0, .int .i32 0]), (N + 1, [.bool false, .bool false, .bool false, .bool false])] wr))
  case atStart => exact ⟨0, rfl, rfl, by omega, by omega, B3⟩
  case round =>
    obtain ⟨j, rfl, rfl, hg, hj, HB⟩ := hrel
    clear B3
    by_cases hlt : j < 4
    · obtain rfl | rfl | rfl | rfl := cases4 hlt
      · rw [show cl 0 0 0 0 0 = 0 from rfl]
        have cl := (HB.out.box 0 _ _ rfl).lt
        have c0 := (HB.out.box 0 _ _ rfl).cell 0 _ rfl
        have c1 := (HB.out.box 0 _ _ rfl).cell 1 _ rfl
        go_wp2_with fail
        refine (K0.out _).mono ?_
        rintro r w5 ⟨rfl, hb⟩
        have HB2 : Hid (_) := HB.out.step hb
        clear hb HB K0 K1 K2 K3
        clear cl c0 c1
        have cl := (HB2.out.box 0 _ _ rfl).lt
        have c0 := (HB2.out.box 0 _ _ rfl).cell 0 _ rfl
        have c1 := (HB2.out.box 0 _ _ rfl).cell 1 _ rfl
        have dl := (HB2.out.box 1 _ _ rfl).lt
        have d0 := (HB2.out.box 1 _ _ rfl).cell 0 _ rfl
        have d1 := (HB2.out.box 1 _ _ rfl).cell 1 _ rfl
        have xl := (HB2.out.box 2 _ _ rfl).lt
        have x0 := (HB2.out.box 2 _ _ rfl).cell 0 _ rfl
        have x1 := (HB2.out.box 2 _ _ rfl).cell 1 _ rfl
        have x2 := (HB2.out.box 2 _ _ rfl).cell 2 _ rfl
        have x3 := (HB2.out.box 2 _ _ rfl).cell 3 _ rfl
        have yl := (HB2.out.box 3 _ _ rfl).lt
        have y0 := (HB2.out.box 3 _ _ rfl).cell 0 _ rfl
        have y1 := (HB2.out.box 3 _ _ rfl).cell 1 _ rfl
        have y2 := (HB2.out.box 3 _ _ rfl).cell 2 _ rfl
        have y3 := (HB2.out.box 3 _ _ rfl).cell 3 _ rfl
        go_wp2_with fail
        go_quiet (fail)
        go_wp2_with fail
        go_roundg (4 - (0 + 1) + 1)
        case measure => omega
        case rel => exact ⟨1, rfl, rfl, by omega, by omega, HB2.out.step ⟨rfl, rfl, rfl, Nat.le_refl _, fun _ _ => rfl⟩⟩
      · rw [show cl 0 0 0 0 1 = 0 from rfl]
        have cl := (HB.out.box 0 _ _ rfl).lt
        have c0 := (HB.out.box 0 _ _ rfl).cell 0 _ rfl
        have c1 := (HB.out.box 0 _ _ rfl).cell 1 _ rfl
        go_wp2_with fail
        refine (K1.out _).mono ?_
        rintro r w5 ⟨rfl, hb⟩
        have HB2 : Hid (_) := HB.out.step hb
        clear hb HB K0 K1 K2 K3
        clear cl c0 c1
        have cl := (HB2.out.box 0 _ _ rfl).lt
        have c0 := (HB2.out.box 0 _ _ rfl).cell 0 _ rfl
        have c1 := (HB2.out.box 0 _ _ rfl).cell 1 _ rfl
        have dl := (HB2.out.box 1 _ _ rfl).lt
        have d0 := (HB2.out.box 1 _ _ rfl).cell 0 _ rfl
        have d1 := (HB2.out.box 1 _ _ rfl).cell 1 _ rfl
        have xl := (HB2.out.box 2 _ _ rfl).lt
        have x0 := (HB2.out.box 2 _ _ rfl).cell 0 _ rfl
        have x1 := (HB2.out.box 2 _ _ rfl).cell 1 _ rfl
        have x2 := (HB2.out.box 2 _ _ rfl).cell 2 _ rfl
        have x3 := (HB2.out.box 2 _ _ rfl).cell 3 _ rfl
        have yl := (HB2.out.box 3 _ _ rfl).lt
        have y0 := (HB2.out.box 3 _ _ rfl).cell 0 _ rfl
        have y1 := (HB2.out.box 3 _ _ rfl).cell 1 _ rfl
        have y2 := (HB2.out.box 3 _ _ rfl).cell 2 _ rfl
        have y3 := (HB2.out.box 3 _ _ rfl).cell 3 _ rfl
        go_wp2_with fail
        go_quiet (fail)
        go_wp2_with fail
        go_roundg (4 - (1 + 1) + 1)
        case measure => omega
        case rel => exact ⟨2, rfl, rfl, by omega, by omega, HB2.out.step ⟨rfl, rfl, rfl, Nat.le_refl _, fun _ _ => rfl⟩⟩
      · rw [show cl 0 0 0 0 2 = 0 from rfl]
        have cl := (HB.out.box 0 _ _ rfl).lt
        have c0 := (HB.out.box 0 _ _ rfl).cell 0 _ rfl
        have c1 := (HB.out.box 0 _ _ rfl).cell 1 _ rfl
        go_wp2_with fail
        refine (K2.out _).mono ?_
        rintro r w5 ⟨rfl, hb⟩
        have HB2 : Hid (_) := HB.out.step hb
        clear hb HB K0 K1 K2 K3
        clear cl c0 c1
        have cl := (HB2.out.box 0 _ _ rfl).lt
        have c0 := (HB2.out.box 0 _ _ rfl).cell 0 _ rfl
        have c1 := (HB2.out.box 0 _ _ rfl).cell 1 _ rfl
        have dl := (HB2.out.box 1 _ _ rfl).lt
        have d0 := (HB2.out.box 1 _ _ rfl).cell 0 _ rfl
        have d1 := (HB2.out.box 1 _ _ rfl).cell 1 _ rfl
        have xl := (HB2.out.box 2 _ _ rfl).lt
        have x0 := (HB2.out.box 2 _ _ rfl).cell 0 _ rfl
        have x1 := (HB2.out.box 2 _ _ rfl).cell 1 _ rfl
        have x2 := (HB2.out.box 2 _ _ rfl).cell 2 _ rfl
        have x3 := (HB2.out.box 2 _ _ rfl).cell 3 _ rfl
        have yl := (HB2.out.box 3 _ _ rfl).lt
        have y0 := (HB2.out.box 3 _ _ rfl).cell 0 _ rfl
        have y1 := (HB2.out.box 3 _ _ rfl).cell 1 _ rfl
        have y2 := (HB2.out.box 3 _ _ rfl).cell 2 _ rfl
        have y3 := (HB2.out.box 3 _ _ rfl).cell 3 _ rfl
        go_wp2_with fail
        go_quiet (fail)
        go_wp2_with fail
        go_roundg (4 - (2 + 1) + 1)
        case measure => omega
        case rel => exact ⟨3, rfl, rfl, by omega, by omega, HB2.out.step ⟨rfl, rfl, rfl, Nat.le_refl _, fun _ _ => rfl⟩⟩
      · rw [show cl 0 0 0 0 3 = 0 from rfl]
        have cl := (HB.out.box 0 _ _ rfl).lt
        have c0 := (HB.out.box 0 _ _ rfl).cell 0 _ rfl
        have c1 := (HB.out.box 0 _ _ rfl).cell 1 _ rfl
        go_wp2_with fail
        refine (K3.out _).mono ?_
        rintro r w5 ⟨rfl, hb⟩
        have HB2 : Hid (_) := HB.out.step hb
        clear hb HB K0 K1 K2 K3
        clear cl c0 c1
        have cl := (HB2.out.box 0 _ _ rfl).lt
        have c0 := (HB2.out.box 0 _ _ rfl).cell 0 _ rfl
        have c1 := (HB2.out.box 0 _ _ rfl).cell 1 _ rfl
        have dl := (HB2.out.box 1 _ _ rfl).lt
        have d0 := (HB2.out.box 1 _ _ rfl).cell 0 _ rfl
        have d1 := (HB2.out.box 1 _ _ rfl).cell 1 _ rfl
        have xl := (HB2.out.box 2 _ _ rfl).lt
        have x0 := (HB2.out.box 2 _ _ rfl).cell 0 _ rfl
        have x1 := (HB2.out.box 2 _ _ rfl).cell 1 _ rfl
        have x2 := (HB2.out.box 2 _ _ rfl).cell 2 _ rfl
        have x3 := (HB2.out.box 2 _ _ rfl).cell 3 _ rfl
        have yl := (HB2.out.box 3 _ _ rfl).lt
        have y0 := (HB2.out.box 3 _ _ rfl).cell 0 _ rfl
        have y1 := (HB2.out.box 3 _ _ rfl).cell 1 _ rfl
        have y2 := (HB2.out.box 3 _ _ rfl).cell 2 _ rfl
        have y3 := (HB2.out.box 3 _ _ rfl).cell 3 _ rfl
        go_wp2_with fail
        go_quiet (fail)
        go_wp2_with fail
        go_roundg (4 - (3 + 1) + 1)
        case measure => omega
        case rel => exact ⟨4, rfl, rfl, by omega, by omega, HB2.out.step ⟨rfl, rfl, rfl, Nat.le_refl _, fun _ _ => rfl⟩⟩
    · obtain rfl : j = 4 := by omega
      rw [show cl 0 0 0 0 4 = 0 from rfl]
      clear K0 K1 K2 K3
      obtain ⟨i0, i1⟩ := ix2 false false
      have cl := (HB.out.box 0 _ _ rfl).lt
      have c0 := (HB.out.box 0 _ _ rfl).cell 0 _ rfl
      have c1 := (HB.out.box 0 _ _ rfl).cell 1 _ rfl
      go_wp2_with fail
      go_rounds 3
      go_wp2_with fail
      go_ret
      exact ⟨rfl, (HB.out.alloc _).bel⟩

set_option maxHeartbeats 16000000 in
set_option maxRecDepth 100000 in
theorem own_ft (p q : Int) (w : World) : Calls Try.prog 4 #[.agg #[.bool false, .bool true], .agg #[.int .i32 p, .int .i32 q]] w fun e w' => e = .returned (.bool true) ∧ Below w.heap.size w w' := by
  have B0 : Hid (_) := bxs_two w #[.bool false, .bool true] #[.int .i32 p, .int .i32 q] 22 23
  have CP : Hid (∀ W, Calls Try.prog 7 #[.agg #[.bool false, .bool true], .agg #[.int .i32 p, .int .i32 q]] W fun r w' => r = .returned (.tuple #[.agg #[.int .i32 0, .int .i32 q, .int .i32 q, .int .i32 q], .agg #[.bool false, .bool true, .bool true, .bool true]]) ∧ Below W.heap.size W w') := fun W => supply_any false true p q W
  have K0 : Hid (∀ W, Calls Try.prog 6 #[.agg #[.bool false, .bool true], .int .i64 0] W fun r w' => r = .returned (.tuple #[.int .i64 0, .int .i64 7]) ∧ Below W.heap.size W w') := fun W => source_0 false true W
  have K1 : Hid (∀ W, Calls Try.prog 6 #[.agg #[.bool false, .bool true], .int .i64 1] W fun r w' => r = .returned (.tuple #[.int .i64 1, .int .i64 0]) ∧ Below W.heap.size W w') := fun W => source_1 false true W
  have K2 : Hid (∀ W, Calls Try.prog 6 #[.agg #[.bool false, .bool true], .int .i64 2] W fun r w' => r = .returned (.tuple #[.int .i64 1, .int .i64 0]) ∧ Below W.heap.size W w') := fun W => source_2 false true W
  have K3 : Hid (∀ W, Calls Try.prog 6 #[.agg #[.bool false, .bool true], .int .i64 3] W fun r w' => r = .returned (.tuple #[.int .i64 1, .int .i64 0]) ∧ Below W.heap.size W w') := fun W => source_3 false true W
  go_enter Try.func4, Try.ntmps4
  go_wp2_with fail
  refine (first _).mono ?_
  rintro r w1 ⟨rfl, hb⟩
  have B1 : Hid (_) := B0.out.step hb
  clear hb B0
  have cl := (B1.out.box 0 _ _ rfl).lt
  have c0 := (B1.out.box 0 _ _ rfl).cell 0 _ rfl
  have c1 := (B1.out.box 0 _ _ rfl).cell 1 _ rfl
  have dl := (B1.out.box 1 _ _ rfl).lt
  have d0 := (B1.out.box 1 _ _ rfl).cell 0 _ rfl
  have d1 := (B1.out.box 1 _ _ rfl).cell 1 _ rfl
  go_wp2_with fail
  refine (CP.out _).mono ?_
  rintro r w2 ⟨rfl, hb⟩
  have B2 : Hid (_) := B1.out.step hb
  clear hb B1 CP
  clear cl c0 c1
  clear dl d0 d1
  go_upto_region 5 with (fail)
  obtain ⟨N, W3, hW3, hN3, B3', Z3⟩ := B2.out.new2 #[.int .i32 0, .int .i32 q, .int .i32 q, .int .i32 q] #[.bool false, .bool true, .bool true, .bool true] 29 30
  rw [hW3, hN3]
  have B3 : Hid (_) := B3'
  clear hW3 hN3 B3' B2 Z3
  go_wp2_with fail
  go_loopg [9, 33] (5) (fun g n t wr => ∃ j : Nat, n = .int .i64 (cl 0 1 2 3 j) ∧ t = .int .i64 j ∧ 4 - j < g ∧ j ≤ 4 ∧ Hid (Bxs w [(w.heap.size, [.bool false, .bool true]), (w.heap.size + 1, [.int .i32 p, .int .i32 q]), (N, [.int .i32 0, .int .i32 q, .int .i32 q, .int .i32 q]), (N + 1, [.bool false, .bool true, .bool true, .bool true])] wr))
  case atStart => exact ⟨0, rfl, rfl, by omega, by omega, B3⟩
  case round =>
    obtain ⟨j, rfl, rfl, hg, hj, HB⟩ := hrel
    clear B3
    by_cases hlt : j < 4
    · obtain rfl | rfl | rfl | rfl := cases4 hlt
      · rw [show cl 0 1 2 3 0 = 0 from rfl]
        have cl := (HB.out.box 0 _ _ rfl).lt
        have c0 := (HB.out.box 0 _ _ rfl).cell 0 _ rfl
        have c1 := (HB.out.box 0 _ _ rfl).cell 1 _ rfl
        go_wp2_with fail
        refine (K0.out _).mono ?_
        rintro r w5 ⟨rfl, hb⟩
        have HB2 : Hid (_) := HB.out.step hb
        clear hb HB K0 K1 K2 K3
        clear cl c0 c1
        have cl := (HB2.out.box 0 _ _ rfl).lt
        have c0 := (HB2.out.box 0 _ _ rfl).cell 0 _ rfl
        have c1 := (HB2.out.box 0 _ _ rfl).cell 1 _ rfl
        have dl := (HB2.out.box 1 _ _ rfl).lt
        have d0 := (HB2.out.box 1 _ _ rfl).cell 0 _ rfl
        have d1 := (HB2.out.box 1 _ _ rfl).cell 1 _ rfl
        have xl := (HB2.out.box 2 _ _ rfl).lt
        have x0 := (HB2.out.box 2 _ _ rfl).cell 0 _ rfl
        have x1 := (HB2.out.box 2 _ _ rfl).cell 1 _ rfl
        have x2 := (HB2.out.box 2 _ _ rfl).cell 2 _ rfl
        have x3 := (HB2.out.box 2 _ _ rfl).cell 3 _ rfl
        have yl := (HB2.out.box 3 _ _ rfl).lt
        have y0 := (HB2.out.box 3 _ _ rfl).cell 0 _ rfl
        have y1 := (HB2.out.box 3 _ _ rfl).cell 1 _ rfl
        have y2 := (HB2.out.box 3 _ _ rfl).cell 2 _ rfl
        have y3 := (HB2.out.box 3 _ _ rfl).cell 3 _ rfl
        go_wp2_with fail
        go_quiet (fail)
        go_wp2_with fail
        go_roundg (4 - (0 + 1) + 1)
        case measure => omega
        case rel => exact ⟨1, rfl, rfl, by omega, by omega, HB2.out.step ⟨rfl, rfl, rfl, Nat.le_refl _, fun _ _ => rfl⟩⟩
      · rw [show cl 0 1 2 3 1 = 0 from rfl]
        have cl := (HB.out.box 0 _ _ rfl).lt
        have c0 := (HB.out.box 0 _ _ rfl).cell 0 _ rfl
        have c1 := (HB.out.box 0 _ _ rfl).cell 1 _ rfl
        go_wp2_with fail
        refine (K1.out _).mono ?_
        rintro r w5 ⟨rfl, hb⟩
        have HB2 : Hid (_) := HB.out.step hb
        clear hb HB K0 K1 K2 K3
        clear cl c0 c1
        have cl := (HB2.out.box 0 _ _ rfl).lt
        have c0 := (HB2.out.box 0 _ _ rfl).cell 0 _ rfl
        have c1 := (HB2.out.box 0 _ _ rfl).cell 1 _ rfl
        have dl := (HB2.out.box 1 _ _ rfl).lt
        have d0 := (HB2.out.box 1 _ _ rfl).cell 0 _ rfl
        have d1 := (HB2.out.box 1 _ _ rfl).cell 1 _ rfl
        have xl := (HB2.out.box 2 _ _ rfl).lt
        have x0 := (HB2.out.box 2 _ _ rfl).cell 0 _ rfl
        have x1 := (HB2.out.box 2 _ _ rfl).cell 1 _ rfl
        have x2 := (HB2.out.box 2 _ _ rfl).cell 2 _ rfl
        have x3 := (HB2.out.box 2 _ _ rfl).cell 3 _ rfl
        have yl := (HB2.out.box 3 _ _ rfl).lt
        have y0 := (HB2.out.box 3 _ _ rfl).cell 0 _ rfl
        have y1 := (HB2.out.box 3 _ _ rfl).cell 1 _ rfl
        have y2 := (HB2.out.box 3 _ _ rfl).cell 2 _ rfl
        have y3 := (HB2.out.box 3 _ _ rfl).cell 3 _ rfl
        go_wp2_with fail
        go_quiet (fail)
        go_wp2_with fail
        go_roundg (4 - (1 + 1) + 1)
        case measure => omega
        case rel => exact ⟨2, rfl, rfl, by omega, by omega, HB2.out.step ⟨rfl, rfl, rfl, Nat.le_refl _, fun _ _ => rfl⟩⟩
      · rw [show cl 0 1 2 3 2 = 1 from rfl]
        have cl := (HB.out.box 0 _ _ rfl).lt
        have c0 := (HB.out.box 0 _ _ rfl).cell 0 _ rfl
        have c1 := (HB.out.box 0 _ _ rfl).cell 1 _ rfl
        go_wp2_with fail
        refine (K2.out _).mono ?_
        rintro r w5 ⟨rfl, hb⟩
        have HB2 : Hid (_) := HB.out.step hb
        clear hb HB K0 K1 K2 K3
        clear cl c0 c1
        have cl := (HB2.out.box 0 _ _ rfl).lt
        have c0 := (HB2.out.box 0 _ _ rfl).cell 0 _ rfl
        have c1 := (HB2.out.box 0 _ _ rfl).cell 1 _ rfl
        have dl := (HB2.out.box 1 _ _ rfl).lt
        have d0 := (HB2.out.box 1 _ _ rfl).cell 0 _ rfl
        have d1 := (HB2.out.box 1 _ _ rfl).cell 1 _ rfl
        have xl := (HB2.out.box 2 _ _ rfl).lt
        have x0 := (HB2.out.box 2 _ _ rfl).cell 0 _ rfl
        have x1 := (HB2.out.box 2 _ _ rfl).cell 1 _ rfl
        have x2 := (HB2.out.box 2 _ _ rfl).cell 2 _ rfl
        have x3 := (HB2.out.box 2 _ _ rfl).cell 3 _ rfl
        have yl := (HB2.out.box 3 _ _ rfl).lt
        have y0 := (HB2.out.box 3 _ _ rfl).cell 0 _ rfl
        have y1 := (HB2.out.box 3 _ _ rfl).cell 1 _ rfl
        have y2 := (HB2.out.box 3 _ _ rfl).cell 2 _ rfl
        have y3 := (HB2.out.box 3 _ _ rfl).cell 3 _ rfl
        go_wp2_with fail
        go_quiet (fail)
        go_wp2_with fail
        go_roundg (4 - (2 + 1) + 1)
        case measure => omega
        case rel => exact ⟨3, rfl, rfl, by omega, by omega, HB2.out.step ⟨rfl, rfl, rfl, Nat.le_refl _, fun _ _ => rfl⟩⟩
      · rw [show cl 0 1 2 3 3 = 2 from rfl]
        have cl := (HB.out.box 0 _ _ rfl).lt
        have c0 := (HB.out.box 0 _ _ rfl).cell 0 _ rfl
        have c1 := (HB.out.box 0 _ _ rfl).cell 1 _ rfl
        go_wp2_with fail
        refine (K3.out _).mono ?_
        rintro r w5 ⟨rfl, hb⟩
        have HB2 : Hid (_) := HB.out.step hb
        clear hb HB K0 K1 K2 K3
        clear cl c0 c1
        have cl := (HB2.out.box 0 _ _ rfl).lt
        have c0 := (HB2.out.box 0 _ _ rfl).cell 0 _ rfl
        have c1 := (HB2.out.box 0 _ _ rfl).cell 1 _ rfl
        have dl := (HB2.out.box 1 _ _ rfl).lt
        have d0 := (HB2.out.box 1 _ _ rfl).cell 0 _ rfl
        have d1 := (HB2.out.box 1 _ _ rfl).cell 1 _ rfl
        have xl := (HB2.out.box 2 _ _ rfl).lt
        have x0 := (HB2.out.box 2 _ _ rfl).cell 0 _ rfl
        have x1 := (HB2.out.box 2 _ _ rfl).cell 1 _ rfl
        have x2 := (HB2.out.box 2 _ _ rfl).cell 2 _ rfl
        have x3 := (HB2.out.box 2 _ _ rfl).cell 3 _ rfl
        have yl := (HB2.out.box 3 _ _ rfl).lt
        have y0 := (HB2.out.box 3 _ _ rfl).cell 0 _ rfl
        have y1 := (HB2.out.box 3 _ _ rfl).cell 1 _ rfl
        have y2 := (HB2.out.box 3 _ _ rfl).cell 2 _ rfl
        have y3 := (HB2.out.box 3 _ _ rfl).cell 3 _ rfl
        go_wp2_with fail
        go_quiet (fail)
        go_wp2_with fail
        go_roundg (4 - (3 + 1) + 1)
        case measure => omega
        case rel => exact ⟨4, rfl, rfl, by omega, by omega, HB2.out.step ⟨rfl, rfl, rfl, Nat.le_refl _, fun _ _ => rfl⟩⟩
    · obtain rfl : j = 4 := by omega
      rw [show cl 0 1 2 3 4 = 3 from rfl]
      clear K0 K1 K2 K3
      obtain ⟨i0, i1⟩ := ix2 false true
      have cl := (HB.out.box 0 _ _ rfl).lt
      have c0 := (HB.out.box 0 _ _ rfl).cell 0 _ rfl
      have c1 := (HB.out.box 0 _ _ rfl).cell 1 _ rfl
      go_wp2_with fail
      go_rounds 3
      go_wp2_with fail
      go_ret
      exact ⟨rfl, (HB.out.alloc _).bel⟩

set_option maxHeartbeats 16000000 in
set_option maxRecDepth 100000 in
theorem own_tf (p q : Int) (w : World) : Calls Try.prog 4 #[.agg #[.bool true, .bool false], .agg #[.int .i32 p, .int .i32 q]] w fun e w' => e = .returned (.bool true) ∧ Below w.heap.size w w' := by
  have B0 : Hid (_) := bxs_two w #[.bool true, .bool false] #[.int .i32 p, .int .i32 q] 22 23
  have CP : Hid (∀ W, Calls Try.prog 7 #[.agg #[.bool true, .bool false], .agg #[.int .i32 p, .int .i32 q]] W fun r w' => r = .returned (.tuple #[.agg #[.int .i32 p, .int .i32 p, .int .i32 0, .int .i32 p], .agg #[.bool true, .bool true, .bool false, .bool true]]) ∧ Below W.heap.size W w') := fun W => supply_any true false p q W
  have K0 : Hid (∀ W, Calls Try.prog 6 #[.agg #[.bool true, .bool false], .int .i64 0] W fun r w' => r = .returned (.tuple #[.int .i64 0, .int .i64 0]) ∧ Below W.heap.size W w') := fun W => source_0 true false W
  have K1 : Hid (∀ W, Calls Try.prog 6 #[.agg #[.bool true, .bool false], .int .i64 1] W fun r w' => r = .returned (.tuple #[.int .i64 0, .int .i64 0]) ∧ Below W.heap.size W w') := fun W => source_1 true false W
  have K2 : Hid (∀ W, Calls Try.prog 6 #[.agg #[.bool true, .bool false], .int .i64 2] W fun r w' => r = .returned (.tuple #[.int .i64 0, .int .i64 7]) ∧ Below W.heap.size W w') := fun W => source_2 true false W
  have K3 : Hid (∀ W, Calls Try.prog 6 #[.agg #[.bool true, .bool false], .int .i64 3] W fun r w' => r = .returned (.tuple #[.int .i64 0, .int .i64 0]) ∧ Below W.heap.size W w') := fun W => source_3 true false W
  go_enter Try.func4, Try.ntmps4
  go_wp2_with fail
  refine (first _).mono ?_
  rintro r w1 ⟨rfl, hb⟩
  have B1 : Hid (_) := B0.out.step hb
  clear hb B0
  have cl := (B1.out.box 0 _ _ rfl).lt
  have c0 := (B1.out.box 0 _ _ rfl).cell 0 _ rfl
  have c1 := (B1.out.box 0 _ _ rfl).cell 1 _ rfl
  have dl := (B1.out.box 1 _ _ rfl).lt
  have d0 := (B1.out.box 1 _ _ rfl).cell 0 _ rfl
  have d1 := (B1.out.box 1 _ _ rfl).cell 1 _ rfl
  go_wp2_with fail
  refine (CP.out _).mono ?_
  rintro r w2 ⟨rfl, hb⟩
  have B2 : Hid (_) := B1.out.step hb
  clear hb B1 CP
  clear cl c0 c1
  clear dl d0 d1
  go_upto_region 5 with (fail)
  obtain ⟨N, W3, hW3, hN3, B3', Z3⟩ := B2.out.new2 #[.int .i32 p, .int .i32 p, .int .i32 0, .int .i32 p] #[.bool true, .bool true, .bool false, .bool true] 29 30
  rw [hW3, hN3]
  have B3 : Hid (_) := B3'
  clear hW3 hN3 B3' B2 Z3
  go_wp2_with fail
  go_loopg [9, 33] (5) (fun g n t wr => ∃ j : Nat, n = .int .i64 (cl 1 2 2 3 j) ∧ t = .int .i64 j ∧ 4 - j < g ∧ j ≤ 4 ∧ Hid (Bxs w [(w.heap.size, [.bool true, .bool false]), (w.heap.size + 1, [.int .i32 p, .int .i32 q]), (N, [.int .i32 p, .int .i32 p, .int .i32 0, .int .i32 p]), (N + 1, [.bool true, .bool true, .bool false, .bool true])] wr))
  case atStart => exact ⟨0, rfl, rfl, by omega, by omega, B3⟩
  case round =>
    obtain ⟨j, rfl, rfl, hg, hj, HB⟩ := hrel
    clear B3
    by_cases hlt : j < 4
    · obtain rfl | rfl | rfl | rfl := cases4 hlt
      · rw [show cl 1 2 2 3 0 = 0 from rfl]
        have cl := (HB.out.box 0 _ _ rfl).lt
        have c0 := (HB.out.box 0 _ _ rfl).cell 0 _ rfl
        have c1 := (HB.out.box 0 _ _ rfl).cell 1 _ rfl
        go_wp2_with fail
        refine (K0.out _).mono ?_
        rintro r w5 ⟨rfl, hb⟩
        have HB2 : Hid (_) := HB.out.step hb
        clear hb HB K0 K1 K2 K3
        clear cl c0 c1
        have cl := (HB2.out.box 0 _ _ rfl).lt
        have c0 := (HB2.out.box 0 _ _ rfl).cell 0 _ rfl
        have c1 := (HB2.out.box 0 _ _ rfl).cell 1 _ rfl
        have dl := (HB2.out.box 1 _ _ rfl).lt
        have d0 := (HB2.out.box 1 _ _ rfl).cell 0 _ rfl
        have d1 := (HB2.out.box 1 _ _ rfl).cell 1 _ rfl
        have xl := (HB2.out.box 2 _ _ rfl).lt
        have x0 := (HB2.out.box 2 _ _ rfl).cell 0 _ rfl
        have x1 := (HB2.out.box 2 _ _ rfl).cell 1 _ rfl
        have x2 := (HB2.out.box 2 _ _ rfl).cell 2 _ rfl
        have x3 := (HB2.out.box 2 _ _ rfl).cell 3 _ rfl
        have yl := (HB2.out.box 3 _ _ rfl).lt
        have y0 := (HB2.out.box 3 _ _ rfl).cell 0 _ rfl
        have y1 := (HB2.out.box 3 _ _ rfl).cell 1 _ rfl
        have y2 := (HB2.out.box 3 _ _ rfl).cell 2 _ rfl
        have y3 := (HB2.out.box 3 _ _ rfl).cell 3 _ rfl
        go_wp2_with fail
        go_quiet (fail)
        go_wp2_with fail
        go_roundg (4 - (0 + 1) + 1)
        case measure => omega
        case rel => exact ⟨1, rfl, rfl, by omega, by omega, HB2.out.step ⟨rfl, rfl, rfl, Nat.le_refl _, fun _ _ => rfl⟩⟩
      · rw [show cl 1 2 2 3 1 = 1 from rfl]
        have cl := (HB.out.box 0 _ _ rfl).lt
        have c0 := (HB.out.box 0 _ _ rfl).cell 0 _ rfl
        have c1 := (HB.out.box 0 _ _ rfl).cell 1 _ rfl
        go_wp2_with fail
        refine (K1.out _).mono ?_
        rintro r w5 ⟨rfl, hb⟩
        have HB2 : Hid (_) := HB.out.step hb
        clear hb HB K0 K1 K2 K3
        clear cl c0 c1
        have cl := (HB2.out.box 0 _ _ rfl).lt
        have c0 := (HB2.out.box 0 _ _ rfl).cell 0 _ rfl
        have c1 := (HB2.out.box 0 _ _ rfl).cell 1 _ rfl
        have dl := (HB2.out.box 1 _ _ rfl).lt
        have d0 := (HB2.out.box 1 _ _ rfl).cell 0 _ rfl
        have d1 := (HB2.out.box 1 _ _ rfl).cell 1 _ rfl
        have xl := (HB2.out.box 2 _ _ rfl).lt
        have x0 := (HB2.out.box 2 _ _ rfl).cell 0 _ rfl
        have x1 := (HB2.out.box 2 _ _ rfl).cell 1 _ rfl
        have x2 := (HB2.out.box 2 _ _ rfl).cell 2 _ rfl
        have x3 := (HB2.out.box 2 _ _ rfl).cell 3 _ rfl
        have yl := (HB2.out.box 3 _ _ rfl).lt
        have y0 := (HB2.out.box 3 _ _ rfl).cell 0 _ rfl
        have y1 := (HB2.out.box 3 _ _ rfl).cell 1 _ rfl
        have y2 := (HB2.out.box 3 _ _ rfl).cell 2 _ rfl
        have y3 := (HB2.out.box 3 _ _ rfl).cell 3 _ rfl
        go_wp2_with fail
        go_quiet (fail)
        go_wp2_with fail
        go_roundg (4 - (1 + 1) + 1)
        case measure => omega
        case rel => exact ⟨2, rfl, rfl, by omega, by omega, HB2.out.step ⟨rfl, rfl, rfl, Nat.le_refl _, fun _ _ => rfl⟩⟩
      · rw [show cl 1 2 2 3 2 = 2 from rfl]
        have cl := (HB.out.box 0 _ _ rfl).lt
        have c0 := (HB.out.box 0 _ _ rfl).cell 0 _ rfl
        have c1 := (HB.out.box 0 _ _ rfl).cell 1 _ rfl
        go_wp2_with fail
        refine (K2.out _).mono ?_
        rintro r w5 ⟨rfl, hb⟩
        have HB2 : Hid (_) := HB.out.step hb
        clear hb HB K0 K1 K2 K3
        clear cl c0 c1
        have cl := (HB2.out.box 0 _ _ rfl).lt
        have c0 := (HB2.out.box 0 _ _ rfl).cell 0 _ rfl
        have c1 := (HB2.out.box 0 _ _ rfl).cell 1 _ rfl
        have dl := (HB2.out.box 1 _ _ rfl).lt
        have d0 := (HB2.out.box 1 _ _ rfl).cell 0 _ rfl
        have d1 := (HB2.out.box 1 _ _ rfl).cell 1 _ rfl
        have xl := (HB2.out.box 2 _ _ rfl).lt
        have x0 := (HB2.out.box 2 _ _ rfl).cell 0 _ rfl
        have x1 := (HB2.out.box 2 _ _ rfl).cell 1 _ rfl
        have x2 := (HB2.out.box 2 _ _ rfl).cell 2 _ rfl
        have x3 := (HB2.out.box 2 _ _ rfl).cell 3 _ rfl
        have yl := (HB2.out.box 3 _ _ rfl).lt
        have y0 := (HB2.out.box 3 _ _ rfl).cell 0 _ rfl
        have y1 := (HB2.out.box 3 _ _ rfl).cell 1 _ rfl
        have y2 := (HB2.out.box 3 _ _ rfl).cell 2 _ rfl
        have y3 := (HB2.out.box 3 _ _ rfl).cell 3 _ rfl
        go_wp2_with fail
        go_quiet (fail)
        go_wp2_with fail
        go_roundg (4 - (2 + 1) + 1)
        case measure => omega
        case rel => exact ⟨3, rfl, rfl, by omega, by omega, HB2.out.step ⟨rfl, rfl, rfl, Nat.le_refl _, fun _ _ => rfl⟩⟩
      · rw [show cl 1 2 2 3 3 = 2 from rfl]
        have cl := (HB.out.box 0 _ _ rfl).lt
        have c0 := (HB.out.box 0 _ _ rfl).cell 0 _ rfl
        have c1 := (HB.out.box 0 _ _ rfl).cell 1 _ rfl
        go_wp2_with fail
        refine (K3.out _).mono ?_
        rintro r w5 ⟨rfl, hb⟩
        have HB2 : Hid (_) := HB.out.step hb
        clear hb HB K0 K1 K2 K3
        clear cl c0 c1
        have cl := (HB2.out.box 0 _ _ rfl).lt
        have c0 := (HB2.out.box 0 _ _ rfl).cell 0 _ rfl
        have c1 := (HB2.out.box 0 _ _ rfl).cell 1 _ rfl
        have dl := (HB2.out.box 1 _ _ rfl).lt
        have d0 := (HB2.out.box 1 _ _ rfl).cell 0 _ rfl
        have d1 := (HB2.out.box 1 _ _ rfl).cell 1 _ rfl
        have xl := (HB2.out.box 2 _ _ rfl).lt
        have x0 := (HB2.out.box 2 _ _ rfl).cell 0 _ rfl
        have x1 := (HB2.out.box 2 _ _ rfl).cell 1 _ rfl
        have x2 := (HB2.out.box 2 _ _ rfl).cell 2 _ rfl
        have x3 := (HB2.out.box 2 _ _ rfl).cell 3 _ rfl
        have yl := (HB2.out.box 3 _ _ rfl).lt
        have y0 := (HB2.out.box 3 _ _ rfl).cell 0 _ rfl
        have y1 := (HB2.out.box 3 _ _ rfl).cell 1 _ rfl
        have y2 := (HB2.out.box 3 _ _ rfl).cell 2 _ rfl
        have y3 := (HB2.out.box 3 _ _ rfl).cell 3 _ rfl
        go_wp2_with fail
        go_quiet (fail)
        go_wp2_with fail
        go_roundg (4 - (3 + 1) + 1)
        case measure => omega
        case rel => exact ⟨4, rfl, rfl, by omega, by omega, HB2.out.step ⟨rfl, rfl, rfl, Nat.le_refl _, fun _ _ => rfl⟩⟩
    · obtain rfl : j = 4 := by omega
      rw [show cl 1 2 2 3 4 = 3 from rfl]
      clear K0 K1 K2 K3
      obtain ⟨i0, i1⟩ := ix2 true false
      have cl := (HB.out.box 0 _ _ rfl).lt
      have c0 := (HB.out.box 0 _ _ rfl).cell 0 _ rfl
      have c1 := (HB.out.box 0 _ _ rfl).cell 1 _ rfl
      go_wp2_with fail
      go_rounds 3
      go_wp2_with fail
      go_ret
      exact ⟨rfl, (HB.out.alloc _).bel⟩

set_option maxHeartbeats 16000000 in
set_option maxRecDepth 100000 in
theorem own_tt (p q : Int) (w : World) : Calls Try.prog 4 #[.agg #[.bool true, .bool true], .agg #[.int .i32 p, .int .i32 q]] w fun e w' => e = .returned (.bool true) ∧ Below w.heap.size w w' := by
  have B0 : Hid (_) := bxs_two w #[.bool true, .bool true] #[.int .i32 p, .int .i32 q] 22 23
  have CP : Hid (∀ W, Calls Try.prog 7 #[.agg #[.bool true, .bool true], .agg #[.int .i32 p, .int .i32 q]] W fun r w' => r = .returned (.tuple #[.agg #[.int .i32 p, .int .i32 p, .int .i32 q, .int .i32 q], .agg #[.bool true, .bool true, .bool true, .bool true]]) ∧ Below W.heap.size W w') := fun W => supply_any true true p q W
  have K0 : Hid (∀ W, Calls Try.prog 6 #[.agg #[.bool true, .bool true], .int .i64 0] W fun r w' => r = .returned (.tuple #[.int .i64 0, .int .i64 0]) ∧ Below W.heap.size W w') := fun W => source_0 true true W
  have K1 : Hid (∀ W, Calls Try.prog 6 #[.agg #[.bool true, .bool true], .int .i64 1] W fun r w' => r = .returned (.tuple #[.int .i64 0, .int .i64 0]) ∧ Below W.heap.size W w') := fun W => source_1 true true W
  have K2 : Hid (∀ W, Calls Try.prog 6 #[.agg #[.bool true, .bool true], .int .i64 2] W fun r w' => r = .returned (.tuple #[.int .i64 1, .int .i64 0]) ∧ Below W.heap.size W w') := fun W => source_2 true true W
  have K3 : Hid (∀ W, Calls Try.prog 6 #[.agg #[.bool true, .bool true], .int .i64 3] W fun r w' => r = .returned (.tuple #[.int .i64 1, .int .i64 0]) ∧ Below W.heap.size W w') := fun W => source_3 true true W
  go_enter Try.func4, Try.ntmps4
  go_wp2_with fail
  refine (first _).mono ?_
  rintro r w1 ⟨rfl, hb⟩
  have B1 : Hid (_) := B0.out.step hb
  clear hb B0
  have cl := (B1.out.box 0 _ _ rfl).lt
  have c0 := (B1.out.box 0 _ _ rfl).cell 0 _ rfl
  have c1 := (B1.out.box 0 _ _ rfl).cell 1 _ rfl
  have dl := (B1.out.box 1 _ _ rfl).lt
  have d0 := (B1.out.box 1 _ _ rfl).cell 0 _ rfl
  have d1 := (B1.out.box 1 _ _ rfl).cell 1 _ rfl
  go_wp2_with fail
  refine (CP.out _).mono ?_
  rintro r w2 ⟨rfl, hb⟩
  have B2 : Hid (_) := B1.out.step hb
  clear hb B1 CP
  clear cl c0 c1
  clear dl d0 d1
  go_upto_region 5 with (fail)
  obtain ⟨N, W3, hW3, hN3, B3', Z3⟩ := B2.out.new2 #[.int .i32 p, .int .i32 p, .int .i32 q, .int .i32 q] #[.bool true, .bool true, .bool true, .bool true] 29 30
  rw [hW3, hN3]
  have B3 : Hid (_) := B3'
  clear hW3 hN3 B3' B2 Z3
  go_wp2_with fail
  go_loopg [9, 33] (5) (fun g n t wr => ∃ j : Nat, n = .int .i64 (cl 1 2 3 4 j) ∧ t = .int .i64 j ∧ 4 - j < g ∧ j ≤ 4 ∧ Hid (Bxs w [(w.heap.size, [.bool true, .bool true]), (w.heap.size + 1, [.int .i32 p, .int .i32 q]), (N, [.int .i32 p, .int .i32 p, .int .i32 q, .int .i32 q]), (N + 1, [.bool true, .bool true, .bool true, .bool true])] wr))
  case atStart => exact ⟨0, rfl, rfl, by omega, by omega, B3⟩
  case round =>
    obtain ⟨j, rfl, rfl, hg, hj, HB⟩ := hrel
    clear B3
    by_cases hlt : j < 4
    · obtain rfl | rfl | rfl | rfl := cases4 hlt
      · rw [show cl 1 2 3 4 0 = 0 from rfl]
        have cl := (HB.out.box 0 _ _ rfl).lt
        have c0 := (HB.out.box 0 _ _ rfl).cell 0 _ rfl
        have c1 := (HB.out.box 0 _ _ rfl).cell 1 _ rfl
        go_wp2_with fail
        refine (K0.out _).mono ?_
        rintro r w5 ⟨rfl, hb⟩
        have HB2 : Hid (_) := HB.out.step hb
        clear hb HB K0 K1 K2 K3
        clear cl c0 c1
        have cl := (HB2.out.box 0 _ _ rfl).lt
        have c0 := (HB2.out.box 0 _ _ rfl).cell 0 _ rfl
        have c1 := (HB2.out.box 0 _ _ rfl).cell 1 _ rfl
        have dl := (HB2.out.box 1 _ _ rfl).lt
        have d0 := (HB2.out.box 1 _ _ rfl).cell 0 _ rfl
        have d1 := (HB2.out.box 1 _ _ rfl).cell 1 _ rfl
        have xl := (HB2.out.box 2 _ _ rfl).lt
        have x0 := (HB2.out.box 2 _ _ rfl).cell 0 _ rfl
        have x1 := (HB2.out.box 2 _ _ rfl).cell 1 _ rfl
        have x2 := (HB2.out.box 2 _ _ rfl).cell 2 _ rfl
        have x3 := (HB2.out.box 2 _ _ rfl).cell 3 _ rfl
        have yl := (HB2.out.box 3 _ _ rfl).lt
        have y0 := (HB2.out.box 3 _ _ rfl).cell 0 _ rfl
        have y1 := (HB2.out.box 3 _ _ rfl).cell 1 _ rfl
        have y2 := (HB2.out.box 3 _ _ rfl).cell 2 _ rfl
        have y3 := (HB2.out.box 3 _ _ rfl).cell 3 _ rfl
        go_wp2_with fail
        go_quiet (fail)
        go_wp2_with fail
        go_roundg (4 - (0 + 1) + 1)
        case measure => omega
        case rel => exact ⟨1, rfl, rfl, by omega, by omega, HB2.out.step ⟨rfl, rfl, rfl, Nat.le_refl _, fun _ _ => rfl⟩⟩
      · rw [show cl 1 2 3 4 1 = 1 from rfl]
        have cl := (HB.out.box 0 _ _ rfl).lt
        have c0 := (HB.out.box 0 _ _ rfl).cell 0 _ rfl
        have c1 := (HB.out.box 0 _ _ rfl).cell 1 _ rfl
        go_wp2_with fail
        refine (K1.out _).mono ?_
        rintro r w5 ⟨rfl, hb⟩
        have HB2 : Hid (_) := HB.out.step hb
        clear hb HB K0 K1 K2 K3
        clear cl c0 c1
        have cl := (HB2.out.box 0 _ _ rfl).lt
        have c0 := (HB2.out.box 0 _ _ rfl).cell 0 _ rfl
        have c1 := (HB2.out.box 0 _ _ rfl).cell 1 _ rfl
        have dl := (HB2.out.box 1 _ _ rfl).lt
        have d0 := (HB2.out.box 1 _ _ rfl).cell 0 _ rfl
        have d1 := (HB2.out.box 1 _ _ rfl).cell 1 _ rfl
        have xl := (HB2.out.box 2 _ _ rfl).lt
        have x0 := (HB2.out.box 2 _ _ rfl).cell 0 _ rfl
        have x1 := (HB2.out.box 2 _ _ rfl).cell 1 _ rfl
        have x2 := (HB2.out.box 2 _ _ rfl).cell 2 _ rfl
        have x3 := (HB2.out.box 2 _ _ rfl).cell 3 _ rfl
        have yl := (HB2.out.box 3 _ _ rfl).lt
        have y0 := (HB2.out.box 3 _ _ rfl).cell 0 _ rfl
        have y1 := (HB2.out.box 3 _ _ rfl).cell 1 _ rfl
        have y2 := (HB2.out.box 3 _ _ rfl).cell 2 _ rfl
        have y3 := (HB2.out.box 3 _ _ rfl).cell 3 _ rfl
        go_wp2_with fail
        go_quiet (fail)
        go_wp2_with fail
        go_roundg (4 - (1 + 1) + 1)
        case measure => omega
        case rel => exact ⟨2, rfl, rfl, by omega, by omega, HB2.out.step ⟨rfl, rfl, rfl, Nat.le_refl _, fun _ _ => rfl⟩⟩
      · rw [show cl 1 2 3 4 2 = 2 from rfl]
        have cl := (HB.out.box 0 _ _ rfl).lt
        have c0 := (HB.out.box 0 _ _ rfl).cell 0 _ rfl
        have c1 := (HB.out.box 0 _ _ rfl).cell 1 _ rfl
        go_wp2_with fail
        refine (K2.out _).mono ?_
        rintro r w5 ⟨rfl, hb⟩
        have HB2 : Hid (_) := HB.out.step hb
        clear hb HB K0 K1 K2 K3
        clear cl c0 c1
        have cl := (HB2.out.box 0 _ _ rfl).lt
        have c0 := (HB2.out.box 0 _ _ rfl).cell 0 _ rfl
        have c1 := (HB2.out.box 0 _ _ rfl).cell 1 _ rfl
        have dl := (HB2.out.box 1 _ _ rfl).lt
        have d0 := (HB2.out.box 1 _ _ rfl).cell 0 _ rfl
        have d1 := (HB2.out.box 1 _ _ rfl).cell 1 _ rfl
        have xl := (HB2.out.box 2 _ _ rfl).lt
        have x0 := (HB2.out.box 2 _ _ rfl).cell 0 _ rfl
        have x1 := (HB2.out.box 2 _ _ rfl).cell 1 _ rfl
        have x2 := (HB2.out.box 2 _ _ rfl).cell 2 _ rfl
        have x3 := (HB2.out.box 2 _ _ rfl).cell 3 _ rfl
        have yl := (HB2.out.box 3 _ _ rfl).lt
        have y0 := (HB2.out.box 3 _ _ rfl).cell 0 _ rfl
        have y1 := (HB2.out.box 3 _ _ rfl).cell 1 _ rfl
        have y2 := (HB2.out.box 3 _ _ rfl).cell 2 _ rfl
        have y3 := (HB2.out.box 3 _ _ rfl).cell 3 _ rfl
        go_wp2_with fail
        go_quiet (fail)
        go_wp2_with fail
        go_roundg (4 - (2 + 1) + 1)
        case measure => omega
        case rel => exact ⟨3, rfl, rfl, by omega, by omega, HB2.out.step ⟨rfl, rfl, rfl, Nat.le_refl _, fun _ _ => rfl⟩⟩
      · rw [show cl 1 2 3 4 3 = 3 from rfl]
        have cl := (HB.out.box 0 _ _ rfl).lt
        have c0 := (HB.out.box 0 _ _ rfl).cell 0 _ rfl
        have c1 := (HB.out.box 0 _ _ rfl).cell 1 _ rfl
        go_wp2_with fail
        refine (K3.out _).mono ?_
        rintro r w5 ⟨rfl, hb⟩
        have HB2 : Hid (_) := HB.out.step hb
        clear hb HB K0 K1 K2 K3
        clear cl c0 c1
        have cl := (HB2.out.box 0 _ _ rfl).lt
        have c0 := (HB2.out.box 0 _ _ rfl).cell 0 _ rfl
        have c1 := (HB2.out.box 0 _ _ rfl).cell 1 _ rfl
        have dl := (HB2.out.box 1 _ _ rfl).lt
        have d0 := (HB2.out.box 1 _ _ rfl).cell 0 _ rfl
        have d1 := (HB2.out.box 1 _ _ rfl).cell 1 _ rfl
        have xl := (HB2.out.box 2 _ _ rfl).lt
        have x0 := (HB2.out.box 2 _ _ rfl).cell 0 _ rfl
        have x1 := (HB2.out.box 2 _ _ rfl).cell 1 _ rfl
        have x2 := (HB2.out.box 2 _ _ rfl).cell 2 _ rfl
        have x3 := (HB2.out.box 2 _ _ rfl).cell 3 _ rfl
        have yl := (HB2.out.box 3 _ _ rfl).lt
        have y0 := (HB2.out.box 3 _ _ rfl).cell 0 _ rfl
        have y1 := (HB2.out.box 3 _ _ rfl).cell 1 _ rfl
        have y2 := (HB2.out.box 3 _ _ rfl).cell 2 _ rfl
        have y3 := (HB2.out.box 3 _ _ rfl).cell 3 _ rfl
        go_wp2_with fail
        go_quiet (fail)
        go_wp2_with fail
        go_roundg (4 - (3 + 1) + 1)
        case measure => omega
        case rel => exact ⟨4, rfl, rfl, by omega, by omega, HB2.out.step ⟨rfl, rfl, rfl, Nat.le_refl _, fun _ _ => rfl⟩⟩
    · obtain rfl : j = 4 := by omega
      rw [show cl 1 2 3 4 4 = 4 from rfl]
      clear K0 K1 K2 K3
      obtain ⟨i0, i1⟩ := ix2 true true
      have cl := (HB.out.box 0 _ _ rfl).lt
      have c0 := (HB.out.box 0 _ _ rfl).cell 0 _ rfl
      have c1 := (HB.out.box 0 _ _ rfl).cell 1 _ rfl
      go_wp2_with fail
      go_rounds 3
      go_wp2_with fail
      go_ret
      exact ⟨rfl, (HB.out.alloc _).bel⟩

set_option maxRecDepth 100000 in
theorem walk (on0 : Bool) (on1 : Bool) (p0 : Int) (p1 : Int) (w : World) (h_p0 : (Lit.int .i32 p0).wf = true) (h_p1 : (Lit.int .i32 p1).wf = true) :
    Calls Try.prog 4 #[.agg #[.bool on0, .bool on1], .agg #[.int .i32 p0, .int .i32 p1]] w fun e w' => e = .returned (.bool true) ∧ Below w.heap.size w w' := by
  cases on0 <;> cases on1
  · exact own_ff p0 p1 w
  · exact own_ft p0 p1 w
  · exact own_tf p0 p1 w
  · exact own_tt p0 p1 w

/-! ### THE ROW's STEP -/
set_option maxRecDepth 100000 in
theorem lifted (os : Os) (started : os.Started) (H : Type) (enc : TypeId × Value → H) :
    ReturnsInHanded {} Try.checked os 4 .any (Rows.oilOwnSpec.pre6 enc Try.prog Try.f4 Rows.oilOwnRow.domain false) (Rows.oilOwnSpec.post enc Try.prog Try.f4 false true false false) := by
  refine returnsInHanded_of_change_sized (C := Try.checked) own started (by kernel_rfl) Try.func4
    (ChangeSpec.witness6 (enc := enc) (C := Try.checked) false ⟨#[], #[.agg #[.bool false, .bool false], .agg #[.int .i32 0, .int .i32 0]], []⟩ 8 (by kernel_rfl) (by kernel_rfl) (by kernel_rfl) (by kernel_rfl)) ?_
  intro W base args ds gs before hval0 hW hcnd hsz0 _
  have hval : ∀ (j : Nat) t v, Try.f4.params[j]? = some t → args[j]? = some v → Value.okWide Try.prog W .any base t v := hval0
  have hW' := hW
  obtain ⟨p, q, hA0, hV, rfl, hfz, hnd⟩ := hW
  have hA : DataW.TrodAll enc Try.prog W 0 (fun _ => true) true Try.f4.params.toList args.toList ds p := hA0
  rw [Try.params4] at hA hval
  obtain ⟨v_0, vs_0, d_0, ds_0, p_0, q_0, hargs, rfl, rfl, h_0, r_0⟩ := trodAll_cons hA
  obtain ⟨v_1, vs_1, d_1, ds_1, p_1, q_1, rfl, rfl, rfl, h_1, r_1⟩ := trodAll_cons r_0
  obtain ⟨rfl, rfl, rfl⟩ := trodAll_nil r_1
  obtain rfl : args = #[v_0, v_1] := by cases args; simp_all
  obtain ⟨rfl, rfl⟩ := trodVars_none hV
  have hz_0 : Light Try.prog 22 d_0 := light_of hsz0 (j := 0) (by first | rfl | (rw [Try.params4]; rfl)) rfl
  have k_0 := h_0
  have lt_0 : ∀ x ∈ p_0, x.block < W.heap.size := by obtain ⟨m, hm⟩ := k_0; exact DataW.trod_lt m _ _ _ hm
  obtain ⟨cs_0, rfl, _⟩ := okWide_array Try.underlying22 (hval 0 22 v_0 rfl rfl)
  obtain ⟨on0, on1, e_0⟩ := (by obtain ⟨fuel, hf⟩ := h_0; exact open22 hf hz_0 : ∃ on0 : Bool, ∃ on1 : Bool, cs_0.toList = [.bool on0, .bool on1])
  obtain rfl : cs_0 = #[.bool on0, .bool on1] := by cases cs_0; simp_all
  clear e_0
  have hz_1 : Light Try.prog 23 d_1 := light_of hsz0 (j := 1) (by first | rfl | (rw [Try.params4]; rfl)) rfl
  have k_1 := h_1
  have lt_1 : ∀ x ∈ p_1, x.block < W.heap.size := by obtain ⟨m, hm⟩ := k_1; exact DataW.trod_lt m _ _ _ hm
  obtain ⟨cs_1, rfl, _⟩ := okWide_array Try.underlying23 (hval 1 23 v_1 rfl rfl)
  obtain ⟨p0, p1, e_1, h_p0, h_p1⟩ := (by obtain ⟨fuel, hf⟩ := h_1; exact open23 hf hz_1 : ∃ p0 : Int, ∃ p1 : Int, cs_1.toList = [.int .i32 p0, .int .i32 p1] ∧ (Lit.int .i32 p0).wf = true ∧ (Lit.int .i32 p1).wf = true)
  obtain rfl : cs_1 = #[.int .i32 p0, .int .i32 p1] := by cases cs_1; simp_all
  clear e_1
  clear hA0 hval0
  refine (walk on0 on1 p0 p1 W h_p0 h_p1).mono fun e W' ⟨he, bel⟩ => ?_
  subst he
  exact ⟨_, rfl, _, _, _, [], _, [], hW', trodAll_mk1 (shut_bool Try.underlying4 _), (trodAll_cons_mk (Below.trod laidOut (by kernel_rfl) (of_decide_eq_true (by kernel_rfl)) k_0 bel lt_0) (trodAll_cons_mk (Below.trod laidOut (by kernel_rfl) (of_decide_eq_true (by kernel_rfl)) k_1 bel lt_1) trodAll_mk0)), rfl, bel.frame _, fun h => by cases h⟩

theorem over : Rows.oilOwnRow.holds Try.pinned (OpenSpec.ofChange Rows.oilOwnSpec) :=
  OpenClaim.holds_of_wide 4 Try.f4 rfl rfl rfl rfl rfl rfl rfl ⟨rfl, rfl, rfl, rfl, rfl⟩ rfl rfl rfl rfl rfl (by kernel_rfl) Try.func4 (by kernel_rfl)
    (of_decide_eq_true (by kernel_rfl)) (by unfold Func.isWrapper; first | (rw [if_pos (by decide +kernel)]; kernel_rfl) | (rw [if_neg (by decide +kernel)]; exact ⟨rfl, rfl⟩))
    (fun os started H enc _ => lifted os started H enc)


end Go.Proofs.Ytebfjlgmljfnlaa.oilOwn
namespace Go.Proofs.Ytebfjlgmljfnlaa
/-- THE STATEMENT -/
theorem oilOwn_holds : Rows.OilOwnSaid := oilOwn.over
#print axioms oilOwn_holds
end Go.Proofs.Ytebfjlgmljfnlaa
