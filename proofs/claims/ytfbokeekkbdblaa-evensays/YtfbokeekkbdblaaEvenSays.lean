/-
  Whatever is handed in, the law EvenSays returns true: all calls of package even answer what the document says. No condition.
-/
import Derived.Test.YtfbokeekkbdblaaREvenStp
import Derived.Test.YtfbokeekkbdblaaAgrEq
import Derived.Test.YtfbokeekkbdblaaOpenZ
import Derived.Laws.StructEq
import Derived.ProofKit
namespace Go.Proofs.Ytfbokeekkbdblaa.evenSays
open Go.ChangeShapes Go.WideShapes Go.ChangeAt Go.RowKit
set_option linter.unusedVariables false

theorem own : ownKnob Try.prog.godebug = none := by kernel_rfl
theorem laidOut : laidOutB Try.prog = true := by kernel_rfl

theorem list4 {l : List Value} (h : l.length = 4) : ∃ c0 c1 c2 c3, l = [c0, c1, c2, c3] := by
  match l, h with
  | [c0, c1, c2, c3], _ => exact ⟨c0, c1, c2, c3, rfl⟩

theorem open22 {H : Type} {enc : TypeId × Value → H} {w : World} {base : Nat} {spare : Nat → Bool} {held : Bool} {fuel : Nat} {cs : List Value} {x : DataW H × List MemPlace} (h : DataW.trod enc Try.prog w base spare held fuel 22 cs = some x) (hz : Light Try.prog 22 x.1) :
    ∃ v0 : Int, ∃ v1 : Int, ∃ v2 : Int, ∃ v3 : Int, cs = [.int .i32 v0, .int .i32 v1, .int .i32 v2, .int .i32 v3] ∧ (Lit.int .i32 v0).wf = true ∧ (Lit.int .i32 v1).wf = true ∧ (Lit.int .i32 v2).wf = true ∧ (Lit.int .i32 v3).wf = true := by
  obtain ⟨hl, hf⟩ := trod_elem_z Try.underlying22 h hz
  rw [show Try.prog.cellsOf 22 = 4 from by kernel_rfl] at hl
  obtain ⟨c0, c1, c2, c3, rfl⟩ := list4 hl
  obtain ⟨n0, y0, h0, z0⟩ := hf 0 (by decide)
  replace h0 : DataW.trod enc Try.prog w base spare held n0 21 (([c0, c1, c2, c3] : List Value).drop (0 * Try.prog.cellsOf 21) |>.take (Try.prog.cellsOf 21)) = some y0 := h0
  rw [show Try.prog.cellsOf 21 = 1 from by kernel_rfl] at h0
  replace h0 : DataW.trod enc Try.prog w base spare held n0 21 [c0] = some y0 := h0
  obtain ⟨n1, y1, h1, z1⟩ := hf 1 (by decide)
  replace h1 : DataW.trod enc Try.prog w base spare held n1 21 (([c0, c1, c2, c3] : List Value).drop (1 * Try.prog.cellsOf 21) |>.take (Try.prog.cellsOf 21)) = some y1 := h1
  rw [show Try.prog.cellsOf 21 = 1 from by kernel_rfl] at h1
  replace h1 : DataW.trod enc Try.prog w base spare held n1 21 [c1] = some y1 := h1
  obtain ⟨n2, y2, h2, z2⟩ := hf 2 (by decide)
  replace h2 : DataW.trod enc Try.prog w base spare held n2 21 (([c0, c1, c2, c3] : List Value).drop (2 * Try.prog.cellsOf 21) |>.take (Try.prog.cellsOf 21)) = some y2 := h2
  rw [show Try.prog.cellsOf 21 = 1 from by kernel_rfl] at h2
  replace h2 : DataW.trod enc Try.prog w base spare held n2 21 [c2] = some y2 := h2
  obtain ⟨n3, y3, h3, z3⟩ := hf 3 (by decide)
  replace h3 : DataW.trod enc Try.prog w base spare held n3 21 (([c0, c1, c2, c3] : List Value).drop (3 * Try.prog.cellsOf 21) |>.take (Try.prog.cellsOf 21)) = some y3 := h3
  rw [show Try.prog.cellsOf 21 = 1 from by kernel_rfl] at h3
  replace h3 : DataW.trod enc Try.prog w base spare held n3 21 [c3] = some y3 := h3
  obtain ⟨x0, e0, _, f0_0⟩ := DataW.trod_int Try.underlying21 h0
  simp only [List.cons.injEq, and_true] at e0
  obtain rfl := e0
  obtain ⟨x1, e1, _, f1_0⟩ := DataW.trod_int Try.underlying21 h1
  simp only [List.cons.injEq, and_true] at e1
  obtain rfl := e1
  obtain ⟨x2, e2, _, f2_0⟩ := DataW.trod_int Try.underlying21 h2
  simp only [List.cons.injEq, and_true] at e2
  obtain rfl := e2
  obtain ⟨x3, e3, _, f3_0⟩ := DataW.trod_int Try.underlying21 h3
  simp only [List.cons.injEq, and_true] at e3
  obtain rfl := e3
  exact ⟨x0, x1, x2, x3, rfl, f0_0, f1_0, f2_0, f3_0⟩

theorem open23 {H : Type} {enc : TypeId × Value → H} {w : World} {base : Nat} {spare : Nat → Bool} {held : Bool} {fuel : Nat} {cs : List Value} {x : DataW H × List MemPlace} (h : DataW.trod enc Try.prog w base spare held fuel 23 cs = some x) (hz : Light Try.prog 23 x.1) :
    ∃ v0 : Int, ∃ v1 : Int, ∃ v2 : Int, ∃ v3 : Int, cs = [.int .i64 v0, .int .i64 v1, .int .i64 v2, .int .i64 v3] ∧ (Lit.int .i64 v0).wf = true ∧ (Lit.int .i64 v1).wf = true ∧ (Lit.int .i64 v2).wf = true ∧ (Lit.int .i64 v3).wf = true := by
  obtain ⟨hl, hf⟩ := trod_elem_z Try.underlying23 h hz
  rw [show Try.prog.cellsOf 23 = 4 from by kernel_rfl] at hl
  obtain ⟨c0, c1, c2, c3, rfl⟩ := list4 hl
  obtain ⟨n0, y0, h0, z0⟩ := hf 0 (by decide)
  replace h0 : DataW.trod enc Try.prog w base spare held n0 3 (([c0, c1, c2, c3] : List Value).drop (0 * Try.prog.cellsOf 3) |>.take (Try.prog.cellsOf 3)) = some y0 := h0
  rw [show Try.prog.cellsOf 3 = 1 from by kernel_rfl] at h0
  replace h0 : DataW.trod enc Try.prog w base spare held n0 3 [c0] = some y0 := h0
  obtain ⟨n1, y1, h1, z1⟩ := hf 1 (by decide)
  replace h1 : DataW.trod enc Try.prog w base spare held n1 3 (([c0, c1, c2, c3] : List Value).drop (1 * Try.prog.cellsOf 3) |>.take (Try.prog.cellsOf 3)) = some y1 := h1
  rw [show Try.prog.cellsOf 3 = 1 from by kernel_rfl] at h1
  replace h1 : DataW.trod enc Try.prog w base spare held n1 3 [c1] = some y1 := h1
  obtain ⟨n2, y2, h2, z2⟩ := hf 2 (by decide)
  replace h2 : DataW.trod enc Try.prog w base spare held n2 3 (([c0, c1, c2, c3] : List Value).drop (2 * Try.prog.cellsOf 3) |>.take (Try.prog.cellsOf 3)) = some y2 := h2
  rw [show Try.prog.cellsOf 3 = 1 from by kernel_rfl] at h2
  replace h2 : DataW.trod enc Try.prog w base spare held n2 3 [c2] = some y2 := h2
  obtain ⟨n3, y3, h3, z3⟩ := hf 3 (by decide)
  replace h3 : DataW.trod enc Try.prog w base spare held n3 3 (([c0, c1, c2, c3] : List Value).drop (3 * Try.prog.cellsOf 3) |>.take (Try.prog.cellsOf 3)) = some y3 := h3
  rw [show Try.prog.cellsOf 3 = 1 from by kernel_rfl] at h3
  replace h3 : DataW.trod enc Try.prog w base spare held n3 3 [c3] = some y3 := h3
  obtain ⟨x0, e0, _, f0_0⟩ := DataW.trod_int Try.underlying3 h0
  simp only [List.cons.injEq, and_true] at e0
  obtain rfl := e0
  obtain ⟨x1, e1, _, f1_0⟩ := DataW.trod_int Try.underlying3 h1
  simp only [List.cons.injEq, and_true] at e1
  obtain rfl := e1
  obtain ⟨x2, e2, _, f2_0⟩ := DataW.trod_int Try.underlying3 h2
  simp only [List.cons.injEq, and_true] at e2
  obtain rfl := e2
  obtain ⟨x3, e3, _, f3_0⟩ := DataW.trod_int Try.underlying3 h3
  simp only [List.cons.injEq, and_true] at e3
  obtain rfl := e3
  exact ⟨x0, x1, x2, x3, rfl, f0_0, f1_0, f2_0, f3_0⟩


theorem bxs_three (w : World) (a b c : Array Value) (t1 t2 t3 : TypeId) : Bxs w [(w.heap.size, a.toList), (w.heap.size + 1, b.toList), (w.heap.size + 1 + 1, c.toList)] (((w.alloc (.cells a t1)).alloc (.cells b t2)).alloc (.cells c t3)) := by
  have := (((bxs_nil w).push a t1).push b t2).push c t3
  simp only [lay_size] at this
  exact this

set_option maxHeartbeats 16000000 in
set_option maxRecDepth 100000 in
theorem walk_bad (o0 o1 o2 o3 p0 p1 p2 p3 a b c d n m t0 t1 t2 t3 : Int) (w : World)
    (CE : Hid (∀ W, Calls Try.prog 6 #[.agg #[.int .i32 o0, .int .i32 o1, .int .i32 o2, .int .i32 o3], .agg #[.int .i64 a, .int .i64 b, .int .i64 c, .int .i64 d], .int .i64 n, .int .i32 m] W fun r w' => r = .returned (.int .i64 1) ∧ Below W.heap.size W w'))
    (CK : Hid (∀ W, Calls Try.prog 8 #[.agg #[.int .i32 o0, .int .i32 o1, .int .i32 o2, .int .i32 o3], .agg #[.int .i64 a, .int .i64 b, .int .i64 c, .int .i64 d], .int .i64 n, .int .i32 m] W fun r w' => r = .returned (.int .i64 1) ∧ Below W.heap.size W w'))
    (CS : Hid (∀ W, Calls Try.prog 7 #[.agg #[.int .i32 o0, .int .i32 o1, .int .i32 o2, .int .i32 o3], .agg #[.int .i32 p0, .int .i32 p1, .int .i32 p2, .int .i32 p3], .agg #[.int .i64 a, .int .i64 b, .int .i64 c, .int .i64 d], .int .i64 n, .int .i32 m] W fun r w' => r = .returned (.tuple #[.agg #[.int .i32 0, .int .i32 0, .int .i32 0, .int .i32 0], .int .i64 1]) ∧ Below W.heap.size W w'))
    (CT : Hid (∀ W, Calls Try.prog 9 #[.agg #[.int .i32 o0, .int .i32 o1, .int .i32 o2, .int .i32 o3], .agg #[.int .i32 p0, .int .i32 p1, .int .i32 p2, .int .i32 p3]] W fun r w' => r = .returned (.agg #[.int .i32 t0, .int .i32 t1, .int .i32 t2, .int .i32 t3]) ∧ Below W.heap.size W w'))
    (CR : Hid (∀ W, Calls Try.prog 10 #[.agg #[.int .i32 o0, .int .i32 o1, .int .i32 o2, .int .i32 o3], .agg #[.int .i32 p0, .int .i32 p1, .int .i32 p2, .int .i32 p3]] W fun r w' => r = .returned (.agg #[.int .i32 t0, .int .i32 t1, .int .i32 t2, .int .i32 t3]) ∧ Below W.heap.size W w')) :
    Calls Try.prog 3 #[.agg #[.int .i32 o0, .int .i32 o1, .int .i32 o2, .int .i32 o3], .agg #[.int .i32 p0, .int .i32 p1, .int .i32 p2, .int .i32 p3], .agg #[.int .i64 a, .int .i64 b, .int .i64 c, .int .i64 d], .int .i64 n, .int .i32 m] w fun e w' => e = .returned (.bool true) ∧ Below w.heap.size w w' := by
  have B0 : Hid (_) := bxs_three w #[.int .i32 o0, .int .i32 o1, .int .i32 o2, .int .i32 o3] #[.int .i32 p0, .int .i32 p1, .int .i32 p2, .int .i32 p3] #[.int .i64 a, .int .i64 b, .int .i64 c, .int .i64 d] 22 22 23
  have Q1 : Hid (_) := fun W => eq4i t0 t1 t2 t3 W
  have Q2 : Hid (_) := fun W => eq4i 0 0 0 0 W
  go_enter Try.func3, Try.ntmps3
  go_wp2_with fail
  refine (CE.out _).mono ?_
  rintro r w1 ⟨rfl, hb⟩
  have B1 : Hid (_) := B0.out.step hb
  clear hb B0 CE
  have c_l := (B1.out.box 0 _ _ rfl).lt
  have c_0 := (B1.out.box 0 _ _ rfl).cell 0 _ rfl
  have c_1 := (B1.out.box 0 _ _ rfl).cell 1 _ rfl
  have c_2 := (B1.out.box 0 _ _ rfl).cell 2 _ rfl
  have c_3 := (B1.out.box 0 _ _ rfl).cell 3 _ rfl
  have d_l := (B1.out.box 1 _ _ rfl).lt
  have d_0 := (B1.out.box 1 _ _ rfl).cell 0 _ rfl
  have d_1 := (B1.out.box 1 _ _ rfl).cell 1 _ rfl
  have d_2 := (B1.out.box 1 _ _ rfl).cell 2 _ rfl
  have d_3 := (B1.out.box 1 _ _ rfl).cell 3 _ rfl
  have e_l := (B1.out.box 2 _ _ rfl).lt
  have e_0 := (B1.out.box 2 _ _ rfl).cell 0 _ rfl
  have e_1 := (B1.out.box 2 _ _ rfl).cell 1 _ rfl
  have e_2 := (B1.out.box 2 _ _ rfl).cell 2 _ rfl
  have e_3 := (B1.out.box 2 _ _ rfl).cell 3 _ rfl
  go_wp2_with fail
  refine (CS.out _).mono ?_
  rintro r w2 ⟨rfl, hb⟩
  have B2 : Hid (_) := B1.out.step hb
  clear hb B1 CS
  clear c_l c_0 c_1 c_2 c_3
  clear d_l d_0 d_1 d_2 d_3
  clear e_l e_0 e_1 e_2 e_3
  go_upto_region 3 with (fail)
  obtain ⟨N, W3, hW3, hN3, B3', Z3⟩ := B2.out.new #[.int .i32 0, .int .i32 0, .int .i32 0, .int .i32 0] 22
  rw [hW3, hN3]
  have B3 : Hid (Bxs w [(w.heap.size, [.int .i32 o0, .int .i32 o1, .int .i32 o2, .int .i32 o3]), (w.heap.size + 1, [.int .i32 p0, .int .i32 p1, .int .i32 p2, .int .i32 p3]), (w.heap.size + 1 + 1, [.int .i64 a, .int .i64 b, .int .i64 c, .int .i64 d]), (N, [.int .i32 0, .int .i32 0, .int .i32 0, .int .i32 0])] W3) := B3'
  clear hW3 hN3 B3' B2 Z3
  have c_l := (B3.out.box 0 _ _ rfl).lt
  have c_0 := (B3.out.box 0 _ _ rfl).cell 0 _ rfl
  have c_1 := (B3.out.box 0 _ _ rfl).cell 1 _ rfl
  have c_2 := (B3.out.box 0 _ _ rfl).cell 2 _ rfl
  have c_3 := (B3.out.box 0 _ _ rfl).cell 3 _ rfl
  have d_l := (B3.out.box 1 _ _ rfl).lt
  have d_0 := (B3.out.box 1 _ _ rfl).cell 0 _ rfl
  have d_1 := (B3.out.box 1 _ _ rfl).cell 1 _ rfl
  have d_2 := (B3.out.box 1 _ _ rfl).cell 2 _ rfl
  have d_3 := (B3.out.box 1 _ _ rfl).cell 3 _ rfl
  have e_l := (B3.out.box 2 _ _ rfl).lt
  have e_0 := (B3.out.box 2 _ _ rfl).cell 0 _ rfl
  have e_1 := (B3.out.box 2 _ _ rfl).cell 1 _ rfl
  have e_2 := (B3.out.box 2 _ _ rfl).cell 2 _ rfl
  have e_3 := (B3.out.box 2 _ _ rfl).cell 3 _ rfl
  have hq := Q1.out
  go_region_held3 (fun w' => (w'.cell? ⟨w.heap.size, 0, none⟩ = some (.int .i32 o0) ∧ w'.cell? ⟨w.heap.size, 1, none⟩ = some (.int .i32 o1) ∧ w'.cell? ⟨w.heap.size, 2, none⟩ = some (.int .i32 o2) ∧ w'.cell? ⟨w.heap.size, 3, none⟩ = some (.int .i32 o3)) ∧ (w'.cell? ⟨w.heap.size + 1, 0, none⟩ = some (.int .i32 p0) ∧ w'.cell? ⟨w.heap.size + 1, 1, none⟩ = some (.int .i32 p1) ∧ w'.cell? ⟨w.heap.size + 1, 2, none⟩ = some (.int .i32 p2) ∧ w'.cell? ⟨w.heap.size + 1, 3, none⟩ = some (.int .i32 p3)) ∧ (w'.cell? ⟨w.heap.size + 1 + 1, 0, none⟩ = some (.int .i64 a) ∧ w'.cell? ⟨w.heap.size + 1 + 1, 1, none⟩ = some (.int .i64 b) ∧ w'.cell? ⟨w.heap.size + 1 + 1, 2, none⟩ = some (.int .i64 c) ∧ w'.cell? ⟨w.heap.size + 1 + 1, 3, none⟩ = some (.int .i64 d))) (go_keep) (first | (go_at_call 8; refine (CK.out _).mono ?_; rintro r w5 ⟨rfl, hb⟩; have B5 : Hid (Bxs w [(w.heap.size, [.int .i32 o0, .int .i32 o1, .int .i32 o2, .int .i32 o3]), (w.heap.size + 1, [.int .i32 p0, .int .i32 p1, .int .i32 p2, .int .i32 p3]), (w.heap.size + 1 + 1, [.int .i64 a, .int .i64 b, .int .i64 c, .int .i64 d]), (N, [.int .i32 0, .int .i32 0, .int .i32 0, .int .i32 0])] w5) := B3.out.drew.step hb; have a_l := (B5.out.box 0 _ _ rfl).lt; have a_0 := (B5.out.box 0 _ _ rfl).cell 0 _ rfl; have a_1 := (B5.out.box 0 _ _ rfl).cell 1 _ rfl; have a_2 := (B5.out.box 0 _ _ rfl).cell 2 _ rfl; have a_3 := (B5.out.box 0 _ _ rfl).cell 3 _ rfl; have b_l := (B5.out.box 1 _ _ rfl).lt; have b_0 := (B5.out.box 1 _ _ rfl).cell 0 _ rfl; have b_1 := (B5.out.box 1 _ _ rfl).cell 1 _ rfl; have b_2 := (B5.out.box 1 _ _ rfl).cell 2 _ rfl; have b_3 := (B5.out.box 1 _ _ rfl).cell 3 _ rfl; have c_l := (B5.out.box 2 _ _ rfl).lt; have c_0 := (B5.out.box 2 _ _ rfl).cell 0 _ rfl; have c_1 := (B5.out.box 2 _ _ rfl).cell 1 _ rfl; have c_2 := (B5.out.box 2 _ _ rfl).cell 2 _ rfl; have c_3 := (B5.out.box 2 _ _ rfl).cell 3 _ rfl; have d_l := (B5.out.box 3 _ _ rfl).lt; have d_0 := (B5.out.box 3 _ _ rfl).cell 0 _ rfl; have d_1 := (B5.out.box 3 _ _ rfl).cell 1 _ rfl; have d_2 := (B5.out.box 3 _ _ rfl).cell 2 _ rfl; have d_3 := (B5.out.box 3 _ _ rfl).cell 3 _ rfl; clear hb) | (go_at_call 9; refine (CT.out _).mono ?_; rintro r w6 ⟨rfl, hb⟩; have B6 : Hid (Bxs w [(w.heap.size, [.int .i32 o0, .int .i32 o1, .int .i32 o2, .int .i32 o3]), (w.heap.size + 1, [.int .i32 p0, .int .i32 p1, .int .i32 p2, .int .i32 p3]), (w.heap.size + 1 + 1, [.int .i64 a, .int .i64 b, .int .i64 c, .int .i64 d]), (N, [.int .i32 0, .int .i32 0, .int .i32 0, .int .i32 0])] w6) := (by first | exact B7.out.step hb | exact B5.out.step hb); have a_l := (B6.out.box 0 _ _ rfl).lt; have a_0 := (B6.out.box 0 _ _ rfl).cell 0 _ rfl; have a_1 := (B6.out.box 0 _ _ rfl).cell 1 _ rfl; have a_2 := (B6.out.box 0 _ _ rfl).cell 2 _ rfl; have a_3 := (B6.out.box 0 _ _ rfl).cell 3 _ rfl; have b_l := (B6.out.box 1 _ _ rfl).lt; have b_0 := (B6.out.box 1 _ _ rfl).cell 0 _ rfl; have b_1 := (B6.out.box 1 _ _ rfl).cell 1 _ rfl; have b_2 := (B6.out.box 1 _ _ rfl).cell 2 _ rfl; have b_3 := (B6.out.box 1 _ _ rfl).cell 3 _ rfl; have c_l := (B6.out.box 2 _ _ rfl).lt; have c_0 := (B6.out.box 2 _ _ rfl).cell 0 _ rfl; have c_1 := (B6.out.box 2 _ _ rfl).cell 1 _ rfl; have c_2 := (B6.out.box 2 _ _ rfl).cell 2 _ rfl; have c_3 := (B6.out.box 2 _ _ rfl).cell 3 _ rfl; have d_l := (B6.out.box 3 _ _ rfl).lt; have d_0 := (B6.out.box 3 _ _ rfl).cell 0 _ rfl; have d_1 := (B6.out.box 3 _ _ rfl).cell 1 _ rfl; have d_2 := (B6.out.box 3 _ _ rfl).cell 2 _ rfl; have d_3 := (B6.out.box 3 _ _ rfl).cell 3 _ rfl; clear hb) | (go_at_call 10; refine (CR.out _).mono ?_; rintro r w7 ⟨rfl, hb⟩; have B7 : Hid (Bxs w [(w.heap.size, [.int .i32 o0, .int .i32 o1, .int .i32 o2, .int .i32 o3]), (w.heap.size + 1, [.int .i32 p0, .int .i32 p1, .int .i32 p2, .int .i32 p3]), (w.heap.size + 1 + 1, [.int .i64 a, .int .i64 b, .int .i64 c, .int .i64 d]), (N, [.int .i32 0, .int .i32 0, .int .i32 0, .int .i32 0])] w7) := (by first | exact B6.out.step hb | exact B5.out.step hb); have a_l := (B7.out.box 0 _ _ rfl).lt; have a_0 := (B7.out.box 0 _ _ rfl).cell 0 _ rfl; have a_1 := (B7.out.box 0 _ _ rfl).cell 1 _ rfl; have a_2 := (B7.out.box 0 _ _ rfl).cell 2 _ rfl; have a_3 := (B7.out.box 0 _ _ rfl).cell 3 _ rfl; have b_l := (B7.out.box 1 _ _ rfl).lt; have b_0 := (B7.out.box 1 _ _ rfl).cell 0 _ rfl; have b_1 := (B7.out.box 1 _ _ rfl).cell 1 _ rfl; have b_2 := (B7.out.box 1 _ _ rfl).cell 2 _ rfl; have b_3 := (B7.out.box 1 _ _ rfl).cell 3 _ rfl; have c_l := (B7.out.box 2 _ _ rfl).lt; have c_0 := (B7.out.box 2 _ _ rfl).cell 0 _ rfl; have c_1 := (B7.out.box 2 _ _ rfl).cell 1 _ rfl; have c_2 := (B7.out.box 2 _ _ rfl).cell 2 _ rfl; have c_3 := (B7.out.box 2 _ _ rfl).cell 3 _ rfl; have d_l := (B7.out.box 3 _ _ rfl).lt; have d_0 := (B7.out.box 3 _ _ rfl).cell 0 _ rfl; have d_1 := (B7.out.box 3 _ _ rfl).cell 1 _ rfl; have d_2 := (B7.out.box 3 _ _ rfl).cell 2 _ rfl; have d_3 := (B7.out.box 3 _ _ rfl).cell 3 _ rfl; clear hb))
  clear hq
  have hq2 := Q2.out
  go_wp2_with fail
  go_ret
  exact ⟨rfl, B7.out.bel⟩

set_option maxHeartbeats 16000000 in
set_option maxRecDepth 100000 in
theorem walk_ok (o0 o1 o2 o3 p0 p1 p2 p3 a b c d n m x0 x1 x2 x3 t0 t1 t2 t3 : Int) (w : World)
    (CE : Hid (∀ W, Calls Try.prog 6 #[.agg #[.int .i32 o0, .int .i32 o1, .int .i32 o2, .int .i32 o3], .agg #[.int .i64 a, .int .i64 b, .int .i64 c, .int .i64 d], .int .i64 n, .int .i32 m] W fun r w' => r = .returned (.int .i64 0) ∧ Below W.heap.size W w'))
    (CK : Hid (∀ W, Calls Try.prog 8 #[.agg #[.int .i32 o0, .int .i32 o1, .int .i32 o2, .int .i32 o3], .agg #[.int .i64 a, .int .i64 b, .int .i64 c, .int .i64 d], .int .i64 n, .int .i32 m] W fun r w' => r = .returned (.int .i64 0) ∧ Below W.heap.size W w'))
    (CS : Hid (∀ W, Calls Try.prog 7 #[.agg #[.int .i32 o0, .int .i32 o1, .int .i32 o2, .int .i32 o3], .agg #[.int .i32 p0, .int .i32 p1, .int .i32 p2, .int .i32 p3], .agg #[.int .i64 a, .int .i64 b, .int .i64 c, .int .i64 d], .int .i64 n, .int .i32 m] W fun r w' => r = .returned (.tuple #[.agg #[.int .i32 x0, .int .i32 x1, .int .i32 x2, .int .i32 x3], .int .i64 0]) ∧ Below W.heap.size W w'))
    (CO : Hid (∀ W, Calls Try.prog 11 #[.agg #[.int .i32 o0, .int .i32 o1, .int .i32 o2, .int .i32 o3], .agg #[.int .i32 p0, .int .i32 p1, .int .i32 p2, .int .i32 p3], .agg #[.int .i64 a, .int .i64 b, .int .i64 c, .int .i64 d], .int .i64 n, .int .i32 m] W fun r w' => r = .returned (.agg #[.int .i32 x0, .int .i32 x1, .int .i32 x2, .int .i32 x3]) ∧ Below W.heap.size W w'))
    (CT : Hid (∀ W, Calls Try.prog 9 #[.agg #[.int .i32 o0, .int .i32 o1, .int .i32 o2, .int .i32 o3], .agg #[.int .i32 p0, .int .i32 p1, .int .i32 p2, .int .i32 p3]] W fun r w' => r = .returned (.agg #[.int .i32 t0, .int .i32 t1, .int .i32 t2, .int .i32 t3]) ∧ Below W.heap.size W w'))
    (CR : Hid (∀ W, Calls Try.prog 10 #[.agg #[.int .i32 o0, .int .i32 o1, .int .i32 o2, .int .i32 o3], .agg #[.int .i32 p0, .int .i32 p1, .int .i32 p2, .int .i32 p3]] W fun r w' => r = .returned (.agg #[.int .i32 t0, .int .i32 t1, .int .i32 t2, .int .i32 t3]) ∧ Below W.heap.size W w')) :
    Calls Try.prog 3 #[.agg #[.int .i32 o0, .int .i32 o1, .int .i32 o2, .int .i32 o3], .agg #[.int .i32 p0, .int .i32 p1, .int .i32 p2, .int .i32 p3], .agg #[.int .i64 a, .int .i64 b, .int .i64 c, .int .i64 d], .int .i64 n, .int .i32 m] w fun e w' => e = .returned (.bool true) ∧ Below w.heap.size w w' := by
  have B0 : Hid (_) := bxs_three w #[.int .i32 o0, .int .i32 o1, .int .i32 o2, .int .i32 o3] #[.int .i32 p0, .int .i32 p1, .int .i32 p2, .int .i32 p3] #[.int .i64 a, .int .i64 b, .int .i64 c, .int .i64 d] 22 22 23
  have Q1 : Hid (_) := fun W => eq4i t0 t1 t2 t3 W
  have Q2 : Hid (_) := fun W => eq4i x0 x1 x2 x3 W
  go_enter Try.func3, Try.ntmps3
  go_wp2_with fail
  refine (CE.out _).mono ?_
  rintro r w1 ⟨rfl, hb⟩
  have B1 : Hid (_) := B0.out.step hb
  clear hb B0 CE
  have c_l := (B1.out.box 0 _ _ rfl).lt
  have c_0 := (B1.out.box 0 _ _ rfl).cell 0 _ rfl
  have c_1 := (B1.out.box 0 _ _ rfl).cell 1 _ rfl
  have c_2 := (B1.out.box 0 _ _ rfl).cell 2 _ rfl
  have c_3 := (B1.out.box 0 _ _ rfl).cell 3 _ rfl
  have d_l := (B1.out.box 1 _ _ rfl).lt
  have d_0 := (B1.out.box 1 _ _ rfl).cell 0 _ rfl
  have d_1 := (B1.out.box 1 _ _ rfl).cell 1 _ rfl
  have d_2 := (B1.out.box 1 _ _ rfl).cell 2 _ rfl
  have d_3 := (B1.out.box 1 _ _ rfl).cell 3 _ rfl
  have e_l := (B1.out.box 2 _ _ rfl).lt
  have e_0 := (B1.out.box 2 _ _ rfl).cell 0 _ rfl
  have e_1 := (B1.out.box 2 _ _ rfl).cell 1 _ rfl
  have e_2 := (B1.out.box 2 _ _ rfl).cell 2 _ rfl
  have e_3 := (B1.out.box 2 _ _ rfl).cell 3 _ rfl
  go_wp2_with fail
  refine (CS.out _).mono ?_
  rintro r w2 ⟨rfl, hb⟩
  have B2 : Hid (_) := B1.out.step hb
  clear hb B1 CS
  clear c_l c_0 c_1 c_2 c_3
  clear d_l d_0 d_1 d_2 d_3
  clear e_l e_0 e_1 e_2 e_3
  go_upto_region 3 with (fail)
  obtain ⟨N, W3, hW3, hN3, B3', Z3⟩ := B2.out.new #[.int .i32 x0, .int .i32 x1, .int .i32 x2, .int .i32 x3] 22
  rw [hW3, hN3]
  have B3 : Hid (Bxs w [(w.heap.size, [.int .i32 o0, .int .i32 o1, .int .i32 o2, .int .i32 o3]), (w.heap.size + 1, [.int .i32 p0, .int .i32 p1, .int .i32 p2, .int .i32 p3]), (w.heap.size + 1 + 1, [.int .i64 a, .int .i64 b, .int .i64 c, .int .i64 d]), (N, [.int .i32 x0, .int .i32 x1, .int .i32 x2, .int .i32 x3])] W3) := B3'
  clear hW3 hN3 B3' B2 Z3
  have c_l := (B3.out.box 0 _ _ rfl).lt
  have c_0 := (B3.out.box 0 _ _ rfl).cell 0 _ rfl
  have c_1 := (B3.out.box 0 _ _ rfl).cell 1 _ rfl
  have c_2 := (B3.out.box 0 _ _ rfl).cell 2 _ rfl
  have c_3 := (B3.out.box 0 _ _ rfl).cell 3 _ rfl
  have d_l := (B3.out.box 1 _ _ rfl).lt
  have d_0 := (B3.out.box 1 _ _ rfl).cell 0 _ rfl
  have d_1 := (B3.out.box 1 _ _ rfl).cell 1 _ rfl
  have d_2 := (B3.out.box 1 _ _ rfl).cell 2 _ rfl
  have d_3 := (B3.out.box 1 _ _ rfl).cell 3 _ rfl
  have e_l := (B3.out.box 2 _ _ rfl).lt
  have e_0 := (B3.out.box 2 _ _ rfl).cell 0 _ rfl
  have e_1 := (B3.out.box 2 _ _ rfl).cell 1 _ rfl
  have e_2 := (B3.out.box 2 _ _ rfl).cell 2 _ rfl
  have e_3 := (B3.out.box 2 _ _ rfl).cell 3 _ rfl
  have hq := Q1.out
  go_region_held3 (fun w' => (w'.cell? ⟨w.heap.size, 0, none⟩ = some (.int .i32 o0) ∧ w'.cell? ⟨w.heap.size, 1, none⟩ = some (.int .i32 o1) ∧ w'.cell? ⟨w.heap.size, 2, none⟩ = some (.int .i32 o2) ∧ w'.cell? ⟨w.heap.size, 3, none⟩ = some (.int .i32 o3)) ∧ (w'.cell? ⟨w.heap.size + 1, 0, none⟩ = some (.int .i32 p0) ∧ w'.cell? ⟨w.heap.size + 1, 1, none⟩ = some (.int .i32 p1) ∧ w'.cell? ⟨w.heap.size + 1, 2, none⟩ = some (.int .i32 p2) ∧ w'.cell? ⟨w.heap.size + 1, 3, none⟩ = some (.int .i32 p3)) ∧ (w'.cell? ⟨w.heap.size + 1 + 1, 0, none⟩ = some (.int .i64 a) ∧ w'.cell? ⟨w.heap.size + 1 + 1, 1, none⟩ = some (.int .i64 b) ∧ w'.cell? ⟨w.heap.size + 1 + 1, 2, none⟩ = some (.int .i64 c) ∧ w'.cell? ⟨w.heap.size + 1 + 1, 3, none⟩ = some (.int .i64 d))) (go_keep) (first | (go_at_call 8; refine (CK.out _).mono ?_; rintro r w5 ⟨rfl, hb⟩; have B5 : Hid (Bxs w [(w.heap.size, [.int .i32 o0, .int .i32 o1, .int .i32 o2, .int .i32 o3]), (w.heap.size + 1, [.int .i32 p0, .int .i32 p1, .int .i32 p2, .int .i32 p3]), (w.heap.size + 1 + 1, [.int .i64 a, .int .i64 b, .int .i64 c, .int .i64 d]), (N, [.int .i32 x0, .int .i32 x1, .int .i32 x2, .int .i32 x3])] w5) := B3.out.drew.step hb; have a_l := (B5.out.box 0 _ _ rfl).lt; have a_0 := (B5.out.box 0 _ _ rfl).cell 0 _ rfl; have a_1 := (B5.out.box 0 _ _ rfl).cell 1 _ rfl; have a_2 := (B5.out.box 0 _ _ rfl).cell 2 _ rfl; have a_3 := (B5.out.box 0 _ _ rfl).cell 3 _ rfl; have b_l := (B5.out.box 1 _ _ rfl).lt; have b_0 := (B5.out.box 1 _ _ rfl).cell 0 _ rfl; have b_1 := (B5.out.box 1 _ _ rfl).cell 1 _ rfl; have b_2 := (B5.out.box 1 _ _ rfl).cell 2 _ rfl; have b_3 := (B5.out.box 1 _ _ rfl).cell 3 _ rfl; have c_l := (B5.out.box 2 _ _ rfl).lt; have c_0 := (B5.out.box 2 _ _ rfl).cell 0 _ rfl; have c_1 := (B5.out.box 2 _ _ rfl).cell 1 _ rfl; have c_2 := (B5.out.box 2 _ _ rfl).cell 2 _ rfl; have c_3 := (B5.out.box 2 _ _ rfl).cell 3 _ rfl; have d_l := (B5.out.box 3 _ _ rfl).lt; have d_0 := (B5.out.box 3 _ _ rfl).cell 0 _ rfl; have d_1 := (B5.out.box 3 _ _ rfl).cell 1 _ rfl; have d_2 := (B5.out.box 3 _ _ rfl).cell 2 _ rfl; have d_3 := (B5.out.box 3 _ _ rfl).cell 3 _ rfl; clear hb) | (go_at_call 9; refine (CT.out _).mono ?_; rintro r w6 ⟨rfl, hb⟩; have B6 : Hid (Bxs w [(w.heap.size, [.int .i32 o0, .int .i32 o1, .int .i32 o2, .int .i32 o3]), (w.heap.size + 1, [.int .i32 p0, .int .i32 p1, .int .i32 p2, .int .i32 p3]), (w.heap.size + 1 + 1, [.int .i64 a, .int .i64 b, .int .i64 c, .int .i64 d]), (N, [.int .i32 x0, .int .i32 x1, .int .i32 x2, .int .i32 x3])] w6) := (by first | exact B7.out.step hb | exact B5.out.step hb); have a_l := (B6.out.box 0 _ _ rfl).lt; have a_0 := (B6.out.box 0 _ _ rfl).cell 0 _ rfl; have a_1 := (B6.out.box 0 _ _ rfl).cell 1 _ rfl; have a_2 := (B6.out.box 0 _ _ rfl).cell 2 _ rfl; have a_3 := (B6.out.box 0 _ _ rfl).cell 3 _ rfl; have b_l := (B6.out.box 1 _ _ rfl).lt; have b_0 := (B6.out.box 1 _ _ rfl).cell 0 _ rfl; have b_1 := (B6.out.box 1 _ _ rfl).cell 1 _ rfl; have b_2 := (B6.out.box 1 _ _ rfl).cell 2 _ rfl; have b_3 := (B6.out.box 1 _ _ rfl).cell 3 _ rfl; have c_l := (B6.out.box 2 _ _ rfl).lt; have c_0 := (B6.out.box 2 _ _ rfl).cell 0 _ rfl; have c_1 := (B6.out.box 2 _ _ rfl).cell 1 _ rfl; have c_2 := (B6.out.box 2 _ _ rfl).cell 2 _ rfl; have c_3 := (B6.out.box 2 _ _ rfl).cell 3 _ rfl; have d_l := (B6.out.box 3 _ _ rfl).lt; have d_0 := (B6.out.box 3 _ _ rfl).cell 0 _ rfl; have d_1 := (B6.out.box 3 _ _ rfl).cell 1 _ rfl; have d_2 := (B6.out.box 3 _ _ rfl).cell 2 _ rfl; have d_3 := (B6.out.box 3 _ _ rfl).cell 3 _ rfl; clear hb) | (go_at_call 10; refine (CR.out _).mono ?_; rintro r w7 ⟨rfl, hb⟩; have B7 : Hid (Bxs w [(w.heap.size, [.int .i32 o0, .int .i32 o1, .int .i32 o2, .int .i32 o3]), (w.heap.size + 1, [.int .i32 p0, .int .i32 p1, .int .i32 p2, .int .i32 p3]), (w.heap.size + 1 + 1, [.int .i64 a, .int .i64 b, .int .i64 c, .int .i64 d]), (N, [.int .i32 x0, .int .i32 x1, .int .i32 x2, .int .i32 x3])] w7) := (by first | exact B6.out.step hb | exact B5.out.step hb); have a_l := (B7.out.box 0 _ _ rfl).lt; have a_0 := (B7.out.box 0 _ _ rfl).cell 0 _ rfl; have a_1 := (B7.out.box 0 _ _ rfl).cell 1 _ rfl; have a_2 := (B7.out.box 0 _ _ rfl).cell 2 _ rfl; have a_3 := (B7.out.box 0 _ _ rfl).cell 3 _ rfl; have b_l := (B7.out.box 1 _ _ rfl).lt; have b_0 := (B7.out.box 1 _ _ rfl).cell 0 _ rfl; have b_1 := (B7.out.box 1 _ _ rfl).cell 1 _ rfl; have b_2 := (B7.out.box 1 _ _ rfl).cell 2 _ rfl; have b_3 := (B7.out.box 1 _ _ rfl).cell 3 _ rfl; have c_l := (B7.out.box 2 _ _ rfl).lt; have c_0 := (B7.out.box 2 _ _ rfl).cell 0 _ rfl; have c_1 := (B7.out.box 2 _ _ rfl).cell 1 _ rfl; have c_2 := (B7.out.box 2 _ _ rfl).cell 2 _ rfl; have c_3 := (B7.out.box 2 _ _ rfl).cell 3 _ rfl; have d_l := (B7.out.box 3 _ _ rfl).lt; have d_0 := (B7.out.box 3 _ _ rfl).cell 0 _ rfl; have d_1 := (B7.out.box 3 _ _ rfl).cell 1 _ rfl; have d_2 := (B7.out.box 3 _ _ rfl).cell 2 _ rfl; have d_3 := (B7.out.box 3 _ _ rfl).cell 3 _ rfl; clear hb))
  clear hq
  have hq2 := Q2.out
  go_upto_region 7 with (fail)
  have c_l := (B7.out.box 0 _ _ rfl).lt
  have c_0 := (B7.out.box 0 _ _ rfl).cell 0 _ rfl
  have c_1 := (B7.out.box 0 _ _ rfl).cell 1 _ rfl
  have c_2 := (B7.out.box 0 _ _ rfl).cell 2 _ rfl
  have c_3 := (B7.out.box 0 _ _ rfl).cell 3 _ rfl
  have d_l := (B7.out.box 1 _ _ rfl).lt
  have d_0 := (B7.out.box 1 _ _ rfl).cell 0 _ rfl
  have d_1 := (B7.out.box 1 _ _ rfl).cell 1 _ rfl
  have d_2 := (B7.out.box 1 _ _ rfl).cell 2 _ rfl
  have d_3 := (B7.out.box 1 _ _ rfl).cell 3 _ rfl
  have e_l := (B7.out.box 2 _ _ rfl).lt
  have e_0 := (B7.out.box 2 _ _ rfl).cell 0 _ rfl
  have e_1 := (B7.out.box 2 _ _ rfl).cell 1 _ rfl
  have e_2 := (B7.out.box 2 _ _ rfl).cell 2 _ rfl
  have e_3 := (B7.out.box 2 _ _ rfl).cell 3 _ rfl
  have f_l := (B7.out.box 3 _ _ rfl).lt
  have f_0 := (B7.out.box 3 _ _ rfl).cell 0 _ rfl
  have f_1 := (B7.out.box 3 _ _ rfl).cell 1 _ rfl
  have f_2 := (B7.out.box 3 _ _ rfl).cell 2 _ rfl
  have f_3 := (B7.out.box 3 _ _ rfl).cell 3 _ rfl
  go_region_held3 (fun w' => (w'.cell? ⟨w.heap.size, 0, none⟩ = some (.int .i32 o0) ∧ w'.cell? ⟨w.heap.size, 1, none⟩ = some (.int .i32 o1) ∧ w'.cell? ⟨w.heap.size, 2, none⟩ = some (.int .i32 o2) ∧ w'.cell? ⟨w.heap.size, 3, none⟩ = some (.int .i32 o3)) ∧ (w'.cell? ⟨w.heap.size + 1, 0, none⟩ = some (.int .i32 p0) ∧ w'.cell? ⟨w.heap.size + 1, 1, none⟩ = some (.int .i32 p1) ∧ w'.cell? ⟨w.heap.size + 1, 2, none⟩ = some (.int .i32 p2) ∧ w'.cell? ⟨w.heap.size + 1, 3, none⟩ = some (.int .i32 p3)) ∧ (w'.cell? ⟨w.heap.size + 1 + 1, 0, none⟩ = some (.int .i64 a) ∧ w'.cell? ⟨w.heap.size + 1 + 1, 1, none⟩ = some (.int .i64 b) ∧ w'.cell? ⟨w.heap.size + 1 + 1, 2, none⟩ = some (.int .i64 c) ∧ w'.cell? ⟨w.heap.size + 1 + 1, 3, none⟩ = some (.int .i64 d)) ∧ (w'.cell? ⟨N, 0, none⟩ = some (.int .i32 x0) ∧ w'.cell? ⟨N, 1, none⟩ = some (.int .i32 x1) ∧ w'.cell? ⟨N, 2, none⟩ = some (.int .i32 x2) ∧ w'.cell? ⟨N, 3, none⟩ = some (.int .i32 x3))) (go_keep) (first | (go_at_call 11; refine (CO.out _).mono ?_; rintro r w8 ⟨rfl, hb⟩; have B8 : Hid (Bxs w [(w.heap.size, [.int .i32 o0, .int .i32 o1, .int .i32 o2, .int .i32 o3]), (w.heap.size + 1, [.int .i32 p0, .int .i32 p1, .int .i32 p2, .int .i32 p3]), (w.heap.size + 1 + 1, [.int .i64 a, .int .i64 b, .int .i64 c, .int .i64 d]), (N, [.int .i32 x0, .int .i32 x1, .int .i32 x2, .int .i32 x3])] w8) := B7.out.drew.step hb; have a_l := (B8.out.box 0 _ _ rfl).lt; have a_0 := (B8.out.box 0 _ _ rfl).cell 0 _ rfl; have a_1 := (B8.out.box 0 _ _ rfl).cell 1 _ rfl; have a_2 := (B8.out.box 0 _ _ rfl).cell 2 _ rfl; have a_3 := (B8.out.box 0 _ _ rfl).cell 3 _ rfl; have b_l := (B8.out.box 1 _ _ rfl).lt; have b_0 := (B8.out.box 1 _ _ rfl).cell 0 _ rfl; have b_1 := (B8.out.box 1 _ _ rfl).cell 1 _ rfl; have b_2 := (B8.out.box 1 _ _ rfl).cell 2 _ rfl; have b_3 := (B8.out.box 1 _ _ rfl).cell 3 _ rfl; have c_l := (B8.out.box 2 _ _ rfl).lt; have c_0 := (B8.out.box 2 _ _ rfl).cell 0 _ rfl; have c_1 := (B8.out.box 2 _ _ rfl).cell 1 _ rfl; have c_2 := (B8.out.box 2 _ _ rfl).cell 2 _ rfl; have c_3 := (B8.out.box 2 _ _ rfl).cell 3 _ rfl; have d_l := (B8.out.box 3 _ _ rfl).lt; have d_0 := (B8.out.box 3 _ _ rfl).cell 0 _ rfl; have d_1 := (B8.out.box 3 _ _ rfl).cell 1 _ rfl; have d_2 := (B8.out.box 3 _ _ rfl).cell 2 _ rfl; have d_3 := (B8.out.box 3 _ _ rfl).cell 3 _ rfl; clear hb))
  all_goals (try go_wp2_with fail)
  go_ret
  exact ⟨rfl, B8.out.bel⟩

set_option maxRecDepth 100000 in
theorem walk (off0 : Int) (off1 : Int) (off2 : Int) (off3 : Int) (fight0 : Int) (fight1 : Int) (fight2 : Int) (fight3 : Int) (modes0 : Int) (modes1 : Int) (modes2 : Int) (modes3 : Int) (n : Int) (most : Int) (w : World) (h_off0 : (Lit.int .i32 off0).wf = true) (h_off1 : (Lit.int .i32 off1).wf = true) (h_off2 : (Lit.int .i32 off2).wf = true) (h_off3 : (Lit.int .i32 off3).wf = true) (h_fight0 : (Lit.int .i32 fight0).wf = true) (h_fight1 : (Lit.int .i32 fight1).wf = true) (h_fight2 : (Lit.int .i32 fight2).wf = true) (h_fight3 : (Lit.int .i32 fight3).wf = true) (h_modes0 : (Lit.int .i64 modes0).wf = true) (h_modes1 : (Lit.int .i64 modes1).wf = true) (h_modes2 : (Lit.int .i64 modes2).wf = true) (h_modes3 : (Lit.int .i64 modes3).wf = true) (h_n : (Lit.int .i64 n).wf = true) (h_most : (Lit.int .i32 most).wf = true) :
    Calls Try.prog 3 #[.agg #[.int .i32 off0, .int .i32 off1, .int .i32 off2, .int .i32 off3], .agg #[.int .i32 fight0, .int .i32 fight1, .int .i32 fight2, .int .i32 fight3], .agg #[.int .i64 modes0, .int .i64 modes1, .int .i64 modes2, .int .i64 modes3], .int .i64 n, .int .i32 most] w fun e w' => e = .returned (.bool true) ∧ Below w.heap.size w w' := by
  have ho : Q4 off0 off1 off2 off3 := ⟨i32_of h_off0, i32_of h_off1, i32_of h_off2, i32_of h_off3⟩
  have hp : Q4 fight0 fight1 fight2 fight3 := ⟨i32_of h_fight0, i32_of h_fight1, i32_of h_fight2, i32_of h_fight3⟩
  have hm : I32 most := i32_of h_most
  by_cases h : OkE off0 off1 off2 off3 modes0 modes1 modes2 modes3 n most
  · obtain ⟨k, rfl⟩ : ∃ k : Nat, n = (k : Int) := ⟨n.toNat, by have := h.1.1; omega⟩
    have hk : k ≤ 30 := by have := h.1.2; omega
    exact walk_ok off0 off1 off2 off3 fight0 fight1 fight2 fight3 modes0 modes1 modes2 modes3 k most _ _ _ _ _ _ _ _ w (fun W => rEvErr_ok _ _ _ _ _ _ _ _ _ _ W h hm ho) (fun W => evCheck_ok _ _ _ _ _ _ _ _ _ _ W h hm.2) (fun W => evStep_ok _ _ _ _ _ _ _ _ _ _ _ _ _ _ W h hm ho hp) (fun W => rEvStep_any _ _ _ _ _ _ _ _ _ _ _ _ _ _ W hk h.2.1 hm ho hp) (fun W => trim_any _ _ _ _ _ _ _ _ ho hp W) (fun W => rtrim_any _ _ _ _ _ _ _ _ ho hp W)
  · exact walk_bad off0 off1 off2 off3 fight0 fight1 fight2 fight3 modes0 modes1 modes2 modes3 n most _ _ _ _ w (fun W => rEvErr_bad _ _ _ _ _ _ _ _ _ _ W h hm ho) (fun W => evCheck_bad _ _ _ _ _ _ _ _ _ _ W h hm.2) (fun W => evStep_bad _ _ _ _ _ _ _ _ _ _ _ _ _ _ W h hm.2) (fun W => trim_any _ _ _ _ _ _ _ _ ho hp W) (fun W => rtrim_any _ _ _ _ _ _ _ _ ho hp W)

/-! ### THE ROW's STEP -/
set_option maxRecDepth 100000 in
theorem lifted (os : Os) (started : os.Started) (H : Type) (enc : TypeId × Value → H) :
    ReturnsInHanded {} Try.checked os 3 .any (Rows.evenSaysSpec.pre6 enc Try.prog Try.f3 Rows.evenSaysRow.domain false) (Rows.evenSaysSpec.post enc Try.prog Try.f3 false true false false) := by
  refine returnsInHanded_of_change_sized (C := Try.checked) own started (by kernel_rfl) Try.func3
    (ChangeSpec.witness6 (enc := enc) (C := Try.checked) false ⟨#[], #[.agg #[.int .i32 0, .int .i32 0, .int .i32 0, .int .i32 0], .agg #[.int .i32 0, .int .i32 0, .int .i32 0, .int .i32 0], .agg #[.int .i64 0, .int .i64 0, .int .i64 0, .int .i64 0], .int .i64 0, .int .i32 0], []⟩ 8 (by kernel_rfl) (by kernel_rfl) (by kernel_rfl) (by kernel_rfl)) ?_
  intro W base args ds gs before hval0 hW hcnd hsz0 _
  have hval : ∀ (j : Nat) t v, Try.f3.params[j]? = some t → args[j]? = some v → Value.okWide Try.prog W .any base t v := hval0
  have hW' := hW
  obtain ⟨p, q, hA0, hV, rfl, hfz, hnd⟩ := hW
  have hA : DataW.TrodAll enc Try.prog W 0 (fun _ => true) true Try.f3.params.toList args.toList ds p := hA0
  rw [Try.params3] at hA hval
  obtain ⟨v_0, vs_0, d_0, ds_0, p_0, q_0, hargs, rfl, rfl, h_0, r_0⟩ := trodAll_cons hA
  obtain ⟨v_1, vs_1, d_1, ds_1, p_1, q_1, rfl, rfl, rfl, h_1, r_1⟩ := trodAll_cons r_0
  obtain ⟨v_2, vs_2, d_2, ds_2, p_2, q_2, rfl, rfl, rfl, h_2, r_2⟩ := trodAll_cons r_1
  obtain ⟨v_3, vs_3, d_3, ds_3, p_3, q_3, rfl, rfl, rfl, h_3, r_3⟩ := trodAll_cons r_2
  obtain ⟨v_4, vs_4, d_4, ds_4, p_4, q_4, rfl, rfl, rfl, h_4, r_4⟩ := trodAll_cons r_3
  obtain ⟨rfl, rfl, rfl⟩ := trodAll_nil r_4
  obtain rfl : args = #[v_0, v_1, v_2, v_3, v_4] := by cases args; simp_all
  obtain ⟨rfl, rfl⟩ := trodVars_none hV
  have hz_0 : Light Try.prog 22 d_0 := light_of hsz0 (j := 0) (by first | rfl | (rw [Try.params3]; rfl)) rfl
  have k_0 := h_0
  have lt_0 : ∀ x ∈ p_0, x.block < W.heap.size := by obtain ⟨m, hm⟩ := k_0; exact DataW.trod_lt m _ _ _ hm
  obtain ⟨cs_0, rfl, _⟩ := okWide_array Try.underlying22 (hval 0 22 v_0 rfl rfl)
  obtain ⟨off0, off1, off2, off3, e_0, h_off0, h_off1, h_off2, h_off3⟩ := (by obtain ⟨fuel, hf⟩ := h_0; exact open22 hf hz_0 : ∃ off0 : Int, ∃ off1 : Int, ∃ off2 : Int, ∃ off3 : Int, cs_0.toList = [.int .i32 off0, .int .i32 off1, .int .i32 off2, .int .i32 off3] ∧ (Lit.int .i32 off0).wf = true ∧ (Lit.int .i32 off1).wf = true ∧ (Lit.int .i32 off2).wf = true ∧ (Lit.int .i32 off3).wf = true)
  obtain rfl : cs_0 = #[.int .i32 off0, .int .i32 off1, .int .i32 off2, .int .i32 off3] := by cases cs_0; simp_all
  clear e_0
  have hz_1 : Light Try.prog 22 d_1 := light_of hsz0 (j := 1) (by first | rfl | (rw [Try.params3]; rfl)) rfl
  have k_1 := h_1
  have lt_1 : ∀ x ∈ p_1, x.block < W.heap.size := by obtain ⟨m, hm⟩ := k_1; exact DataW.trod_lt m _ _ _ hm
  obtain ⟨cs_1, rfl, _⟩ := okWide_array Try.underlying22 (hval 1 22 v_1 rfl rfl)
  obtain ⟨fight0, fight1, fight2, fight3, e_1, h_fight0, h_fight1, h_fight2, h_fight3⟩ := (by obtain ⟨fuel, hf⟩ := h_1; exact open22 hf hz_1 : ∃ fight0 : Int, ∃ fight1 : Int, ∃ fight2 : Int, ∃ fight3 : Int, cs_1.toList = [.int .i32 fight0, .int .i32 fight1, .int .i32 fight2, .int .i32 fight3] ∧ (Lit.int .i32 fight0).wf = true ∧ (Lit.int .i32 fight1).wf = true ∧ (Lit.int .i32 fight2).wf = true ∧ (Lit.int .i32 fight3).wf = true)
  obtain rfl : cs_1 = #[.int .i32 fight0, .int .i32 fight1, .int .i32 fight2, .int .i32 fight3] := by cases cs_1; simp_all
  clear e_1
  have hz_2 : Light Try.prog 23 d_2 := light_of hsz0 (j := 2) (by first | rfl | (rw [Try.params3]; rfl)) rfl
  have k_2 := h_2
  have lt_2 : ∀ x ∈ p_2, x.block < W.heap.size := by obtain ⟨m, hm⟩ := k_2; exact DataW.trod_lt m _ _ _ hm
  obtain ⟨cs_2, rfl, _⟩ := okWide_array Try.underlying23 (hval 2 23 v_2 rfl rfl)
  obtain ⟨modes0, modes1, modes2, modes3, e_2, h_modes0, h_modes1, h_modes2, h_modes3⟩ := (by obtain ⟨fuel, hf⟩ := h_2; exact open23 hf hz_2 : ∃ modes0 : Int, ∃ modes1 : Int, ∃ modes2 : Int, ∃ modes3 : Int, cs_2.toList = [.int .i64 modes0, .int .i64 modes1, .int .i64 modes2, .int .i64 modes3] ∧ (Lit.int .i64 modes0).wf = true ∧ (Lit.int .i64 modes1).wf = true ∧ (Lit.int .i64 modes2).wf = true ∧ (Lit.int .i64 modes3).wf = true)
  obtain rfl : cs_2 = #[.int .i64 modes0, .int .i64 modes1, .int .i64 modes2, .int .i64 modes3] := by cases cs_2; simp_all
  clear e_2
  have hz_3 : Light Try.prog 3 d_3 := light_of hsz0 (j := 3) (by first | rfl | (rw [Try.params3]; rfl)) rfl
  have k_3 := h_3
  have lt_3 : ∀ x ∈ p_3, x.block < W.heap.size := by obtain ⟨m, hm⟩ := k_3; exact DataW.trod_lt m _ _ _ hm
  obtain ⟨n, rfl, rfl, rfl, h_n⟩ := open_int Try.underlying3 (hval 3 3 v_3 rfl rfl) h_3
  have hz_4 : Light Try.prog 21 d_4 := light_of hsz0 (j := 4) (by first | rfl | (rw [Try.params3]; rfl)) rfl
  have k_4 := h_4
  have lt_4 : ∀ x ∈ p_4, x.block < W.heap.size := by obtain ⟨m, hm⟩ := k_4; exact DataW.trod_lt m _ _ _ hm
  obtain ⟨most, rfl, rfl, rfl, h_most⟩ := open_int Try.underlying21 (hval 4 21 v_4 rfl rfl) h_4
  clear hA0 hval0
  refine (walk off0 off1 off2 off3 fight0 fight1 fight2 fight3 modes0 modes1 modes2 modes3 n most W h_off0 h_off1 h_off2 h_off3 h_fight0 h_fight1 h_fight2 h_fight3 h_modes0 h_modes1 h_modes2 h_modes3 h_n h_most).mono fun e W' ⟨he, bel⟩ => ?_
  subst he
  exact ⟨_, rfl, _, _, _, [], _, [], hW', trodAll_mk1 (shut_bool Try.underlying4 _), (trodAll_cons_mk (Below.trod laidOut (by kernel_rfl) (of_decide_eq_true (by kernel_rfl)) k_0 bel lt_0) (trodAll_cons_mk (Below.trod laidOut (by kernel_rfl) (of_decide_eq_true (by kernel_rfl)) k_1 bel lt_1) (trodAll_cons_mk (Below.trod laidOut (by kernel_rfl) (of_decide_eq_true (by kernel_rfl)) k_2 bel lt_2) (trodAll_cons_mk (Below.trod laidOut (by kernel_rfl) (of_decide_eq_true (by kernel_rfl)) k_3 bel lt_3) (trodAll_cons_mk (Below.trod laidOut (by kernel_rfl) (of_decide_eq_true (by kernel_rfl)) k_4 bel lt_4) trodAll_mk0))))), rfl, bel.frame _, fun h => by cases h⟩

theorem over : Rows.evenSaysRow.holds Try.pinned (OpenSpec.ofChange Rows.evenSaysSpec) :=
  OpenClaim.holds_of_wide 3 Try.f3 rfl rfl rfl rfl rfl rfl rfl ⟨rfl, rfl, rfl, rfl, rfl⟩ rfl rfl rfl rfl rfl (by kernel_rfl) Try.func3 (by kernel_rfl)
    (of_decide_eq_true (by kernel_rfl)) (by unfold Func.isWrapper; first | (rw [if_pos (by decide +kernel)]; kernel_rfl) | (rw [if_neg (by decide +kernel)]; exact ⟨rfl, rfl⟩))
    (fun os started H enc _ => lifted os started H enc)


end Go.Proofs.Ytfbokeekkbdblaa.evenSays
namespace Go.Proofs.Ytfbokeekkbdblaa
/-- THE STATEMENT -/
theorem evenSays_holds : Rows.EvenSaysSaid := evenSays.over
#print axioms evenSays_holds
end Go.Proofs.Ytfbokeekkbdblaa
