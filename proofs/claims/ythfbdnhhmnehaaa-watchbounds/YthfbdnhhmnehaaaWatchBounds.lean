/-
  Whatever is handed in, the law WatchBounds returns true: with greater bounds nothing more is bad; what is bad with all is bad with each. No condition.
-/
import Derived.Test.YthfbdnhhmnehaaaWat
import Derived.Test.YthfbdnhhmnehaaaWatChk
import Derived.Test.YthfbdnhhmnehaaaWatEq
import Derived.Test.YthfbdnhhmnehaaaBatch
import Derived.Test.YthfbdnhhmnehaaaOpenZ
import Derived.ProofKit
namespace Go.Proofs.Ythfbdnhhmnehaaa.watchBounds
open Go.ChangeShapes Go.WideShapes Go.ChangeAt Go.RowKit
set_option linter.unusedVariables false
set_option linter.unusedSimpArgs false

theorem own : ownKnob Try.prog.godebug = none := by kernel_rfl
theorem laidOut : laidOutB Try.prog = true := by kernel_rfl

theorem list3 {l : List Value} (h : l.length = 3) : ∃ c0 c1 c2, l = [c0, c1, c2] := by
  match l, h with
  | [c0, c1, c2], _ => exact ⟨c0, c1, c2, rfl⟩

theorem list5 {l : List Value} (h : l.length = 5) : ∃ c0 c1 c2 c3 c4, l = [c0, c1, c2, c3, c4] := by
  match l, h with
  | [c0, c1, c2, c3, c4], _ => exact ⟨c0, c1, c2, c3, c4, rfl⟩

theorem list7 {l : List Value} (h : l.length = 7) : ∃ c0 c1 c2 c3 c4 c5 c6, l = [c0, c1, c2, c3, c4, c5, c6] := by
  match l, h with
  | [c0, c1, c2, c3, c4, c5, c6], _ => exact ⟨c0, c1, c2, c3, c4, c5, c6, rfl⟩

theorem list8 {l : List Value} (h : l.length = 8) : ∃ c0 c1 c2 c3 c4 c5 c6 c7, l = [c0, c1, c2, c3, c4, c5, c6, c7] := by
  match l, h with
  | [c0, c1, c2, c3, c4, c5, c6, c7], _ => exact ⟨c0, c1, c2, c3, c4, c5, c6, c7, rfl⟩

theorem open22 {H : Type} {enc : TypeId × Value → H} {w : World} {base : Nat} {spare : Nat → Bool} {held : Bool} {fuel : Nat} {cs : List Value} {x : DataW H × List MemPlace} (h : DataW.trod enc Try.prog w base spare held fuel 22 cs = some x) (hz : Light Try.prog 22 x.1) :
    ∃ v0 : Int, ∃ v1 : Int, ∃ v2 : Int, ∃ v3 : Int, ∃ v4 : Int, cs = [.int .i32 v0, .int .i32 v1, .int .i32 v2, .int .i32 v3, .int .i32 v4] ∧ (Lit.int .i32 v0).wf = true ∧ (Lit.int .i32 v1).wf = true ∧ (Lit.int .i32 v2).wf = true ∧ (Lit.int .i32 v3).wf = true ∧ (Lit.int .i32 v4).wf = true := by
  obtain ⟨hl, hf⟩ := trod_elem_z Try.underlying22 h hz
  rw [show Try.prog.cellsOf 22 = 5 from by kernel_rfl] at hl
  obtain ⟨c0, c1, c2, c3, c4, rfl⟩ := list5 hl
  obtain ⟨n0, y0, h0, z0⟩ := hf 0 (by decide)
  replace h0 : DataW.trod enc Try.prog w base spare held n0 21 (([c0, c1, c2, c3, c4] : List Value).drop (0 * Try.prog.cellsOf 21) |>.take (Try.prog.cellsOf 21)) = some y0 := h0
  rw [show Try.prog.cellsOf 21 = 1 from by kernel_rfl] at h0
  replace h0 : DataW.trod enc Try.prog w base spare held n0 21 [c0] = some y0 := h0
  obtain ⟨n1, y1, h1, z1⟩ := hf 1 (by decide)
  replace h1 : DataW.trod enc Try.prog w base spare held n1 21 (([c0, c1, c2, c3, c4] : List Value).drop (1 * Try.prog.cellsOf 21) |>.take (Try.prog.cellsOf 21)) = some y1 := h1
  rw [show Try.prog.cellsOf 21 = 1 from by kernel_rfl] at h1
  replace h1 : DataW.trod enc Try.prog w base spare held n1 21 [c1] = some y1 := h1
  obtain ⟨n2, y2, h2, z2⟩ := hf 2 (by decide)
  replace h2 : DataW.trod enc Try.prog w base spare held n2 21 (([c0, c1, c2, c3, c4] : List Value).drop (2 * Try.prog.cellsOf 21) |>.take (Try.prog.cellsOf 21)) = some y2 := h2
  rw [show Try.prog.cellsOf 21 = 1 from by kernel_rfl] at h2
  replace h2 : DataW.trod enc Try.prog w base spare held n2 21 [c2] = some y2 := h2
  obtain ⟨n3, y3, h3, z3⟩ := hf 3 (by decide)
  replace h3 : DataW.trod enc Try.prog w base spare held n3 21 (([c0, c1, c2, c3, c4] : List Value).drop (3 * Try.prog.cellsOf 21) |>.take (Try.prog.cellsOf 21)) = some y3 := h3
  rw [show Try.prog.cellsOf 21 = 1 from by kernel_rfl] at h3
  replace h3 : DataW.trod enc Try.prog w base spare held n3 21 [c3] = some y3 := h3
  obtain ⟨n4, y4, h4, z4⟩ := hf 4 (by decide)
  replace h4 : DataW.trod enc Try.prog w base spare held n4 21 (([c0, c1, c2, c3, c4] : List Value).drop (4 * Try.prog.cellsOf 21) |>.take (Try.prog.cellsOf 21)) = some y4 := h4
  rw [show Try.prog.cellsOf 21 = 1 from by kernel_rfl] at h4
  replace h4 : DataW.trod enc Try.prog w base spare held n4 21 [c4] = some y4 := h4
  obtain ⟨x0, e0, _, f0_0⟩ := DataW.trod_int Try.underlying21 h0
  simp only [List.cons.injEq, and_true] at e0
  obtain rfl := e0
  obtain ⟨x1, e1, _, f1_0⟩ := DataW.trod_int Try.underlying21 h1
  simp only [List.cons.injEq, and_true] at e1
  obtain rfl := e1
  obtain ⟨x2, e2, _, f2_0⟩ := DataW.trod_int Try.underlying21 h2
  simp only [List.cons.injEq, and_true] at e2
  obtain rfl := e2
  obtain ⟨x3, e3, _, f3_0⟩ := DataW.trod_int Try.underlying21 h3
  simp only [List.cons.injEq, and_true] at e3
  obtain rfl := e3
  obtain ⟨x4, e4, _, f4_0⟩ := DataW.trod_int Try.underlying21 h4
  simp only [List.cons.injEq, and_true] at e4
  obtain rfl := e4
  exact ⟨x0, x1, x2, x3, x4, rfl, f0_0, f1_0, f2_0, f3_0, f4_0⟩

theorem open24 {H : Type} {enc : TypeId × Value → H} {w : World} {base : Nat} {spare : Nat → Bool} {held : Bool} {fuel : Nat} {cs : List Value} {x : DataW H × List MemPlace} (h : DataW.trod enc Try.prog w base spare held fuel 24 cs = some x) (hz : Light Try.prog 24 x.1) :
    ∃ vUp : Int, ∃ vDown : Int, ∃ vMost : Int, cs = [.int .i64 vUp, .int .i64 vDown, .int .i64 vMost] ∧ (Lit.int .i64 vUp).wf = true ∧ (Lit.int .i64 vDown).wf = true ∧ (Lit.int .i64 vMost).wf = true := by
  obtain ⟨hl, hf⟩ := trod_field_z Try.underlying24 h hz
  rw [show Try.prog.cellsOf 24 = 3 from by kernel_rfl] at hl
  obtain ⟨c0, c1, c2, rfl⟩ := list3 hl
  obtain ⟨n0, y0, h0, z0⟩ := hf 0 _ rfl
  replace h0 : DataW.trod enc Try.prog w base spare held n0 3 (([c0, c1, c2] : List Value).drop 0 |>.take (Try.prog.cellsOf 3)) = some y0 := h0
  rw [show Try.prog.cellsOf 3 = 1 from by kernel_rfl] at h0
  replace h0 : DataW.trod enc Try.prog w base spare held n0 3 [c0] = some y0 := h0
  obtain ⟨n1, y1, h1, z1⟩ := hf 1 _ rfl
  replace h1 : DataW.trod enc Try.prog w base spare held n1 3 (([c0, c1, c2] : List Value).drop 1 |>.take (Try.prog.cellsOf 3)) = some y1 := h1
  rw [show Try.prog.cellsOf 3 = 1 from by kernel_rfl] at h1
  replace h1 : DataW.trod enc Try.prog w base spare held n1 3 [c1] = some y1 := h1
  obtain ⟨n2, y2, h2, z2⟩ := hf 2 _ rfl
  replace h2 : DataW.trod enc Try.prog w base spare held n2 3 (([c0, c1, c2] : List Value).drop 2 |>.take (Try.prog.cellsOf 3)) = some y2 := h2
  rw [show Try.prog.cellsOf 3 = 1 from by kernel_rfl] at h2
  replace h2 : DataW.trod enc Try.prog w base spare held n2 3 [c2] = some y2 := h2
  obtain ⟨x0, e0, _, f0_0⟩ := DataW.trod_int Try.underlying3 h0
  simp only [List.cons.injEq, and_true] at e0
  obtain rfl := e0
  obtain ⟨x1, e1, _, f1_0⟩ := DataW.trod_int Try.underlying3 h1
  simp only [List.cons.injEq, and_true] at e1
  obtain rfl := e1
  obtain ⟨x2, e2, _, f2_0⟩ := DataW.trod_int Try.underlying3 h2
  simp only [List.cons.injEq, and_true] at e2
  obtain rfl := e2
  exact ⟨x0, x1, x2, rfl, f0_0, f1_0, f2_0⟩

theorem open26 {H : Type} {enc : TypeId × Value → H} {w : World} {base : Nat} {spare : Nat → Bool} {held : Bool} {fuel : Nat} {cs : List Value} {x : DataW H × List MemPlace} (h : DataW.trod enc Try.prog w base spare held fuel 26 cs = some x) (hz : Light Try.prog 26 x.1) :
    ∃ vMost0 : Int, ∃ vMost1 : Int, ∃ vMost2 : Int, ∃ vMost3 : Int, ∃ vMost4 : Int, ∃ vPersistUp : Int, ∃ vPersistDown : Int, ∃ vPersistMost : Int, cs = [.int .i32 vMost0, .int .i32 vMost1, .int .i32 vMost2, .int .i32 vMost3, .int .i32 vMost4, .int .i64 vPersistUp, .int .i64 vPersistDown, .int .i64 vPersistMost] ∧ (Lit.int .i32 vMost0).wf = true ∧ (Lit.int .i32 vMost1).wf = true ∧ (Lit.int .i32 vMost2).wf = true ∧ (Lit.int .i32 vMost3).wf = true ∧ (Lit.int .i32 vMost4).wf = true ∧ (Lit.int .i64 vPersistUp).wf = true ∧ (Lit.int .i64 vPersistDown).wf = true ∧ (Lit.int .i64 vPersistMost).wf = true := by
  obtain ⟨hl, hf⟩ := trod_field_z Try.underlying26 h hz
  rw [show Try.prog.cellsOf 26 = 8 from by kernel_rfl] at hl
  obtain ⟨c0, c1, c2, c3, c4, c5, c6, c7, rfl⟩ := list8 hl
  obtain ⟨n0, y0, h0, z0⟩ := hf 0 _ rfl
  replace h0 : DataW.trod enc Try.prog w base spare held n0 22 (([c0, c1, c2, c3, c4, c5, c6, c7] : List Value).drop 0 |>.take (Try.prog.cellsOf 22)) = some y0 := h0
  rw [show Try.prog.cellsOf 22 = 5 from by kernel_rfl] at h0
  replace h0 : DataW.trod enc Try.prog w base spare held n0 22 [c0, c1, c2, c3, c4] = some y0 := h0
  obtain ⟨n1, y1, h1, z1⟩ := hf 1 _ rfl
  replace h1 : DataW.trod enc Try.prog w base spare held n1 24 (([c0, c1, c2, c3, c4, c5, c6, c7] : List Value).drop 5 |>.take (Try.prog.cellsOf 24)) = some y1 := h1
  rw [show Try.prog.cellsOf 24 = 3 from by kernel_rfl] at h1
  replace h1 : DataW.trod enc Try.prog w base spare held n1 24 [c5, c6, c7] = some y1 := h1
  obtain ⟨x00, x01, x02, x03, x04, e0, f0_0, f0_1, f0_2, f0_3, f0_4⟩ := open22 h0 z0
  simp only [List.cons.injEq, and_true] at e0
  obtain ⟨rfl, rfl, rfl, rfl, rfl⟩ := e0
  obtain ⟨x1Up, x1Down, x1Most, e1, f1_0, f1_1, f1_2⟩ := open24 h1 z1
  simp only [List.cons.injEq, and_true] at e1
  obtain ⟨rfl, rfl, rfl⟩ := e1
  exact ⟨x00, x01, x02, x03, x04, x1Up, x1Down, x1Most, rfl, f0_0, f0_1, f0_2, f0_3, f0_4, f1_0, f1_1, f1_2⟩

theorem open31 {H : Type} {enc : TypeId × Value → H} {w : World} {base : Nat} {spare : Nat → Bool} {held : Bool} {fuel : Nat} {cs : List Value} {x : DataW H × List MemPlace} (h : DataW.trod enc Try.prog w base spare held fuel 31 cs = some x) (hz : Light Try.prog 31 x.1) :
    ∃ vValve : Int, ∃ vSpool : Int, ∃ vPos : Int, ∃ vMid : Int, ∃ vTrack : Int, ∃ vFight : Int, ∃ vValid : Bool, cs = [.int .i32 vValve, .int .i32 vSpool, .int .i32 vPos, .int .i32 vMid, .int .i32 vTrack, .int .i32 vFight, .bool vValid] ∧ (Lit.int .i32 vValve).wf = true ∧ (Lit.int .i32 vSpool).wf = true ∧ (Lit.int .i32 vPos).wf = true ∧ (Lit.int .i32 vMid).wf = true ∧ (Lit.int .i32 vTrack).wf = true ∧ (Lit.int .i32 vFight).wf = true := by
  obtain ⟨hl, hf⟩ := trod_field_z Try.underlying31 h hz
  rw [show Try.prog.cellsOf 31 = 7 from by kernel_rfl] at hl
  obtain ⟨c0, c1, c2, c3, c4, c5, c6, rfl⟩ := list7 hl
  obtain ⟨n0, y0, h0, z0⟩ := hf 0 _ rfl
  replace h0 : DataW.trod enc Try.prog w base spare held n0 21 (([c0, c1, c2, c3, c4, c5, c6] : List Value).drop 0 |>.take (Try.prog.cellsOf 21)) = some y0 := h0
  rw [show Try.prog.cellsOf 21 = 1 from by kernel_rfl] at h0
  replace h0 : DataW.trod enc Try.prog w base spare held n0 21 [c0] = some y0 := h0
  obtain ⟨n1, y1, h1, z1⟩ := hf 1 _ rfl
  replace h1 : DataW.trod enc Try.prog w base spare held n1 21 (([c0, c1, c2, c3, c4, c5, c6] : List Value).drop 1 |>.take (Try.prog.cellsOf 21)) = some y1 := h1
  rw [show Try.prog.cellsOf 21 = 1 from by kernel_rfl] at h1
  replace h1 : DataW.trod enc Try.prog w base spare held n1 21 [c1] = some y1 := h1
  obtain ⟨n2, y2, h2, z2⟩ := hf 2 _ rfl
  replace h2 : DataW.trod enc Try.prog w base spare held n2 21 (([c0, c1, c2, c3, c4, c5, c6] : List Value).drop 2 |>.take (Try.prog.cellsOf 21)) = some y2 := h2
  rw [show Try.prog.cellsOf 21 = 1 from by kernel_rfl] at h2
  replace h2 : DataW.trod enc Try.prog w base spare held n2 21 [c2] = some y2 := h2
  obtain ⟨n3, y3, h3, z3⟩ := hf 3 _ rfl
  replace h3 : DataW.trod enc Try.prog w base spare held n3 21 (([c0, c1, c2, c3, c4, c5, c6] : List Value).drop 3 |>.take (Try.prog.cellsOf 21)) = some y3 := h3
  rw [show Try.prog.cellsOf 21 = 1 from by kernel_rfl] at h3
  replace h3 : DataW.trod enc Try.prog w base spare held n3 21 [c3] = some y3 := h3
  obtain ⟨n4, y4, h4, z4⟩ := hf 4 _ rfl
  replace h4 : DataW.trod enc Try.prog w base spare held n4 21 (([c0, c1, c2, c3, c4, c5, c6] : List Value).drop 4 |>.take (Try.prog.cellsOf 21)) = some y4 := h4
  rw [show Try.prog.cellsOf 21 = 1 from by kernel_rfl] at h4
  replace h4 : DataW.trod enc Try.prog w base spare held n4 21 [c4] = some y4 := h4
  obtain ⟨n5, y5, h5, z5⟩ := hf 5 _ rfl
  replace h5 : DataW.trod enc Try.prog w base spare held n5 21 (([c0, c1, c2, c3, c4, c5, c6] : List Value).drop 5 |>.take (Try.prog.cellsOf 21)) = some y5 := h5
  rw [show Try.prog.cellsOf 21 = 1 from by kernel_rfl] at h5
  replace h5 : DataW.trod enc Try.prog w base spare held n5 21 [c5] = some y5 := h5
  obtain ⟨n6, y6, h6, z6⟩ := hf 6 _ rfl
  replace h6 : DataW.trod enc Try.prog w base spare held n6 4 (([c0, c1, c2, c3, c4, c5, c6] : List Value).drop 6 |>.take (Try.prog.cellsOf 4)) = some y6 := h6
  rw [show Try.prog.cellsOf 4 = 1 from by kernel_rfl] at h6
  replace h6 : DataW.trod enc Try.prog w base spare held n6 4 [c6] = some y6 := h6
  obtain ⟨x0, e0, _, f0_0⟩ := DataW.trod_int Try.underlying21 h0
  simp only [List.cons.injEq, and_true] at e0
  obtain rfl := e0
  obtain ⟨x1, e1, _, f1_0⟩ := DataW.trod_int Try.underlying21 h1
  simp only [List.cons.injEq, and_true] at e1
  obtain rfl := e1
  obtain ⟨x2, e2, _, f2_0⟩ := DataW.trod_int Try.underlying21 h2
  simp only [List.cons.injEq, and_true] at e2
  obtain rfl := e2
  obtain ⟨x3, e3, _, f3_0⟩ := DataW.trod_int Try.underlying21 h3
  simp only [List.cons.injEq, and_true] at e3
  obtain rfl := e3
  obtain ⟨x4, e4, _, f4_0⟩ := DataW.trod_int Try.underlying21 h4
  simp only [List.cons.injEq, and_true] at e4
  obtain rfl := e4
  obtain ⟨x5, e5, _, f5_0⟩ := DataW.trod_int Try.underlying21 h5
  simp only [List.cons.injEq, and_true] at e5
  obtain rfl := e5
  obtain ⟨x6, e6, _⟩ := DataW.trod_bool Try.underlying4 h6
  simp only [List.cons.injEq, and_true] at e6
  obtain rfl := e6
  exact ⟨x0, x1, x2, x3, x4, x5, x6, rfl, f0_0, f1_0, f2_0, f3_0, f4_0, f5_0⟩


theorem cells_drewN {w : World} {b : Nat} {vs : List Value} (h : Cells w b vs) (d : Nat) : Cells (w.drewN d) b vs := h.step ⟨rfl, rfl, rfl, Nat.le_refl _, fun _ _ => rfl⟩
/-- the greater of two -/
def mxI (a b : Int) : Int := if a < b then b else a
theorem mxI_Q {a b : Int} (h1 : Q32 a) (h2 : Q32 b) : Q32 (mxI a b) := by
  unfold mxI
  split
  · exact h2
  · exact h1
theorem far_max (a b x y : Int) : farB (mxI a b) x y = (farB a x y && farB b x y) := by
  unfold farB mxI
  rw [← Bool.decide_and]
  split <;> (apply decide_eq_decide.2; omega)
theorem above_max (a b x : Int) : aboveB (mxI a b) x = (aboveB a x && aboveB b x) := by
  unfold aboveB mxI
  rw [← Bool.decide_and]
  split <;> (apply decide_eq_decide.2; omega)
/-- five bounds are numbers of 32 bits -/
structure Q5 (m0 m1 m2 m3 m4 : Int) : Prop where
  m0 : Q32 m0
  m1 : Q32 m1
  m2 : Q32 m2
  m3 : Q32 m3
  m4 : Q32 m4

set_option maxHeartbeats 8000000 in
set_option maxRecDepth 100000 in
theorem walk_l (m0 m1 m2 m3 m4 u d m k0 k1 k2 k3 k4 u2 d2 n2 x0 x1 x2 x3 x4 x5 : Int) (v : Bool) (q0 q1 q2 q3 q4 : Int) (F : Nat → Int → Bool) (w : World) (G1 : Hid (Q5 m0 m1 m2 m3 m4)) (G2 : Hid (Q5 k0 k1 k2 k3 k4)) (G3 : Hid (Q5 q0 q1 q2 q3 q4))
    (CZ : Hid (∀ W, Calls Try.prog 9 #[.agg #[.int .i32 0, .int .i32 0, .int .i32 0, .int .i32 0, .int .i32 0, .int .i64 0, .int .i64 0, .int .i64 0], .agg #[.int .i32 0, .int .i32 0, .int .i32 0, .int .i32 0, .int .i32 0, .int .i32 (-1), .bool false]] W fun r w' => r = .returned (.agg #[.bool false, .bool false, .bool false, .bool true, .bool true]) ∧ Below W.heap.size W w'))
    (CL : Hid (∀ a0 a1 a2 a3 a4 y z t, Q5 a0 a1 a2 a3 a4 → ∀ W, Calls Try.prog 9 #[.agg #[.int .i32 a0, .int .i32 a1, .int .i32 a2, .int .i32 a3, .int .i32 a4, .int .i64 y, .int .i64 z, .int .i64 t], .agg #[.int .i32 x0, .int .i32 x1, .int .i32 x2, .int .i32 x3, .int .i32 x4, .int .i32 x5, .bool v]] W fun r w' => r = .returned (.agg #[.bool (F 0 a0), .bool (F 1 a1), .bool (F 2 a2), .bool (F 3 a3), .bool (F 4 a4)]) ∧ Below W.heap.size W w'))
    (M0 : ∀ (ts : Array TypeId) (t : TypeId) W, (Builtin.max_ ts t #[.int .i32 m0, .int .i32 k0]).run Try.prog W = .ok (.int .i32 q0) W)
    (M1 : ∀ (ts : Array TypeId) (t : TypeId) W, (Builtin.max_ ts t #[.int .i32 m1, .int .i32 k1]).run Try.prog W = .ok (.int .i32 q1) W)
    (M2 : ∀ (ts : Array TypeId) (t : TypeId) W, (Builtin.max_ ts t #[.int .i32 m2, .int .i32 k2]).run Try.prog W = .ok (.int .i32 q2) W)
    (M3 : ∀ (ts : Array TypeId) (t : TypeId) W, (Builtin.max_ ts t #[.int .i32 m3, .int .i32 k3]).run Try.prog W = .ok (.int .i32 q3) W)
    (M4 : ∀ (ts : Array TypeId) (t : TypeId) W, (Builtin.max_ ts t #[.int .i32 m4, .int .i32 k4]).run Try.prog W = .ok (.int .i32 q4) W)
    (HF : Hid (∀ j a b, F j (mxI a b) = (F j a && F j b)))
    (E0 : Hid (q0 = mxI m0 k0 ∧ q1 = mxI m1 k1 ∧ q2 = mxI m2 k2 ∧ q3 = mxI m3 k3 ∧ q4 = mxI m4 k4)) :
    Calls Try.prog 5 #[.agg #[.int .i32 m0, .int .i32 m1, .int .i32 m2, .int .i32 m3, .int .i32 m4, .int .i64 u, .int .i64 d, .int .i64 m], .agg #[.int .i32 k0, .int .i32 k1, .int .i32 k2, .int .i32 k3, .int .i32 k4, .int .i64 u2, .int .i64 d2, .int .i64 n2], .agg #[.int .i32 x0, .int .i32 x1, .int .i32 x2, .int .i32 x3, .int .i32 x4, .int .i32 x5, .bool v]] w fun r w' => r = .returned (.bool true) ∧ Below w.heap.size w w' := by
  obtain ⟨W0, hW0, B0', Z0'⟩ := lay3n w #[.int .i32 m0, .int .i32 m1, .int .i32 m2, .int .i32 m3, .int .i32 m4, .int .i64 u, .int .i64 d, .int .i64 m] #[.int .i32 k0, .int .i32 k1, .int .i32 k2, .int .i32 k3, .int .i32 k4, .int .i64 u2, .int .i64 d2, .int .i64 n2] #[.int .i32 x0, .int .i32 x1, .int .i32 x2, .int .i32 x3, .int .i32 x4, .int .i32 x5, .bool v] 26 26 31
  have HW : Hid (_) := hW0
  have B0 : Hid (_) := B0'
  clear hW0 B0' Z0'
  have Q1 : Hid (∀ W, (Op.equalIn 10000 36 (.agg #[.bool false, .bool false, .bool false, .bool true, .bool true]) (.agg #[.bool false, .bool false, .bool false, .bool true, .bool true])).run Try.prog W = .ok true W) := fun W => eq5b false false false true true W
  go_enter Try.func5, Try.ntmps5
  go_wp2_with fail
  rw [HW.out]
  clear HW
  refine (CZ.out _).mono ?_
  rintro e w1 ⟨rfl, hb⟩
  have B1 : Hid (_) := B0.out.step hb
  clear hb B0 CZ
  have pl := (B1.out.blk 0 (w.heap.size) _ rfl rfl).lt
  have p0 := (B1.out.blk 0 (w.heap.size) _ rfl rfl).cell 0 _ rfl
  have p1 := (B1.out.blk 0 (w.heap.size) _ rfl rfl).cell 1 _ rfl
  have p2 := (B1.out.blk 0 (w.heap.size) _ rfl rfl).cell 2 _ rfl
  have p3 := (B1.out.blk 0 (w.heap.size) _ rfl rfl).cell 3 _ rfl
  have p4 := (B1.out.blk 0 (w.heap.size) _ rfl rfl).cell 4 _ rfl
  have p5 := (B1.out.blk 0 (w.heap.size) _ rfl rfl).cell 5 _ rfl
  have p6 := (B1.out.blk 0 (w.heap.size) _ rfl rfl).cell 6 _ rfl
  have p7 := (B1.out.blk 0 (w.heap.size) _ rfl rfl).cell 7 _ rfl
  have hq := Q1.out
  go_wp2_with fail
  have B2 : Hid (_) := (B1.out.alloc (.cells #[.bool false, .bool false, .bool false, .bool true, .bool true] 36)).alloc (.cells #[.int .i32 m0, .int .i32 m1, .int .i32 m2, .int .i32 m3, .int .i32 m4, .int .i64 u, .int .i64 d, .int .i64 m] 26)
  have X2 : Hid (_) := cells_new (w1.alloc (.cells #[.bool false, .bool false, .bool false, .bool true, .bool true] 36)) #[.int .i32 m0, .int .i32 m1, .int .i32 m2, .int .i32 m3, .int .i32 m4, .int .i64 u, .int .i64 d, .int .i64 m] 26
  have hb : w.heap.size + 1 + 1 < w1.heap.size + 1 := by have := (B1.out.blk 2 (w.heap.size + 1 + 1) _ rfl rfl).lt; omega
  clear hq
  clear pl p0 p1 p2 p3 p4 p5 p6 p7
  rw [World.size_alloc] at X2
  have V2 : Hid (Cells ((w1.alloc (.cells #[.bool false, .bool false, .bool false, .bool true, .bool true] 36)).alloc (.cells #[.int .i32 m0, .int .i32 m1, .int .i32 m2, .int .i32 m3, .int .i32 m4, .int .i64 u, .int .i64 d, .int .i64 m] 26)) (w1.heap.size + 1) [.int .i32 m0, .int .i32 m1, .int .i32 m2, .int .i32 m3, .int .i32 m4, .int .i64 u, .int .i64 d, .int .i64 m]) := X2
  clear X2
  generalize (w1.alloc (.cells #[.bool false, .bool false, .bool false, .bool true, .bool true] 36)).alloc (.cells #[.int .i32 m0, .int .i32 m1, .int .i32 m2, .int .i32 m3, .int .i32 m4, .int .i64 u, .int .i64 d, .int .i64 m] 26) = W2 at *
  clear B1
  generalize w1.heap.size + 1 = b at *
  refine wp_loop_rounds 6 ?_
  rw [rounds_succ]
  have p0 := (B2.out.blk 0 (w.heap.size) _ rfl rfl).cell 0 _ rfl
  have pl := (B2.out.blk 0 (w.heap.size) _ rfl rfl).lt
  have r0 := (B2.out.blk 1 (w.heap.size + 1) _ rfl rfl).cell 0 _ rfl
  have rl := (B2.out.blk 1 (w.heap.size + 1) _ rfl rfl).lt
  have k0' := V2.out.cell 0 _ rfl
  have kf := V2.out.froz 0 _ rfl
  have kl := V2.out.lt
  go_wp2_with fail
  go_region
  have B3 : Hid (Lay w [[.int .i32 m0, .int .i32 m1, .int .i32 m2, .int .i32 m3, .int .i32 m4, .int .i64 u, .int .i64 d, .int .i64 m], [.int .i32 k0, .int .i32 k1, .int .i32 k2, .int .i32 k3, .int .i32 k4, .int .i64 u2, .int .i64 d2, .int .i64 n2], [.int .i32 x0, .int .i32 x1, .int .i32 x2, .int .i32 x3, .int .i32 x4, .int .i32 x5, .bool v]] _) := (B2.out.other (b := b) (j := 0) (by simp; omega) (.int .i32 q0)).drew
  have V3 : Hid (Cells _ b [.int .i32 q0, .int .i32 m1, .int .i32 m2, .int .i32 m3, .int .i32 m4, .int .i64 u, .int .i64 d, .int .i64 m]) := (V2.out.set (j := 0) (by simp) (.int .i32 q0)).drew
  clear p0 pl r0 rl k0' kf kl B2 V2
  generalize (W2.setCell ⟨b, 0, none⟩ (.int .i32 q0)).drew = W3 at *
  go_wp2_with fail
  rw [rounds_succ]
  have p0 := (B3.out.blk 0 (w.heap.size) _ rfl rfl).cell 1 _ rfl
  have pl := (B3.out.blk 0 (w.heap.size) _ rfl rfl).lt
  have r0 := (B3.out.blk 1 (w.heap.size + 1) _ rfl rfl).cell 1 _ rfl
  have rl := (B3.out.blk 1 (w.heap.size + 1) _ rfl rfl).lt
  have k0' := V3.out.cell 1 _ rfl
  have kf := V3.out.froz 1 _ rfl
  have kl := V3.out.lt
  go_wp2_with fail
  go_region
  have B4 : Hid (Lay w [[.int .i32 m0, .int .i32 m1, .int .i32 m2, .int .i32 m3, .int .i32 m4, .int .i64 u, .int .i64 d, .int .i64 m], [.int .i32 k0, .int .i32 k1, .int .i32 k2, .int .i32 k3, .int .i32 k4, .int .i64 u2, .int .i64 d2, .int .i64 n2], [.int .i32 x0, .int .i32 x1, .int .i32 x2, .int .i32 x3, .int .i32 x4, .int .i32 x5, .bool v]] _) := (B3.out.other (b := b) (j := 1) (by simp; omega) (.int .i32 q1)).drew
  have V4 : Hid (Cells _ b [.int .i32 q0, .int .i32 q1, .int .i32 m2, .int .i32 m3, .int .i32 m4, .int .i64 u, .int .i64 d, .int .i64 m]) := (V3.out.set (j := 1) (by simp) (.int .i32 q1)).drew
  clear p0 pl r0 rl k0' kf kl B3 V3
  generalize (W3.setCell ⟨b, 1, none⟩ (.int .i32 q1)).drew = W4 at *
  go_wp2_with fail
  rw [rounds_succ]
  have p0 := (B4.out.blk 0 (w.heap.size) _ rfl rfl).cell 2 _ rfl
  have pl := (B4.out.blk 0 (w.heap.size) _ rfl rfl).lt
  have r0 := (B4.out.blk 1 (w.heap.size + 1) _ rfl rfl).cell 2 _ rfl
  have rl := (B4.out.blk 1 (w.heap.size + 1) _ rfl rfl).lt
  have k0' := V4.out.cell 2 _ rfl
  have kf := V4.out.froz 2 _ rfl
  have kl := V4.out.lt
  go_wp2_with fail
  go_region
  have B5 : Hid (Lay w [[.int .i32 m0, .int .i32 m1, .int .i32 m2, .int .i32 m3, .int .i32 m4, .int .i64 u, .int .i64 d, .int .i64 m], [.int .i32 k0, .int .i32 k1, .int .i32 k2, .int .i32 k3, .int .i32 k4, .int .i64 u2, .int .i64 d2, .int .i64 n2], [.int .i32 x0, .int .i32 x1, .int .i32 x2, .int .i32 x3, .int .i32 x4, .int .i32 x5, .bool v]] _) := (B4.out.other (b := b) (j := 2) (by simp; omega) (.int .i32 q2)).drew
  have V5 : Hid (Cells _ b [.int .i32 q0, .int .i32 q1, .int .i32 q2, .int .i32 m3, .int .i32 m4, .int .i64 u, .int .i64 d, .int .i64 m]) := (V4.out.set (j := 2) (by simp) (.int .i32 q2)).drew
  clear p0 pl r0 rl k0' kf kl B4 V4
  generalize (W4.setCell ⟨b, 2, none⟩ (.int .i32 q2)).drew = W5 at *
  go_wp2_with fail
  rw [rounds_succ]
  have p0 := (B5.out.blk 0 (w.heap.size) _ rfl rfl).cell 3 _ rfl
  have pl := (B5.out.blk 0 (w.heap.size) _ rfl rfl).lt
  have r0 := (B5.out.blk 1 (w.heap.size + 1) _ rfl rfl).cell 3 _ rfl
  have rl := (B5.out.blk 1 (w.heap.size + 1) _ rfl rfl).lt
  have k0' := V5.out.cell 3 _ rfl
  have kf := V5.out.froz 3 _ rfl
  have kl := V5.out.lt
  go_wp2_with fail
  go_region
  have B6 : Hid (Lay w [[.int .i32 m0, .int .i32 m1, .int .i32 m2, .int .i32 m3, .int .i32 m4, .int .i64 u, .int .i64 d, .int .i64 m], [.int .i32 k0, .int .i32 k1, .int .i32 k2, .int .i32 k3, .int .i32 k4, .int .i64 u2, .int .i64 d2, .int .i64 n2], [.int .i32 x0, .int .i32 x1, .int .i32 x2, .int .i32 x3, .int .i32 x4, .int .i32 x5, .bool v]] _) := (B5.out.other (b := b) (j := 3) (by simp; omega) (.int .i32 q3)).drew
  have V6 : Hid (Cells _ b [.int .i32 q0, .int .i32 q1, .int .i32 q2, .int .i32 q3, .int .i32 m4, .int .i64 u, .int .i64 d, .int .i64 m]) := (V5.out.set (j := 3) (by simp) (.int .i32 q3)).drew
  clear p0 pl r0 rl k0' kf kl B5 V5
  generalize (W5.setCell ⟨b, 3, none⟩ (.int .i32 q3)).drew = W6 at *
  go_wp2_with fail
  rw [rounds_succ]
  have p0 := (B6.out.blk 0 (w.heap.size) _ rfl rfl).cell 4 _ rfl
  have pl := (B6.out.blk 0 (w.heap.size) _ rfl rfl).lt
  have r0 := (B6.out.blk 1 (w.heap.size + 1) _ rfl rfl).cell 4 _ rfl
  have rl := (B6.out.blk 1 (w.heap.size + 1) _ rfl rfl).lt
  have k0' := V6.out.cell 4 _ rfl
  have kf := V6.out.froz 4 _ rfl
  have kl := V6.out.lt
  go_wp2_with fail
  go_region
  have B7 : Hid (Lay w [[.int .i32 m0, .int .i32 m1, .int .i32 m2, .int .i32 m3, .int .i32 m4, .int .i64 u, .int .i64 d, .int .i64 m], [.int .i32 k0, .int .i32 k1, .int .i32 k2, .int .i32 k3, .int .i32 k4, .int .i64 u2, .int .i64 d2, .int .i64 n2], [.int .i32 x0, .int .i32 x1, .int .i32 x2, .int .i32 x3, .int .i32 x4, .int .i32 x5, .bool v]] _) := (B6.out.other (b := b) (j := 4) (by simp; omega) (.int .i32 q4)).drew
  have V7 : Hid (Cells _ b [.int .i32 q0, .int .i32 q1, .int .i32 q2, .int .i32 q3, .int .i32 q4, .int .i64 u, .int .i64 d, .int .i64 m]) := (V6.out.set (j := 4) (by simp) (.int .i32 q4)).drew
  clear p0 pl r0 rl k0' kf kl B6 V6
  generalize (W6.setCell ⟨b, 4, none⟩ (.int .i32 q4)).drew = W7 at *
  go_wp2_with fail
  rw [rounds_succ]
  go_wp2_with fail
  go_cut [10, 11, 12] (fun sa sb sc wc => ∃ p1 p2 p3, sa = .pointer (some ⟨p1, 0, none⟩) ∧ sb = .pointer (some ⟨p2, 0, none⟩) ∧ sc = .pointer (some ⟨p3, 0, none⟩) ∧ Hid (Below w.heap.size w wc) ∧ Hid (Cells wc p1 [.bool (F 0 m0), .bool (F 1 m1), .bool (F 2 m2), .bool (F 3 m3), .bool (F 4 m4)]) ∧ Hid (Cells wc p2 [.bool (F 0 k0), .bool (F 1 k1), .bool (F 2 k2), .bool (F 3 k3), .bool (F 4 k4)]) ∧ Hid (Cells wc p3 [.bool (F 0 q0), .bool (F 1 q1), .bool (F 2 q2), .bool (F 3 q3), .bool (F 4 q4)]))
  case first =>
    have hb7 : Hid (b < W7.heap.size) := V7.out.lt
    have hb8 : Hid (w.heap.size + 1 + 1 < b) := hb
    clear M0 M1 M2 M3 M4 HF E0 Q1 hb
    refine wp_region_noPanic ?_
    refine wp_region_held_drew (S := fun W => Hid (Lay w [[.int .i32 m0, .int .i32 m1, .int .i32 m2, .int .i32 m3, .int .i32 m4, .int .i64 u, .int .i64 d, .int .i64 m], [.int .i32 k0, .int .i32 k1, .int .i32 k2, .int .i32 k3, .int .i32 k4, .int .i64 u2, .int .i64 d2, .int .i64 n2], [.int .i32 x0, .int .i32 x1, .int .i32 x2, .int .i32 x3, .int .i32 x4, .int .i32 x5, .bool v]] W ∧ Cells W b [.int .i32 q0, .int .i32 q1, .int .i32 q2, .int .i32 q3, .int .i32 q4, .int .i64 u, .int .i64 d, .int .i64 m])) (by kernel_rfl) ⟨B7.out.drew, V7.out.drew⟩ (fun hS => ?_)
    refine wpAnyH_take (i := 0) (oi := { dst := some 37, op := Op.load 26 (Operand.tmp 3), type := 26, pos := "high.go:130", after := #[], guard := none }) (v := .agg #[.int .i32 m0, .int .i32 m1, .int .i32 m2, .int .i32 m3, .int .i32 m4, .int .i64 u, .int .i64 d, .int .i64 m]) rfl (by kernel_rfl) (by kernel_rfl) (by kernel_rfl) (fun _ _ _ h => h) (Or.inl ⟨by rfl, ?_⟩) hS ?_
    · intro W hW
      have c0 := (hW.out.1.blk 0 (w.heap.size) _ rfl rfl).cell 0 _ rfl
      have c1 := (hW.out.1.blk 0 (w.heap.size) _ rfl rfl).cell 1 _ rfl
      have c2 := (hW.out.1.blk 0 (w.heap.size) _ rfl rfl).cell 2 _ rfl
      have c3 := (hW.out.1.blk 0 (w.heap.size) _ rfl rfl).cell 3 _ rfl
      have c4 := (hW.out.1.blk 0 (w.heap.size) _ rfl rfl).cell 4 _ rfl
      have c5 := (hW.out.1.blk 0 (w.heap.size) _ rfl rfl).cell 5 _ rfl
      have c6 := (hW.out.1.blk 0 (w.heap.size) _ rfl rfl).cell 6 _ rfl
      have c7 := (hW.out.1.blk 0 (w.heap.size) _ rfl rfl).cell 7 _ rfl
      go_simp
    simp only [Act.put, List.setIfInBounds_toArray, List.set_cons_zero, List.set_cons_succ]
    refine wpAnyH_take (i := 1) (oi := { dst := some 38, op := Op.load 31 (Operand.tmp 5), type := 31, pos := "high.go:130", after := #[], guard := none }) (v := .agg #[.int .i32 x0, .int .i32 x1, .int .i32 x2, .int .i32 x3, .int .i32 x4, .int .i32 x5, .bool v]) rfl (by kernel_rfl) (by kernel_rfl) (by kernel_rfl) (fun _ _ _ h => h) (Or.inl ⟨by rfl, ?_⟩) hS ?_
    · intro W hW
      have c0 := (hW.out.1.blk 2 (w.heap.size + 1 + 1) _ rfl rfl).cell 0 _ rfl
      have c1 := (hW.out.1.blk 2 (w.heap.size + 1 + 1) _ rfl rfl).cell 1 _ rfl
      have c2 := (hW.out.1.blk 2 (w.heap.size + 1 + 1) _ rfl rfl).cell 2 _ rfl
      have c3 := (hW.out.1.blk 2 (w.heap.size + 1 + 1) _ rfl rfl).cell 3 _ rfl
      have c4 := (hW.out.1.blk 2 (w.heap.size + 1 + 1) _ rfl rfl).cell 4 _ rfl
      have c5 := (hW.out.1.blk 2 (w.heap.size + 1 + 1) _ rfl rfl).cell 5 _ rfl
      have c6 := (hW.out.1.blk 2 (w.heap.size + 1 + 1) _ rfl rfl).cell 6 _ rfl
      go_simp
    simp only [Act.put, List.setIfInBounds_toArray, List.set_cons_zero, List.set_cons_succ]
    refine wpAnyH_take (i := 3) (oi := { dst := some 40, op := Op.load 26 (Operand.tmp 4), type := 26, pos := "high.go:130", after := #[], guard := none }) (v := .agg #[.int .i32 k0, .int .i32 k1, .int .i32 k2, .int .i32 k3, .int .i32 k4, .int .i64 u2, .int .i64 d2, .int .i64 n2]) rfl (by kernel_rfl) (by kernel_rfl) (by kernel_rfl) (fun _ _ _ h => h) (Or.inl ⟨by rfl, ?_⟩) hS ?_
    · intro W hW
      have c0 := (hW.out.1.blk 1 (w.heap.size + 1) _ rfl rfl).cell 0 _ rfl
      have c1 := (hW.out.1.blk 1 (w.heap.size + 1) _ rfl rfl).cell 1 _ rfl
      have c2 := (hW.out.1.blk 1 (w.heap.size + 1) _ rfl rfl).cell 2 _ rfl
      have c3 := (hW.out.1.blk 1 (w.heap.size + 1) _ rfl rfl).cell 3 _ rfl
      have c4 := (hW.out.1.blk 1 (w.heap.size + 1) _ rfl rfl).cell 4 _ rfl
      have c5 := (hW.out.1.blk 1 (w.heap.size + 1) _ rfl rfl).cell 5 _ rfl
      have c6 := (hW.out.1.blk 1 (w.heap.size + 1) _ rfl rfl).cell 6 _ rfl
      have c7 := (hW.out.1.blk 1 (w.heap.size + 1) _ rfl rfl).cell 7 _ rfl
      go_simp
    simp only [Act.put, List.setIfInBounds_toArray, List.set_cons_zero, List.set_cons_succ]
    refine wpAnyH_take (i := 4) (oi := { dst := some 41, op := Op.load 31 (Operand.tmp 5), type := 31, pos := "high.go:130", after := #[], guard := none }) (v := .agg #[.int .i32 x0, .int .i32 x1, .int .i32 x2, .int .i32 x3, .int .i32 x4, .int .i32 x5, .bool v]) rfl (by kernel_rfl) (by kernel_rfl) (by kernel_rfl) (fun _ _ _ h => h) (Or.inl ⟨by rfl, ?_⟩) hS ?_
    · intro W hW
      have c0 := (hW.out.1.blk 2 (w.heap.size + 1 + 1) _ rfl rfl).cell 0 _ rfl
      have c1 := (hW.out.1.blk 2 (w.heap.size + 1 + 1) _ rfl rfl).cell 1 _ rfl
      have c2 := (hW.out.1.blk 2 (w.heap.size + 1 + 1) _ rfl rfl).cell 2 _ rfl
      have c3 := (hW.out.1.blk 2 (w.heap.size + 1 + 1) _ rfl rfl).cell 3 _ rfl
      have c4 := (hW.out.1.blk 2 (w.heap.size + 1 + 1) _ rfl rfl).cell 4 _ rfl
      have c5 := (hW.out.1.blk 2 (w.heap.size + 1 + 1) _ rfl rfl).cell 5 _ rfl
      have c6 := (hW.out.1.blk 2 (w.heap.size + 1 + 1) _ rfl rfl).cell 6 _ rfl
      go_simp
    simp only [Act.put, List.setIfInBounds_toArray, List.set_cons_zero, List.set_cons_succ]
    refine wpAnyH_take (i := 6) (oi := { dst := some 43, op := Op.load 26 (Operand.tmp 8), type := 26, pos := "high.go:130", after := #[], guard := none }) (v := .agg #[.int .i32 q0, .int .i32 q1, .int .i32 q2, .int .i32 q3, .int .i32 q4, .int .i64 u, .int .i64 d, .int .i64 m]) rfl (by kernel_rfl) (by kernel_rfl) (by kernel_rfl) (fun _ _ _ h => h) (Or.inl ⟨by rfl, ?_⟩) hS ?_
    · intro W hW
      have c0 := hW.out.2.cell 0 _ rfl
      have c1 := hW.out.2.cell 1 _ rfl
      have c2 := hW.out.2.cell 2 _ rfl
      have c3 := hW.out.2.cell 3 _ rfl
      have c4 := hW.out.2.cell 4 _ rfl
      have c5 := hW.out.2.cell 5 _ rfl
      have c6 := hW.out.2.cell 6 _ rfl
      have c7 := hW.out.2.cell 7 _ rfl
      go_simp
    simp only [Act.put, List.setIfInBounds_toArray, List.set_cons_zero, List.set_cons_succ]
    refine wpAnyH_take (i := 7) (oi := { dst := some 44, op := Op.load 31 (Operand.tmp 5), type := 31, pos := "high.go:130", after := #[], guard := none }) (v := .agg #[.int .i32 x0, .int .i32 x1, .int .i32 x2, .int .i32 x3, .int .i32 x4, .int .i32 x5, .bool v]) rfl (by kernel_rfl) (by kernel_rfl) (by kernel_rfl) (fun _ _ _ h => h) (Or.inl ⟨by rfl, ?_⟩) hS ?_
    · intro W hW
      have c0 := (hW.out.1.blk 2 (w.heap.size + 1 + 1) _ rfl rfl).cell 0 _ rfl
      have c1 := (hW.out.1.blk 2 (w.heap.size + 1 + 1) _ rfl rfl).cell 1 _ rfl
      have c2 := (hW.out.1.blk 2 (w.heap.size + 1 + 1) _ rfl rfl).cell 2 _ rfl
      have c3 := (hW.out.1.blk 2 (w.heap.size + 1 + 1) _ rfl rfl).cell 3 _ rfl
      have c4 := (hW.out.1.blk 2 (w.heap.size + 1 + 1) _ rfl rfl).cell 4 _ rfl
      have c5 := (hW.out.1.blk 2 (w.heap.size + 1 + 1) _ rfl rfl).cell 5 _ rfl
      have c6 := (hW.out.1.blk 2 (w.heap.size + 1 + 1) _ rfl rfl).cell 6 _ rfl
      go_simp
    simp only [Act.put, List.setIfInBounds_toArray, List.set_cons_zero, List.set_cons_succ]
    refine held_batch (R := RV (fun i => if i = 2 then some (.agg #[.bool (F 0 m0), .bool (F 1 m1), .bool (F 2 m2), .bool (F 3 m3), .bool (F 4 m4)]) else if i = 5 then some (.agg #[.bool (F 0 k0), .bool (F 1 k1), .bool (F 2 k2), .bool (F 3 k3), .bool (F 4 k4)]) else if i = 8 then some (.agg #[.bool (F 0 q0), .bool (F 1 q1), .bool (F 2 q2), .bool (F 3 q3), .bool (F 4 q4)]) else none) [.bool false, .bool false, .bool false, .bool false, .bool false]) (by kernel_rfl) (fun _ _ _ _ _ h => h) rv_keep (rv_old fun i x hx p => ?_) 3 6 [(2, some 39), (5, some 42), (8, some 45), (9, some 10), (10, some 11), (11, some 12)] _ _ _ rfl (by decide) (by kernel_rfl) (by kernel_rfl) ?_ hS ?_
    · revert hx
      repeat' split
      all_goals (intro hx; cases hx <;> simp)
    · refine all_do_cons rfl (fun K w1 hS1 hK => by
      go_simp
      refine (CL.out _ _ _ _ _ _ _ _ G1.out _).mono ?_
      rintro r w2 ⟨rfl, hb⟩
      exact hK _ (.agg #[.bool (F 0 m0), .bool (F 1 m1), .bool (F 2 m2), .bool (F 3 m3), .bool (F 4 m4)]) _ (by kernel_rfl) ⟨hS1.out.1.step hb, hS1.out.2.step hb⟩ hb rfl (fun p hp => by cases hp)) (all_do_cons rfl (fun K w1 hS1 hK => by
      go_simp
      refine (CL.out _ _ _ _ _ _ _ _ G2.out _).mono ?_
      rintro r w2 ⟨rfl, hb⟩
      exact hK _ (.agg #[.bool (F 0 k0), .bool (F 1 k1), .bool (F 2 k2), .bool (F 3 k3), .bool (F 4 k4)]) _ (by kernel_rfl) ⟨hS1.out.1.step hb, hS1.out.2.step hb⟩ hb rfl (fun p hp => by cases hp)) (all_do_cons rfl (fun K w1 hS1 hK => by
      go_simp
      refine (CL.out _ _ _ _ _ _ _ _ G3.out _).mono ?_
      rintro r w2 ⟨rfl, hb⟩
      exact hK _ (.agg #[.bool (F 0 q0), .bool (F 1 q1), .bool (F 2 q2), .bool (F 3 q3), .bool (F 4 q4)]) _ (by kernel_rfl) ⟨hS1.out.1.step hb, hS1.out.2.step hb⟩ hb rfl (fun p hp => by cases hp)) (all_do_cons rfl (fun K w1 hS1 hK => by
      go_simp
      exact hK _ (.pointer (some ⟨w1.heap.size, 0, none⟩)) _ (by kernel_rfl) ⟨hS1.out.1.alloc _, hS1.out.2.alloc _⟩ ((Below.refl _ _).alloc (Nat.le_refl _) _) ⟨_, rfl, cells_new w1 #[.bool false, .bool false, .bool false, .bool false, .bool false] _⟩ (fun p hp => by cases hp; exact Nat.le_refl _)) (all_do_cons rfl (fun K w1 hS1 hK => by
      go_simp
      exact hK _ (.pointer (some ⟨w1.heap.size, 0, none⟩)) _ (by kernel_rfl) ⟨hS1.out.1.alloc _, hS1.out.2.alloc _⟩ ((Below.refl _ _).alloc (Nat.le_refl _) _) ⟨_, rfl, cells_new w1 #[.bool false, .bool false, .bool false, .bool false, .bool false] _⟩ (fun p hp => by cases hp; exact Nat.le_refl _)) (all_do_cons rfl (fun K w1 hS1 hK => by
      go_simp
      exact hK _ (.pointer (some ⟨w1.heap.size, 0, none⟩)) _ (by kernel_rfl) ⟨hS1.out.1.alloc _, hS1.out.2.alloc _⟩ ((Below.refl _ _).alloc (Nat.le_refl _) _) ⟨_, rfl, cells_new w1 #[.bool false, .bool false, .bool false, .bool false, .bool false] _⟩ (fun p hp => by cases hp; exact Nat.le_refl _)) all_do_nil)))))
    · intro vv w2 hS2 hb2 hv hA
      have v2 : vv 2 = .agg #[.bool (F 0 m0), .bool (F 1 m1), .bool (F 2 m2), .bool (F 3 m3), .bool (F 4 m4)] := (hv (2, some 39) (by simp)).1
      have v5 : vv 5 = .agg #[.bool (F 0 k0), .bool (F 1 k1), .bool (F 2 k2), .bool (F 3 k3), .bool (F 4 k4)] := (hv (5, some 42) (by simp)).1
      have v8 : vv 8 = .agg #[.bool (F 0 q0), .bool (F 1 q1), .bool (F 2 q2), .bool (F 3 q3), .bool (F 4 q4)] := (hv (8, some 45) (by simp)).1
      obtain ⟨p1, h1, X1⟩ := (hv (9, some 10) (by simp)).1
      obtain ⟨p2, h2, X2⟩ := (hv (10, some 11) (by simp)).1
      obtain ⟨p3, h3, X3⟩ := (hv (11, some 12) (by simp)).1
      have f1 := (hv (9, some 10) (by simp)).2 _ h1
      have f2 := (hv (10, some 11) (by simp)).2 _ h2
      have f3 := (hv (11, some 12) (by simp)).2 _ h3
      have d12 := hA (9, some 10) (by simp) (10, some 11) (by simp) (by simp) _ _ h1 h2
      have d13 := hA (9, some 10) (by simp) (11, some 12) (by simp) (by simp) _ _ h1 h3
      have d23 := hA (10, some 11) (by simp) (11, some 12) (by simp) (by simp) _ _ h2 h3
      simp only [setAll, putAll, Act.put, List.setIfInBounds_toArray, List.set_cons_zero, List.set_cons_succ, v2, v5, v8, h1, h2, h3]
      clear hv hA v2 v5 v8 h1 h2 h3
      have hp1 : w.heap.size + 3 ≤ p1 ∧ p1 ≠ b := by have := hb7.out; have := hb8.out; have : W7.heap.size ≤ p1 := f1; omega
      have hp2 : w.heap.size + 3 ≤ p2 ∧ p2 ≠ b := by have := hb7.out; have := hb8.out; have : W7.heap.size ≤ p2 := f2; omega
      have hp3 : w.heap.size + 3 ≤ p3 ∧ p3 ≠ b := by have := hb7.out; have := hb8.out; have : W7.heap.size ≤ p3 := f3; omega
      have d12' : p1 ≠ p2 := d12
      have d13' : p1 ≠ p3 := d13
      have d23' : p2 ≠ p3 := d23
      have HD : Hid ((w.heap.size + 3 ≤ p1 ∧ p1 ≠ b) ∧ (w.heap.size + 3 ≤ p2 ∧ p2 ≠ b) ∧ (w.heap.size + 3 ≤ p3 ∧ p3 ≠ b) ∧ p1 ≠ p2 ∧ p1 ≠ p3 ∧ p2 ≠ p3) := ⟨hp1, hp2, hp3, d12', d13', d23'⟩
      have Y1 : Hid (_) := X1
      have Y2 : Hid (_) := X2
      have Y3 : Hid (_) := X3
      clear hp1 hp2 hp3 d12' d13' d23' d12 d13 d23 f1 f2 f3 X1 X2 X3 hb2 hS
      have c0 := Y1.out.cell 0 _ rfl
      have c1 := Y1.out.cell 1 _ rfl
      have c2 := Y1.out.cell 2 _ rfl
      have c3 := Y1.out.cell 3 _ rfl
      have c4 := Y1.out.cell 4 _ rfl
      have cl := Y1.out.lt
      have cf0 := Y1.out.froz 0 _ rfl
      have cf1 := Y1.out.froz 1 _ rfl
      have cf2 := Y1.out.froz 2 _ rfl
      have cf3 := Y1.out.froz 3 _ rfl
      have cf4 := Y1.out.froz 4 _ rfl
      refine wpAnyH_ready (rs := [12]) (by kernel_rfl) (by simp) ?_
      refine AllReadyH.cons rfl (fun K hK => ?_) AllReadyH.nil
      go_simp
      have S1' : Hid (Lay w [[.int .i32 m0, .int .i32 m1, .int .i32 m2, .int .i32 m3, .int .i32 m4, .int .i64 u, .int .i64 d, .int .i64 m], [.int .i32 k0, .int .i32 k1, .int .i32 k2, .int .i32 k3, .int .i32 k4, .int .i64 u2, .int .i64 d2, .int .i64 n2], [.int .i32 x0, .int .i32 x1, .int .i32 x2, .int .i32 x3, .int .i32 x4, .int .i32 x5, .bool v]] (((((w2.setCell ⟨p1, 0, none⟩ (.bool (F 0 m0))).setCell ⟨p1, 1, none⟩ (.bool (F 1 m1))).setCell ⟨p1, 2, none⟩ (.bool (F 2 m2))).setCell ⟨p1, 3, none⟩ (.bool (F 3 m3))).setCell ⟨p1, 4, none⟩ (.bool (F 4 m4))) ∧ Cells (((((w2.setCell ⟨p1, 0, none⟩ (.bool (F 0 m0))).setCell ⟨p1, 1, none⟩ (.bool (F 1 m1))).setCell ⟨p1, 2, none⟩ (.bool (F 2 m2))).setCell ⟨p1, 3, none⟩ (.bool (F 3 m3))).setCell ⟨p1, 4, none⟩ (.bool (F 4 m4))) b [.int .i32 q0, .int .i32 q1, .int .i32 q2, .int .i32 q3, .int .i32 q4, .int .i64 u, .int .i64 d, .int .i64 m]) := ⟨hS2.out.1.out5 HD.out.1.1 (.bool (F 0 m0)) (.bool (F 1 m1)) (.bool (F 2 m2)) (.bool (F 3 m3)) (.bool (F 4 m4)), hS2.out.2.out5 HD.out.1.2 (.bool (F 0 m0)) (.bool (F 1 m1)) (.bool (F 2 m2)) (.bool (F 3 m3)) (.bool (F 4 m4))⟩
      have Y11' : Hid (_) := Y1.out.put5 (.bool (F 0 m0)) (.bool (F 1 m1)) (.bool (F 2 m2)) (.bool (F 3 m3)) (.bool (F 4 m4))
      have Y21' : Hid (_) := Y2.out.out5 HD.out.2.2.2.1 (.bool (F 0 m0)) (.bool (F 1 m1)) (.bool (F 2 m2)) (.bool (F 3 m3)) (.bool (F 4 m4))
      have Y31' : Hid (_) := Y3.out.out5 HD.out.2.2.2.2.1 (.bool (F 0 m0)) (.bool (F 1 m1)) (.bool (F 2 m2)) (.bool (F 3 m3)) (.bool (F 4 m4))
      refine hK.out _ _ S1' (fun _ => ?_)
      clear hK K c0 cf0 c1 cf1 c2 cf2 c3 cf3 c4 cf4 cl hS2 Y1 Y2 Y3
      generalize (((((w2.setCell ⟨p1, 0, none⟩ (.bool (F 0 m0))).setCell ⟨p1, 1, none⟩ (.bool (F 1 m1))).setCell ⟨p1, 2, none⟩ (.bool (F 2 m2))).setCell ⟨p1, 3, none⟩ (.bool (F 3 m3))).setCell ⟨p1, 4, none⟩ (.bool (F 4 m4))) = w3 at *
      have c0 := Y21'.out.cell 0 _ rfl
      have c1 := Y21'.out.cell 1 _ rfl
      have c2 := Y21'.out.cell 2 _ rfl
      have c3 := Y21'.out.cell 3 _ rfl
      have c4 := Y21'.out.cell 4 _ rfl
      have cl := Y21'.out.lt
      have cf0 := Y21'.out.froz 0 _ rfl
      have cf1 := Y21'.out.froz 1 _ rfl
      have cf2 := Y21'.out.froz 2 _ rfl
      have cf3 := Y21'.out.froz 3 _ rfl
      have cf4 := Y21'.out.froz 4 _ rfl
      refine wpAnyH_ready (rs := [13]) (by kernel_rfl) (by simp) ?_
      refine AllReadyH.cons rfl (fun K hK => ?_) AllReadyH.nil
      go_simp
      have S2' : Hid (Lay w [[.int .i32 m0, .int .i32 m1, .int .i32 m2, .int .i32 m3, .int .i32 m4, .int .i64 u, .int .i64 d, .int .i64 m], [.int .i32 k0, .int .i32 k1, .int .i32 k2, .int .i32 k3, .int .i32 k4, .int .i64 u2, .int .i64 d2, .int .i64 n2], [.int .i32 x0, .int .i32 x1, .int .i32 x2, .int .i32 x3, .int .i32 x4, .int .i32 x5, .bool v]] (((((w3.setCell ⟨p2, 0, none⟩ (.bool (F 0 k0))).setCell ⟨p2, 1, none⟩ (.bool (F 1 k1))).setCell ⟨p2, 2, none⟩ (.bool (F 2 k2))).setCell ⟨p2, 3, none⟩ (.bool (F 3 k3))).setCell ⟨p2, 4, none⟩ (.bool (F 4 k4))) ∧ Cells (((((w3.setCell ⟨p2, 0, none⟩ (.bool (F 0 k0))).setCell ⟨p2, 1, none⟩ (.bool (F 1 k1))).setCell ⟨p2, 2, none⟩ (.bool (F 2 k2))).setCell ⟨p2, 3, none⟩ (.bool (F 3 k3))).setCell ⟨p2, 4, none⟩ (.bool (F 4 k4))) b [.int .i32 q0, .int .i32 q1, .int .i32 q2, .int .i32 q3, .int .i32 q4, .int .i64 u, .int .i64 d, .int .i64 m]) := ⟨S1'.out.1.out5 HD.out.2.1.1 (.bool (F 0 k0)) (.bool (F 1 k1)) (.bool (F 2 k2)) (.bool (F 3 k3)) (.bool (F 4 k4)), S1'.out.2.out5 HD.out.2.1.2 (.bool (F 0 k0)) (.bool (F 1 k1)) (.bool (F 2 k2)) (.bool (F 3 k3)) (.bool (F 4 k4))⟩
      have Y12' : Hid (_) := Y11'.out.out5 (Ne.symm HD.out.2.2.2.1) (.bool (F 0 k0)) (.bool (F 1 k1)) (.bool (F 2 k2)) (.bool (F 3 k3)) (.bool (F 4 k4))
      have Y22' : Hid (_) := Y21'.out.put5 (.bool (F 0 k0)) (.bool (F 1 k1)) (.bool (F 2 k2)) (.bool (F 3 k3)) (.bool (F 4 k4))
      have Y32' : Hid (_) := Y31'.out.out5 HD.out.2.2.2.2.2 (.bool (F 0 k0)) (.bool (F 1 k1)) (.bool (F 2 k2)) (.bool (F 3 k3)) (.bool (F 4 k4))
      refine hK.out _ _ S2' (fun _ => ?_)
      clear hK K c0 cf0 c1 cf1 c2 cf2 c3 cf3 c4 cf4 cl S1' Y11' Y21' Y31'
      generalize (((((w3.setCell ⟨p2, 0, none⟩ (.bool (F 0 k0))).setCell ⟨p2, 1, none⟩ (.bool (F 1 k1))).setCell ⟨p2, 2, none⟩ (.bool (F 2 k2))).setCell ⟨p2, 3, none⟩ (.bool (F 3 k3))).setCell ⟨p2, 4, none⟩ (.bool (F 4 k4))) = w4 at *
      have c0 := Y32'.out.cell 0 _ rfl
      have c1 := Y32'.out.cell 1 _ rfl
      have c2 := Y32'.out.cell 2 _ rfl
      have c3 := Y32'.out.cell 3 _ rfl
      have c4 := Y32'.out.cell 4 _ rfl
      have cl := Y32'.out.lt
      have cf0 := Y32'.out.froz 0 _ rfl
      have cf1 := Y32'.out.froz 1 _ rfl
      have cf2 := Y32'.out.froz 2 _ rfl
      have cf3 := Y32'.out.froz 3 _ rfl
      have cf4 := Y32'.out.froz 4 _ rfl
      refine wpAnyH_ready (rs := [14]) (by kernel_rfl) (by simp) ?_
      refine AllReadyH.cons rfl (fun K hK => ?_) AllReadyH.nil
      go_simp
      have S3' : Hid (Lay w [[.int .i32 m0, .int .i32 m1, .int .i32 m2, .int .i32 m3, .int .i32 m4, .int .i64 u, .int .i64 d, .int .i64 m], [.int .i32 k0, .int .i32 k1, .int .i32 k2, .int .i32 k3, .int .i32 k4, .int .i64 u2, .int .i64 d2, .int .i64 n2], [.int .i32 x0, .int .i32 x1, .int .i32 x2, .int .i32 x3, .int .i32 x4, .int .i32 x5, .bool v]] (((((w4.setCell ⟨p3, 0, none⟩ (.bool (F 0 q0))).setCell ⟨p3, 1, none⟩ (.bool (F 1 q1))).setCell ⟨p3, 2, none⟩ (.bool (F 2 q2))).setCell ⟨p3, 3, none⟩ (.bool (F 3 q3))).setCell ⟨p3, 4, none⟩ (.bool (F 4 q4))) ∧ Cells (((((w4.setCell ⟨p3, 0, none⟩ (.bool (F 0 q0))).setCell ⟨p3, 1, none⟩ (.bool (F 1 q1))).setCell ⟨p3, 2, none⟩ (.bool (F 2 q2))).setCell ⟨p3, 3, none⟩ (.bool (F 3 q3))).setCell ⟨p3, 4, none⟩ (.bool (F 4 q4))) b [.int .i32 q0, .int .i32 q1, .int .i32 q2, .int .i32 q3, .int .i32 q4, .int .i64 u, .int .i64 d, .int .i64 m]) := ⟨S2'.out.1.out5 HD.out.2.2.1.1 (.bool (F 0 q0)) (.bool (F 1 q1)) (.bool (F 2 q2)) (.bool (F 3 q3)) (.bool (F 4 q4)), S2'.out.2.out5 HD.out.2.2.1.2 (.bool (F 0 q0)) (.bool (F 1 q1)) (.bool (F 2 q2)) (.bool (F 3 q3)) (.bool (F 4 q4))⟩
      have Y13' : Hid (_) := Y12'.out.out5 (Ne.symm HD.out.2.2.2.2.1) (.bool (F 0 q0)) (.bool (F 1 q1)) (.bool (F 2 q2)) (.bool (F 3 q3)) (.bool (F 4 q4))
      have Y23' : Hid (_) := Y22'.out.out5 (Ne.symm HD.out.2.2.2.2.2) (.bool (F 0 q0)) (.bool (F 1 q1)) (.bool (F 2 q2)) (.bool (F 3 q3)) (.bool (F 4 q4))
      have Y33' : Hid (_) := Y32'.out.put5 (.bool (F 0 q0)) (.bool (F 1 q1)) (.bool (F 2 q2)) (.bool (F 3 q3)) (.bool (F 4 q4))
      refine hK.out _ _ S3' (fun _ => ?_)
      clear hK K c0 cf0 c1 cf1 c2 cf2 c3 cf3 c4 cf4 cl S2' Y12' Y22' Y32'
      generalize (((((w4.setCell ⟨p3, 0, none⟩ (.bool (F 0 q0))).setCell ⟨p3, 1, none⟩ (.bool (F 1 q1))).setCell ⟨p3, 2, none⟩ (.bool (F 2 q2))).setCell ⟨p3, 3, none⟩ (.bool (F 3 q3))).setCell ⟨p3, 4, none⟩ (.bool (F 4 q4))) = w5 at *
      refine wpAnyH_done (by kernel_rfl) ?_ _
      refine NoPanic.normal ?_
      (try go_wp2_with fail)
      go_meet
      case rel => exact ⟨p1, p2, p3, rfl, rfl, rfl, S3'.out.1.bel, Y13'.out, Y23'.out, Y33'.out⟩
  case rest =>
    obtain ⟨p1, p2, p3, rfl, rfl, rfl, HB, H1, H2, H3⟩ := hcut
    clear B7 V7 hb M0 M1 M2 M3 M4 G1 G2 G3 CL Q1
    go_wp2_with fail
    go_loopg [46] (6) (fun g q wr => ∃ j : Nat, q = .int .i64 j ∧ 5 - j < g ∧ j ≤ 5 ∧ Hid (Below w.heap.size w wr) ∧ Hid (Cells wr p1 [.bool (F 0 m0), .bool (F 1 m1), .bool (F 2 m2), .bool (F 3 m3), .bool (F 4 m4)]) ∧ Hid (Cells wr p2 [.bool (F 0 k0), .bool (F 1 k1), .bool (F 2 k2), .bool (F 3 k3), .bool (F 4 k4)]) ∧ Hid (Cells wr p3 [.bool (F 0 q0), .bool (F 1 q1), .bool (F 2 q2), .bool (F 3 q3), .bool (F 4 q4)]))
    case atStart => exact ⟨0, rfl, by omega, by omega, HB, H1, H2, H3⟩
    case round =>
      obtain ⟨j, rfl, hg, hj, D0, D1, D2, D3⟩ := hrel
      clear HB H1 H2 H3
      by_cases hlt : j < 5
      · obtain rfl | rfl | rfl | rfl | rfl := cases5 hlt
        · have y1 := D1.out.cell 0 _ rfl
          have l1 := D1.out.lt
          have y2 := D2.out.cell 0 _ rfl
          have l2 := D2.out.lt
          have y3 := D3.out.cell 0 _ rfl
          have l3 := D3.out.lt
          have hc : F 0 q0 = (F 0 m0 && F 0 k0) := by rw [E0.out.1]; exact HF.out 0 m0 k0
          rw [hc] at y3
          clear hc
          cases ha : F 0 m0
          · rw [ha] at y1 y3
            rw [Bool.false_and] at y3
            clear ha
            go_wp2_with fail
            go_quiet (fail)
            go_wp2_with fail
            go_roundg (5 - (0 + 1) + 1)
            case measure => omega
            case rel => exact ⟨1, rfl, by omega, by omega, below_drewN D0.out _, cells_drewN D1.out _, cells_drewN D2.out _, cells_drewN D3.out _⟩
          · rw [ha] at y1 y3
            rw [Bool.true_and] at y3
            clear ha
            go_wp2_with fail
            go_quiet (fail)
            go_wp2_with fail
            go_roundg (5 - (0 + 1) + 1)
            case measure => omega
            case rel => exact ⟨1, rfl, by omega, by omega, below_drewN D0.out _, cells_drewN D1.out _, cells_drewN D2.out _, cells_drewN D3.out _⟩
        · have y1 := D1.out.cell 1 _ rfl
          have l1 := D1.out.lt
          have y2 := D2.out.cell 1 _ rfl
          have l2 := D2.out.lt
          have y3 := D3.out.cell 1 _ rfl
          have l3 := D3.out.lt
          have hc : F 1 q1 = (F 1 m1 && F 1 k1) := by rw [E0.out.2.1]; exact HF.out 1 m1 k1
          rw [hc] at y3
          clear hc
          cases ha : F 1 m1
          · rw [ha] at y1 y3
            rw [Bool.false_and] at y3
            clear ha
            go_wp2_with fail
            go_quiet (fail)
            go_wp2_with fail
            go_roundg (5 - (1 + 1) + 1)
            case measure => omega
            case rel => exact ⟨2, rfl, by omega, by omega, below_drewN D0.out _, cells_drewN D1.out _, cells_drewN D2.out _, cells_drewN D3.out _⟩
          · rw [ha] at y1 y3
            rw [Bool.true_and] at y3
            clear ha
            go_wp2_with fail
            go_quiet (fail)
            go_wp2_with fail
            go_roundg (5 - (1 + 1) + 1)
            case measure => omega
            case rel => exact ⟨2, rfl, by omega, by omega, below_drewN D0.out _, cells_drewN D1.out _, cells_drewN D2.out _, cells_drewN D3.out _⟩
        · have y1 := D1.out.cell 2 _ rfl
          have l1 := D1.out.lt
          have y2 := D2.out.cell 2 _ rfl
          have l2 := D2.out.lt
          have y3 := D3.out.cell 2 _ rfl
          have l3 := D3.out.lt
          have hc : F 2 q2 = (F 2 m2 && F 2 k2) := by rw [E0.out.2.2.1]; exact HF.out 2 m2 k2
          rw [hc] at y3
          clear hc
          cases ha : F 2 m2
          · rw [ha] at y1 y3
            rw [Bool.false_and] at y3
            clear ha
            go_wp2_with fail
            go_quiet (fail)
            go_wp2_with fail
            go_roundg (5 - (2 + 1) + 1)
            case measure => omega
            case rel => exact ⟨3, rfl, by omega, by omega, below_drewN D0.out _, cells_drewN D1.out _, cells_drewN D2.out _, cells_drewN D3.out _⟩
          · rw [ha] at y1 y3
            rw [Bool.true_and] at y3
            clear ha
            go_wp2_with fail
            go_quiet (fail)
            go_wp2_with fail
            go_roundg (5 - (2 + 1) + 1)
            case measure => omega
            case rel => exact ⟨3, rfl, by omega, by omega, below_drewN D0.out _, cells_drewN D1.out _, cells_drewN D2.out _, cells_drewN D3.out _⟩
        · have y1 := D1.out.cell 3 _ rfl
          have l1 := D1.out.lt
          have y2 := D2.out.cell 3 _ rfl
          have l2 := D2.out.lt
          have y3 := D3.out.cell 3 _ rfl
          have l3 := D3.out.lt
          have hc : F 3 q3 = (F 3 m3 && F 3 k3) := by rw [E0.out.2.2.2.1]; exact HF.out 3 m3 k3
          rw [hc] at y3
          clear hc
          cases ha : F 3 m3
          · rw [ha] at y1 y3
            rw [Bool.false_and] at y3
            clear ha
            go_wp2_with fail
            go_quiet (fail)
            go_wp2_with fail
            go_roundg (5 - (3 + 1) + 1)
            case measure => omega
            case rel => exact ⟨4, rfl, by omega, by omega, below_drewN D0.out _, cells_drewN D1.out _, cells_drewN D2.out _, cells_drewN D3.out _⟩
          · rw [ha] at y1 y3
            rw [Bool.true_and] at y3
            clear ha
            go_wp2_with fail
            go_quiet (fail)
            go_wp2_with fail
            go_roundg (5 - (3 + 1) + 1)
            case measure => omega
            case rel => exact ⟨4, rfl, by omega, by omega, below_drewN D0.out _, cells_drewN D1.out _, cells_drewN D2.out _, cells_drewN D3.out _⟩
        · have y1 := D1.out.cell 4 _ rfl
          have l1 := D1.out.lt
          have y2 := D2.out.cell 4 _ rfl
          have l2 := D2.out.lt
          have y3 := D3.out.cell 4 _ rfl
          have l3 := D3.out.lt
          have hc : F 4 q4 = (F 4 m4 && F 4 k4) := by rw [E0.out.2.2.2.2]; exact HF.out 4 m4 k4
          rw [hc] at y3
          clear hc
          cases ha : F 4 m4
          · rw [ha] at y1 y3
            rw [Bool.false_and] at y3
            clear ha
            go_wp2_with fail
            go_quiet (fail)
            go_wp2_with fail
            go_roundg (5 - (4 + 1) + 1)
            case measure => omega
            case rel => exact ⟨5, rfl, by omega, by omega, below_drewN D0.out _, cells_drewN D1.out _, cells_drewN D2.out _, cells_drewN D3.out _⟩
          · rw [ha] at y1 y3
            rw [Bool.true_and] at y3
            clear ha
            go_wp2_with fail
            go_quiet (fail)
            go_wp2_with fail
            go_roundg (5 - (4 + 1) + 1)
            case measure => omega
            case rel => exact ⟨5, rfl, by omega, by omega, below_drewN D0.out _, cells_drewN D1.out _, cells_drewN D2.out _, cells_drewN D3.out _⟩
      · obtain rfl : j = 5 := by omega
        go_wp2_with fail
        go_ret
        exact ⟨rfl, D0.out⟩

/-- is sign j bad, with bound a -/
def lkF (x0 x1 x2 x3 x4 x5 : Int) (v : Bool) (j : Nat) (a : Int) : Bool := if j = 0 then farB a x0 x1 else if j = 1 then farB a x2 x3 else if j = 2 then farB a x2 x4 else if j = 3 then aboveB a x5 else !v
theorem lkF_max (x0 x1 x2 x3 x4 x5 : Int) (v : Bool) (j : Nat) (a b : Int) : lkF x0 x1 x2 x3 x4 x5 v j (mxI a b) = (lkF x0 x1 x2 x3 x4 x5 v j a && lkF x0 x1 x2 x3 x4 x5 v j b) := by
  unfold lkF
  split
  · exact far_max a b x0 x1
  · split
    · exact far_max a b x2 x3
    · split
      · exact far_max a b x2 x4
      · split
        · exact above_max a b x5
        · cases v <;> rfl
theorem run_mx (a b : Int) (ts : Array TypeId) (t : TypeId) (W : World) : (Builtin.max_ ts t #[.int .i32 a, .int .i32 b]).run Try.prog W = .ok (.int .i32 (mxI a b)) W := by
  rw [run_max_int2 W ts t .i32 .i32 a b]
  rfl

set_option maxRecDepth 100000 in
theorem walk (wvMost0 : Int) (wvMost1 : Int) (wvMost2 : Int) (wvMost3 : Int) (wvMost4 : Int) (wvPersistUp : Int) (wvPersistDown : Int) (wvPersistMost : Int) (vMost0 : Int) (vMost1 : Int) (vMost2 : Int) (vMost3 : Int) (vMost4 : Int) (vPersistUp : Int) (vPersistDown : Int) (vPersistMost : Int) (xValve : Int) (xSpool : Int) (xPos : Int) (xMid : Int) (xTrack : Int) (xFight : Int) (xValid : Bool) (w : World) (h_wvMost0 : (Lit.int .i32 wvMost0).wf = true) (h_wvMost1 : (Lit.int .i32 wvMost1).wf = true) (h_wvMost2 : (Lit.int .i32 wvMost2).wf = true) (h_wvMost3 : (Lit.int .i32 wvMost3).wf = true) (h_wvMost4 : (Lit.int .i32 wvMost4).wf = true) (h_wvPersistUp : (Lit.int .i64 wvPersistUp).wf = true) (h_wvPersistDown : (Lit.int .i64 wvPersistDown).wf = true) (h_wvPersistMost : (Lit.int .i64 wvPersistMost).wf = true) (h_vMost0 : (Lit.int .i32 vMost0).wf = true) (h_vMost1 : (Lit.int .i32 vMost1).wf = true) (h_vMost2 : (Lit.int .i32 vMost2).wf = true) (h_vMost3 : (Lit.int .i32 vMost3).wf = true) (h_vMost4 : (Lit.int .i32 vMost4).wf = true) (h_vPersistUp : (Lit.int .i64 vPersistUp).wf = true) (h_vPersistDown : (Lit.int .i64 vPersistDown).wf = true) (h_vPersistMost : (Lit.int .i64 vPersistMost).wf = true) (h_xValve : (Lit.int .i32 xValve).wf = true) (h_xSpool : (Lit.int .i32 xSpool).wf = true) (h_xPos : (Lit.int .i32 xPos).wf = true) (h_xMid : (Lit.int .i32 xMid).wf = true) (h_xTrack : (Lit.int .i32 xTrack).wf = true) (h_xFight : (Lit.int .i32 xFight).wf = true) :
    Calls Try.prog 5 #[.agg #[.int .i32 wvMost0, .int .i32 wvMost1, .int .i32 wvMost2, .int .i32 wvMost3, .int .i32 wvMost4, .int .i64 wvPersistUp, .int .i64 wvPersistDown, .int .i64 wvPersistMost], .agg #[.int .i32 vMost0, .int .i32 vMost1, .int .i32 vMost2, .int .i32 vMost3, .int .i32 vMost4, .int .i64 vPersistUp, .int .i64 vPersistDown, .int .i64 vPersistMost], .agg #[.int .i32 xValve, .int .i32 xSpool, .int .i32 xPos, .int .i32 xMid, .int .i32 xTrack, .int .i32 xFight, .bool xValid]] w fun e w' => e = .returned (.bool true) ∧ Below w.heap.size w w' := by
  have HZ : Hid (∀ W, Calls Try.prog 9 #[.agg #[.int .i32 0, .int .i32 0, .int .i32 0, .int .i32 0, .int .i32 0, .int .i64 0, .int .i64 0, .int .i64 0], .agg #[.int .i32 0, .int .i32 0, .int .i32 0, .int .i32 0, .int .i32 0, .int .i32 (-1), .bool false]] W fun r w' => r = .returned (.agg #[.bool false, .bool false, .bool false, .bool true, .bool true]) ∧ Below W.heap.size W w') := fun W => by
    have q0 : Q32 0 := ⟨by decide, by decide⟩
    have h := look_any 0 0 0 0 0 0 0 0 0 0 0 0 0 (-1) false W ⟨q0, q0, q0, q0, q0, q0, q0, q0, q0, q0, ⟨by decide, by decide⟩⟩
    rw [show farB 0 0 0 = false from by decide, show aboveB 0 (-1) = true from by decide] at h
    exact h
  have h1 : Q5 wvMost0 wvMost1 wvMost2 wvMost3 wvMost4 := ⟨i32_of h_wvMost0, i32_of h_wvMost1, i32_of h_wvMost2, i32_of h_wvMost3, i32_of h_wvMost4⟩
  have h2 : Q5 vMost0 vMost1 vMost2 vMost3 vMost4 := ⟨i32_of h_vMost0, i32_of h_vMost1, i32_of h_vMost2, i32_of h_vMost3, i32_of h_vMost4⟩
  exact walk_l wvMost0 wvMost1 wvMost2 wvMost3 wvMost4 wvPersistUp wvPersistDown wvPersistMost vMost0 vMost1 vMost2 vMost3 vMost4 vPersistUp vPersistDown vPersistMost xValve xSpool xPos xMid xTrack xFight xValid (mxI wvMost0 vMost0) (mxI wvMost1 vMost1) (mxI wvMost2 vMost2) (mxI wvMost3 vMost3) (mxI wvMost4 vMost4) (lkF xValve xSpool xPos xMid xTrack xFight xValid) w h1 h2 ⟨mxI_Q h1.m0 h2.m0, mxI_Q h1.m1 h2.m1, mxI_Q h1.m2 h2.m2, mxI_Q h1.m3 h2.m3, mxI_Q h1.m4 h2.m4⟩ HZ
    (fun a0 a1 a2 a3 a4 y z t h W => look_any a0 a1 a2 a3 a4 y z t xValve xSpool xPos xMid xTrack xFight xValid W ⟨h.m0, h.m1, h.m2, h.m3, h.m4, i32_of h_xValve, i32_of h_xSpool, i32_of h_xPos, i32_of h_xMid, i32_of h_xTrack, i32_of h_xFight⟩)
    (run_mx _ _) (run_mx _ _) (run_mx _ _) (run_mx _ _) (run_mx _ _) (lkF_max xValve xSpool xPos xMid xTrack xFight xValid) ⟨rfl, rfl, rfl, rfl, rfl⟩

/-! ### THE ROW's STEP -/
set_option maxRecDepth 100000 in
theorem lifted (os : Os) (started : os.Started) (H : Type) (enc : TypeId × Value → H) :
    ReturnsInHanded {} Try.checked os 5 .any (Rows.watchBoundsSpec.pre6 enc Try.prog Try.f5 Rows.watchBoundsRow.domain false) (Rows.watchBoundsSpec.post enc Try.prog Try.f5 false true false false) := by
  refine returnsInHanded_of_change_sized (C := Try.checked) own started (by kernel_rfl) Try.func5
    (ChangeSpec.witness6 (enc := enc) (C := Try.checked) false ⟨#[], #[.agg #[.int .i32 0, .int .i32 0, .int .i32 0, .int .i32 0, .int .i32 0, .int .i64 0, .int .i64 0, .int .i64 0], .agg #[.int .i32 0, .int .i32 0, .int .i32 0, .int .i32 0, .int .i32 0, .int .i64 0, .int .i64 0, .int .i64 0], .agg #[.int .i32 0, .int .i32 0, .int .i32 0, .int .i32 0, .int .i32 0, .int .i32 0, .bool false]], []⟩ 8 (by kernel_rfl) (by kernel_rfl) (by kernel_rfl) (by kernel_rfl)) ?_
  intro W base args ds gs before hval0 hW hcnd hsz0 _
  have hval : ∀ (j : Nat) t v, Try.f5.params[j]? = some t → args[j]? = some v → Value.okWide Try.prog W .any base t v := hval0
  have hW' := hW
  obtain ⟨p, q, hA0, hV, rfl, hfz, hnd⟩ := hW
  have hA : DataW.TrodAll enc Try.prog W 0 (fun _ => true) true Try.f5.params.toList args.toList ds p := hA0
  rw [Try.params5] at hA hval
  obtain ⟨v_0, vs_0, d_0, ds_0, p_0, q_0, hargs, rfl, rfl, h_0, r_0⟩ := trodAll_cons hA
  obtain ⟨v_1, vs_1, d_1, ds_1, p_1, q_1, rfl, rfl, rfl, h_1, r_1⟩ := trodAll_cons r_0
  obtain ⟨v_2, vs_2, d_2, ds_2, p_2, q_2, rfl, rfl, rfl, h_2, r_2⟩ := trodAll_cons r_1
  obtain ⟨rfl, rfl, rfl⟩ := trodAll_nil r_2
  obtain rfl : args = #[v_0, v_1, v_2] := by cases args; simp_all
  obtain ⟨rfl, rfl⟩ := trodVars_none hV
  have hz_0 : Light Try.prog 26 d_0 := light_of hsz0 (j := 0) (by first | rfl | (rw [Try.params5]; rfl)) rfl
  have k_0 := h_0
  have lt_0 : ∀ x ∈ p_0, x.block < W.heap.size := by obtain ⟨m, hm⟩ := k_0; exact DataW.trod_lt m _ _ _ hm
  obtain ⟨cs_0, rfl, _⟩ := okWide_struct Try.underlying26 (hval 0 26 v_0 rfl rfl)
  obtain ⟨wvMost0, wvMost1, wvMost2, wvMost3, wvMost4, wvPersistUp, wvPersistDown, wvPersistMost, e_0, h_wvMost0, h_wvMost1, h_wvMost2, h_wvMost3, h_wvMost4, h_wvPersistUp, h_wvPersistDown, h_wvPersistMost⟩ := (by obtain ⟨fuel, hf⟩ := h_0; exact open26 hf hz_0 : ∃ wvMost0 : Int, ∃ wvMost1 : Int, ∃ wvMost2 : Int, ∃ wvMost3 : Int, ∃ wvMost4 : Int, ∃ wvPersistUp : Int, ∃ wvPersistDown : Int, ∃ wvPersistMost : Int, cs_0.toList = [.int .i32 wvMost0, .int .i32 wvMost1, .int .i32 wvMost2, .int .i32 wvMost3, .int .i32 wvMost4, .int .i64 wvPersistUp, .int .i64 wvPersistDown, .int .i64 wvPersistMost] ∧ (Lit.int .i32 wvMost0).wf = true ∧ (Lit.int .i32 wvMost1).wf = true ∧ (Lit.int .i32 wvMost2).wf = true ∧ (Lit.int .i32 wvMost3).wf = true ∧ (Lit.int .i32 wvMost4).wf = true ∧ (Lit.int .i64 wvPersistUp).wf = true ∧ (Lit.int .i64 wvPersistDown).wf = true ∧ (Lit.int .i64 wvPersistMost).wf = true)
  obtain rfl : cs_0 = #[.int .i32 wvMost0, .int .i32 wvMost1, .int .i32 wvMost2, .int .i32 wvMost3, .int .i32 wvMost4, .int .i64 wvPersistUp, .int .i64 wvPersistDown, .int .i64 wvPersistMost] := by cases cs_0; simp_all
  clear e_0
  have hz_1 : Light Try.prog 26 d_1 := light_of hsz0 (j := 1) (by first | rfl | (rw [Try.params5]; rfl)) rfl
  have k_1 := h_1
  have lt_1 : ∀ x ∈ p_1, x.block < W.heap.size := by obtain ⟨m, hm⟩ := k_1; exact DataW.trod_lt m _ _ _ hm
  obtain ⟨cs_1, rfl, _⟩ := okWide_struct Try.underlying26 (hval 1 26 v_1 rfl rfl)
  obtain ⟨vMost0, vMost1, vMost2, vMost3, vMost4, vPersistUp, vPersistDown, vPersistMost, e_1, h_vMost0, h_vMost1, h_vMost2, h_vMost3, h_vMost4, h_vPersistUp, h_vPersistDown, h_vPersistMost⟩ := (by obtain ⟨fuel, hf⟩ := h_1; exact open26 hf hz_1 : ∃ vMost0 : Int, ∃ vMost1 : Int, ∃ vMost2 : Int, ∃ vMost3 : Int, ∃ vMost4 : Int, ∃ vPersistUp : Int, ∃ vPersistDown : Int, ∃ vPersistMost : Int, cs_1.toList = [.int .i32 vMost0, .int .i32 vMost1, .int .i32 vMost2, .int .i32 vMost3, .int .i32 vMost4, .int .i64 vPersistUp, .int .i64 vPersistDown, .int .i64 vPersistMost] ∧ (Lit.int .i32 vMost0).wf = true ∧ (Lit.int .i32 vMost1).wf = true ∧ (Lit.int .i32 vMost2).wf = true ∧ (Lit.int .i32 vMost3).wf = true ∧ (Lit.int .i32 vMost4).wf = true ∧ (Lit.int .i64 vPersistUp).wf = true ∧ (Lit.int .i64 vPersistDown).wf = true ∧ (Lit.int .i64 vPersistMost).wf = true)
  obtain rfl : cs_1 = #[.int .i32 vMost0, .int .i32 vMost1, .int .i32 vMost2, .int .i32 vMost3, .int .i32 vMost4, .int .i64 vPersistUp, .int .i64 vPersistDown, .int .i64 vPersistMost] := by cases cs_1; simp_all
  clear e_1
  have hz_2 : Light Try.prog 31 d_2 := light_of hsz0 (j := 2) (by first | rfl | (rw [Try.params5]; rfl)) rfl
  have k_2 := h_2
  have lt_2 : ∀ x ∈ p_2, x.block < W.heap.size := by obtain ⟨m, hm⟩ := k_2; exact DataW.trod_lt m _ _ _ hm
  obtain ⟨cs_2, rfl, _⟩ := okWide_struct Try.underlying31 (hval 2 31 v_2 rfl rfl)
  obtain ⟨xValve, xSpool, xPos, xMid, xTrack, xFight, xValid, e_2, h_xValve, h_xSpool, h_xPos, h_xMid, h_xTrack, h_xFight⟩ := (by obtain ⟨fuel, hf⟩ := h_2; exact open31 hf hz_2 : ∃ xValve : Int, ∃ xSpool : Int, ∃ xPos : Int, ∃ xMid : Int, ∃ xTrack : Int, ∃ xFight : Int, ∃ xValid : Bool, cs_2.toList = [.int .i32 xValve, .int .i32 xSpool, .int .i32 xPos, .int .i32 xMid, .int .i32 xTrack, .int .i32 xFight, .bool xValid] ∧ (Lit.int .i32 xValve).wf = true ∧ (Lit.int .i32 xSpool).wf = true ∧ (Lit.int .i32 xPos).wf = true ∧ (Lit.int .i32 xMid).wf = true ∧ (Lit.int .i32 xTrack).wf = true ∧ (Lit.int .i32 xFight).wf = true)
  obtain rfl : cs_2 = #[.int .i32 xValve, .int .i32 xSpool, .int .i32 xPos, .int .i32 xMid, .int .i32 xTrack, .int .i32 xFight, .bool xValid] := by cases cs_2; simp_all
  clear e_2
  clear hA0 hval0
  refine (walk wvMost0 wvMost1 wvMost2 wvMost3 wvMost4 wvPersistUp wvPersistDown wvPersistMost vMost0 vMost1 vMost2 vMost3 vMost4 vPersistUp vPersistDown vPersistMost xValve xSpool xPos xMid xTrack xFight xValid W h_wvMost0 h_wvMost1 h_wvMost2 h_wvMost3 h_wvMost4 h_wvPersistUp h_wvPersistDown h_wvPersistMost h_vMost0 h_vMost1 h_vMost2 h_vMost3 h_vMost4 h_vPersistUp h_vPersistDown h_vPersistMost h_xValve h_xSpool h_xPos h_xMid h_xTrack h_xFight).mono fun e W' ⟨he, bel⟩ => ?_
  subst he
  exact ⟨_, rfl, _, _, _, [], _, [], hW', trodAll_mk1 (shut_bool Try.underlying4 _), (trodAll_cons_mk (Below.trod laidOut (by kernel_rfl) (of_decide_eq_true (by kernel_rfl)) k_0 bel lt_0) (trodAll_cons_mk (Below.trod laidOut (by kernel_rfl) (of_decide_eq_true (by kernel_rfl)) k_1 bel lt_1) (trodAll_cons_mk (Below.trod laidOut (by kernel_rfl) (of_decide_eq_true (by kernel_rfl)) k_2 bel lt_2) trodAll_mk0))), rfl, bel.frame _, fun h => by cases h⟩

theorem over : Rows.watchBoundsRow.holds Try.pinned (OpenSpec.ofChange Rows.watchBoundsSpec) :=
  OpenClaim.holds_of_wide 5 Try.f5 rfl rfl rfl rfl rfl rfl rfl ⟨rfl, rfl, rfl, rfl, rfl⟩ rfl rfl rfl rfl rfl (by kernel_rfl) Try.func5 (by kernel_rfl)
    (of_decide_eq_true (by kernel_rfl)) (by unfold Func.isWrapper; first | (rw [if_pos (by decide +kernel)]; kernel_rfl) | (rw [if_neg (by decide +kernel)]; exact ⟨rfl, rfl⟩))
    (fun os started H enc _ => lifted os started H enc)


end Go.Proofs.Ythfbdnhhmnehaaa.watchBounds
namespace Go.Proofs.Ythfbdnhhmnehaaa
/-- THE STATEMENT -/
theorem watchBounds_holds : Rows.WatchBoundsSaid := watchBounds.over
#print axioms watchBounds_holds
end Go.Proofs.Ythfbdnhhmnehaaa
