/-
  Whatever is handed in, the law ServoGoal returns true: the goal goes no faster than it may, and gets where it is wanted; the valve is no farther than its bounds. No condition.
-/
import Derived.Test.YtbpenfjnfoljoaaSrvStp
import Derived.Test.YtbpenfjnfoljoaaKeep
import Derived.Test.YtbpenfjnfoljoaaOpenZ
import Derived.ProofKit
import Derived.BigRegion
namespace Go.Proofs.Ytbpenfjnfoljoaa.servoGoal
open Go.ChangeShapes Go.WideShapes Go.ChangeAt Go.RowKit
set_option linter.unusedVariables false

theorem own : ownKnob Try.prog.godebug = none := by kernel_rfl
theorem laidOut : laidOutB Try.prog = true := by kernel_rfl

theorem list2 {l : List Value} (h : l.length = 2) : ∃ c0 c1, l = [c0, c1] := by
  match l, h with
  | [c0, c1], _ => exact ⟨c0, c1, rfl⟩

theorem list4 {l : List Value} (h : l.length = 4) : ∃ c0 c1 c2 c3, l = [c0, c1, c2, c3] := by
  match l, h with
  | [c0, c1, c2, c3], _ => exact ⟨c0, c1, c2, c3, rfl⟩

theorem list5 {l : List Value} (h : l.length = 5) : ∃ c0 c1 c2 c3 c4, l = [c0, c1, c2, c3, c4] := by
  match l, h with
  | [c0, c1, c2, c3, c4], _ => exact ⟨c0, c1, c2, c3, c4, rfl⟩

theorem list7 {l : List Value} (h : l.length = 7) : ∃ c0 c1 c2 c3 c4 c5 c6, l = [c0, c1, c2, c3, c4, c5, c6] := by
  match l, h with
  | [c0, c1, c2, c3, c4, c5, c6], _ => exact ⟨c0, c1, c2, c3, c4, c5, c6, rfl⟩

theorem open25 {H : Type} {enc : TypeId × Value → H} {w : World} {base : Nat} {spare : Nat → Bool} {held : Bool} {fuel : Nat} {cs : List Value} {x : DataW H × List MemPlace} (h : DataW.trod enc Try.prog w base spare held fuel 25 cs = some x) (hz : Light Try.prog 25 x.1) :
    ∃ vP : Int, ∃ vI : Int, ∃ vD : Int, ∃ vLow : Int, ∃ vHigh : Int, cs = [.int .i32 vP, .int .i32 vI, .int .i32 vD, .int .i32 vLow, .int .i32 vHigh] ∧ (Lit.int .i32 vP).wf = true ∧ (Lit.int .i32 vI).wf = true ∧ (Lit.int .i32 vD).wf = true ∧ (Lit.int .i32 vLow).wf = true ∧ (Lit.int .i32 vHigh).wf = true := by
  obtain ⟨hl, hf⟩ := trod_field_z Try.underlying25 h hz
  rw [show Try.prog.cellsOf 25 = 5 from by kernel_rfl] at hl
  obtain ⟨c0, c1, c2, c3, c4, rfl⟩ := list5 hl
  obtain ⟨n0, y0, h0, z0⟩ := hf 0 _ rfl
  replace h0 : DataW.trod enc Try.prog w base spare held n0 21 (([c0, c1, c2, c3, c4] : List Value).drop 0 |>.take (Try.prog.cellsOf 21)) = some y0 := h0
  rw [show Try.prog.cellsOf 21 = 1 from by kernel_rfl] at h0
  replace h0 : DataW.trod enc Try.prog w base spare held n0 21 [c0] = some y0 := h0
  obtain ⟨n1, y1, h1, z1⟩ := hf 1 _ rfl
  replace h1 : DataW.trod enc Try.prog w base spare held n1 21 (([c0, c1, c2, c3, c4] : List Value).drop 1 |>.take (Try.prog.cellsOf 21)) = some y1 := h1
  rw [show Try.prog.cellsOf 21 = 1 from by kernel_rfl] at h1
  replace h1 : DataW.trod enc Try.prog w base spare held n1 21 [c1] = some y1 := h1
  obtain ⟨n2, y2, h2, z2⟩ := hf 2 _ rfl
  replace h2 : DataW.trod enc Try.prog w base spare held n2 21 (([c0, c1, c2, c3, c4] : List Value).drop 2 |>.take (Try.prog.cellsOf 21)) = some y2 := h2
  rw [show Try.prog.cellsOf 21 = 1 from by kernel_rfl] at h2
  replace h2 : DataW.trod enc Try.prog w base spare held n2 21 [c2] = some y2 := h2
  obtain ⟨n3, y3, h3, z3⟩ := hf 3 _ rfl
  replace h3 : DataW.trod enc Try.prog w base spare held n3 21 (([c0, c1, c2, c3, c4] : List Value).drop 3 |>.take (Try.prog.cellsOf 21)) = some y3 := h3
  rw [show Try.prog.cellsOf 21 = 1 from by kernel_rfl] at h3
  replace h3 : DataW.trod enc Try.prog w base spare held n3 21 [c3] = some y3 := h3
  obtain ⟨n4, y4, h4, z4⟩ := hf 4 _ rfl
  replace h4 : DataW.trod enc Try.prog w base spare held n4 21 (([c0, c1, c2, c3, c4] : List Value).drop 4 |>.take (Try.prog.cellsOf 21)) = some y4 := h4
  rw [show Try.prog.cellsOf 21 = 1 from by kernel_rfl] at h4
  replace h4 : DataW.trod enc Try.prog w base spare held n4 21 [c4] = some y4 := h4
  obtain ⟨x0, e0, _, f0_0⟩ := DataW.trod_int Try.underlying21 h0
  simp only [List.cons.injEq, and_true] at e0
  obtain rfl := e0
  obtain ⟨x1, e1, _, f1_0⟩ := DataW.trod_int Try.underlying21 h1
  simp only [List.cons.injEq, and_true] at e1
  obtain rfl := e1
  obtain ⟨x2, e2, _, f2_0⟩ := DataW.trod_int Try.underlying21 h2
  simp only [List.cons.injEq, and_true] at e2
  obtain rfl := e2
  obtain ⟨x3, e3, _, f3_0⟩ := DataW.trod_int Try.underlying21 h3
  simp only [List.cons.injEq, and_true] at e3
  obtain rfl := e3
  obtain ⟨x4, e4, _, f4_0⟩ := DataW.trod_int Try.underlying21 h4
  simp only [List.cons.injEq, and_true] at e4
  obtain rfl := e4
  exact ⟨x0, x1, x2, x3, x4, rfl, f0_0, f1_0, f2_0, f3_0, f4_0⟩

theorem open27 {H : Type} {enc : TypeId × Value → H} {w : World} {base : Nat} {spare : Nat → Bool} {held : Bool} {fuel : Nat} {cs : List Value} {x : DataW H × List MemPlace} (h : DataW.trod enc Try.prog w base spare held fuel 27 cs = some x) (hz : Light Try.prog 27 x.1) :
    ∃ vRate : Int, ∃ vSoft : Int, ∃ vGainP : Int, ∃ vGainI : Int, ∃ vGainD : Int, ∃ vGainLow : Int, ∃ vGainHigh : Int, cs = [.int .i32 vRate, .int .i64 vSoft, .int .i32 vGainP, .int .i32 vGainI, .int .i32 vGainD, .int .i32 vGainLow, .int .i32 vGainHigh] ∧ (Lit.int .i32 vRate).wf = true ∧ (Lit.int .i64 vSoft).wf = true ∧ (Lit.int .i32 vGainP).wf = true ∧ (Lit.int .i32 vGainI).wf = true ∧ (Lit.int .i32 vGainD).wf = true ∧ (Lit.int .i32 vGainLow).wf = true ∧ (Lit.int .i32 vGainHigh).wf = true := by
  obtain ⟨hl, hf⟩ := trod_field_z Try.underlying27 h hz
  rw [show Try.prog.cellsOf 27 = 7 from by kernel_rfl] at hl
  obtain ⟨c0, c1, c2, c3, c4, c5, c6, rfl⟩ := list7 hl
  obtain ⟨n0, y0, h0, z0⟩ := hf 0 _ rfl
  replace h0 : DataW.trod enc Try.prog w base spare held n0 21 (([c0, c1, c2, c3, c4, c5, c6] : List Value).drop 0 |>.take (Try.prog.cellsOf 21)) = some y0 := h0
  rw [show Try.prog.cellsOf 21 = 1 from by kernel_rfl] at h0
  replace h0 : DataW.trod enc Try.prog w base spare held n0 21 [c0] = some y0 := h0
  obtain ⟨n1, y1, h1, z1⟩ := hf 1 _ rfl
  replace h1 : DataW.trod enc Try.prog w base spare held n1 3 (([c0, c1, c2, c3, c4, c5, c6] : List Value).drop 1 |>.take (Try.prog.cellsOf 3)) = some y1 := h1
  rw [show Try.prog.cellsOf 3 = 1 from by kernel_rfl] at h1
  replace h1 : DataW.trod enc Try.prog w base spare held n1 3 [c1] = some y1 := h1
  obtain ⟨n2, y2, h2, z2⟩ := hf 2 _ rfl
  replace h2 : DataW.trod enc Try.prog w base spare held n2 25 (([c0, c1, c2, c3, c4, c5, c6] : List Value).drop 2 |>.take (Try.prog.cellsOf 25)) = some y2 := h2
  rw [show Try.prog.cellsOf 25 = 5 from by kernel_rfl] at h2
  replace h2 : DataW.trod enc Try.prog w base spare held n2 25 [c2, c3, c4, c5, c6] = some y2 := h2
  obtain ⟨x0, e0, _, f0_0⟩ := DataW.trod_int Try.underlying21 h0
  simp only [List.cons.injEq, and_true] at e0
  obtain rfl := e0
  obtain ⟨x1, e1, _, f1_0⟩ := DataW.trod_int Try.underlying3 h1
  simp only [List.cons.injEq, and_true] at e1
  obtain rfl := e1
  obtain ⟨x2P, x2I, x2D, x2Low, x2High, e2, f2_0, f2_1, f2_2, f2_3, f2_4⟩ := open25 h2 z2
  simp only [List.cons.injEq, and_true] at e2
  obtain ⟨rfl, rfl, rfl, rfl, rfl⟩ := e2
  exact ⟨x0, x1, x2P, x2I, x2D, x2Low, x2High, rfl, f0_0, f1_0, f2_0, f2_1, f2_2, f2_3, f2_4⟩

theorem open29 {H : Type} {enc : TypeId × Value → H} {w : World} {base : Nat} {spare : Nat → Bool} {held : Bool} {fuel : Nat} {cs : List Value} {x : DataW H × List MemPlace} (h : DataW.trod enc Try.prog w base spare held fuel 29 cs = some x) (hz : Light Try.prog 29 x.1) :
    ∃ vSum : Int, ∃ vLast : Int, cs = [.int .i32 vSum, .int .i32 vLast] ∧ (Lit.int .i32 vSum).wf = true ∧ (Lit.int .i32 vLast).wf = true := by
  obtain ⟨hl, hf⟩ := trod_field_z Try.underlying29 h hz
  rw [show Try.prog.cellsOf 29 = 2 from by kernel_rfl] at hl
  obtain ⟨c0, c1, rfl⟩ := list2 hl
  obtain ⟨n0, y0, h0, z0⟩ := hf 0 _ rfl
  replace h0 : DataW.trod enc Try.prog w base spare held n0 21 (([c0, c1] : List Value).drop 0 |>.take (Try.prog.cellsOf 21)) = some y0 := h0
  rw [show Try.prog.cellsOf 21 = 1 from by kernel_rfl] at h0
  replace h0 : DataW.trod enc Try.prog w base spare held n0 21 [c0] = some y0 := h0
  obtain ⟨n1, y1, h1, z1⟩ := hf 1 _ rfl
  replace h1 : DataW.trod enc Try.prog w base spare held n1 21 (([c0, c1] : List Value).drop 1 |>.take (Try.prog.cellsOf 21)) = some y1 := h1
  rw [show Try.prog.cellsOf 21 = 1 from by kernel_rfl] at h1
  replace h1 : DataW.trod enc Try.prog w base spare held n1 21 [c1] = some y1 := h1
  obtain ⟨x0, e0, _, f0_0⟩ := DataW.trod_int Try.underlying21 h0
  simp only [List.cons.injEq, and_true] at e0
  obtain rfl := e0
  obtain ⟨x1, e1, _, f1_0⟩ := DataW.trod_int Try.underlying21 h1
  simp only [List.cons.injEq, and_true] at e1
  obtain rfl := e1
  exact ⟨x0, x1, rfl, f0_0, f1_0⟩

theorem open31 {H : Type} {enc : TypeId × Value → H} {w : World} {base : Nat} {spare : Nat → Bool} {held : Bool} {fuel : Nat} {cs : List Value} {x : DataW H × List MemPlace} (h : DataW.trod enc Try.prog w base spare held fuel 31 cs = some x) (hz : Light Try.prog 31 x.1) :
    ∃ vGoal : Int, ∃ vPidSum : Int, ∃ vPidLast : Int, ∃ vValve : Int, cs = [.int .i32 vGoal, .int .i32 vPidSum, .int .i32 vPidLast, .int .i32 vValve] ∧ (Lit.int .i32 vGoal).wf = true ∧ (Lit.int .i32 vPidSum).wf = true ∧ (Lit.int .i32 vPidLast).wf = true ∧ (Lit.int .i32 vValve).wf = true := by
  obtain ⟨hl, hf⟩ := trod_field_z Try.underlying31 h hz
  rw [show Try.prog.cellsOf 31 = 4 from by kernel_rfl] at hl
  obtain ⟨c0, c1, c2, c3, rfl⟩ := list4 hl
  obtain ⟨n0, y0, h0, z0⟩ := hf 0 _ rfl
  replace h0 : DataW.trod enc Try.prog w base spare held n0 21 (([c0, c1, c2, c3] : List Value).drop 0 |>.take (Try.prog.cellsOf 21)) = some y0 := h0
  rw [show Try.prog.cellsOf 21 = 1 from by kernel_rfl] at h0
  replace h0 : DataW.trod enc Try.prog w base spare held n0 21 [c0] = some y0 := h0
  obtain ⟨n1, y1, h1, z1⟩ := hf 1 _ rfl
  replace h1 : DataW.trod enc Try.prog w base spare held n1 29 (([c0, c1, c2, c3] : List Value).drop 1 |>.take (Try.prog.cellsOf 29)) = some y1 := h1
  rw [show Try.prog.cellsOf 29 = 2 from by kernel_rfl] at h1
  replace h1 : DataW.trod enc Try.prog w base spare held n1 29 [c1, c2] = some y1 := h1
  obtain ⟨n2, y2, h2, z2⟩ := hf 2 _ rfl
  replace h2 : DataW.trod enc Try.prog w base spare held n2 21 (([c0, c1, c2, c3] : List Value).drop 3 |>.take (Try.prog.cellsOf 21)) = some y2 := h2
  rw [show Try.prog.cellsOf 21 = 1 from by kernel_rfl] at h2
  replace h2 : DataW.trod enc Try.prog w base spare held n2 21 [c3] = some y2 := h2
  obtain ⟨x0, e0, _, f0_0⟩ := DataW.trod_int Try.underlying21 h0
  simp only [List.cons.injEq, and_true] at e0
  obtain rfl := e0
  obtain ⟨x1Sum, x1Last, e1, f1_0, f1_1⟩ := open29 h1 z1
  simp only [List.cons.injEq, and_true] at e1
  obtain ⟨rfl, rfl⟩ := e1
  obtain ⟨x2, e2, _, f2_0⟩ := DataW.trod_int Try.underlying21 h2
  simp only [List.cons.injEq, and_true] at e2
  obtain rfl := e2
  exact ⟨x0, x1Sum, x1Last, x2, rfl, f0_0, f1_0, f1_1, f2_0⟩


theorem first (W : World) : Calls Try.prog 9 #[.agg #[.int .i32 2, .int .i64 0, .int .i32 65536, .int .i32 0, .int .i32 0, .int .i32 (-9), .int .i32 9], .agg #[.int .i32 0, .int .i32 0, .int .i32 0, .int .i32 0], .int .i32 5, .int .i32 0] W fun r w' => r = .returned (.tuple #[.agg #[.int .i32 2, .int .i32 0, .int .i32 2, .int .i32 2], .int .i32 2, .int .i64 0]) ∧ Below W.heap.size W w' :=
  srvStep_ok 2 0 65536 0 0 (-9) 9 0 0 0 0 5 0 W ⟨⟨by decide, by decide⟩, ⟨by decide, by decide⟩, ⟨by decide, by decide⟩, ⟨by decide, by decide⟩, ⟨by decide, by decide⟩⟩ ⟨⟨by decide, by decide⟩, ⟨by decide, by decide⟩, ⟨by decide, by decide⟩, ⟨by decide, by decide⟩, ⟨by decide, by decide⟩, ⟨by decide, by decide⟩⟩ ⟨by decide, by decide, by decide⟩ (by decide) (by decide) 2 2 0 2 2 (by decide +kernel) (by decide +kernel) (by decide +kernel) (by decide +kernel) (by decide +kernel)

/-- how a goal goes -/
theorem goes {g x r : Int} (hg : I32 g) (hx : I32 x) (hr : I32 r) (h : 0 ≤ r) : absI (rateI g x r - g) ≤ r ∧ absI (rateI g x r - x) ≤ absI (g - x) ∧ (r < absI (g - x) ∨ rateI g x r = x) := by
  have a := wide_in hr.1 hr.2
  have e : wide r = r := by
    have : absI r = r := by unfold absI; rw [if_neg (by omega)]
    omega
  have b := s32_in (g - r)
  have c := s32_in (g + r)
  obtain ⟨g1, g2⟩ := hg
  obtain ⟨x1, x2⟩ := hx
  obtain ⟨r1, r2⟩ := hr
  unfold rateI
  rw [e]
  generalize s32 (g - r) = p at *
  generalize s32 (g + r) = q at *
  unfold bnd absI
  repeat' split
  all_goals omega
/-- where a valve goes -/
theorem opens {v o lo hi : Int} (n : Nat) (h1 : lo ≤ o) (h2 : o ≤ hi) : min lo v ≤ lowI v o n ∧ lowI v o n ≤ max hi v := by
  have p := step_in (d := o - v) (pow2_pos n)
  unfold lowI
  omega

set_option maxHeartbeats 4000000 in
set_option maxRecDepth 100000 in
theorem walk_bad (r m P I D lo hi g s t v x p : Int) (w : World) (h : ¬ (OkV r m ∧ lo ≤ s ∧ s ≤ hi)) :
    Calls Try.prog 5 #[.agg #[.int .i32 r, .int .i64 m, .int .i32 P, .int .i32 I, .int .i32 D, .int .i32 lo, .int .i32 hi], .agg #[.int .i32 g, .int .i32 s, .int .i32 t, .int .i32 v], .int .i32 x, .int .i32 p] w fun r w' => r = .returned (.bool true) ∧ Below w.heap.size w w' := by
  have B0 : Hid (_) := (sx_new w r m P I D lo hi g s t v 27 31).alloc (.cells #[.int .i32 2, .int .i64 0, .int .i32 65536, .int .i32 0, .int .i32 0, .int .i32 (-9), .int .i32 9] 27)
  have C2 : Hid (_) := fun W => srvStep_bad r m P I D lo hi g s t v x p W h
  clear h
  go_enter Try.func5, Try.ntmps5
  go_wp2_with fail
  refine (first _).mono ?_
  rintro e' w1 ⟨rfl, hb⟩
  have B1 : Hid (_) := B0.out.step hb
  clear hb B0
  obtain ⟨⟨l0, l1⟩, ⟨p0, p1, p2, p3, p4, p5, p6⟩, s0, s1, s2, s3⟩ := B1.out.facts
  go_wp2_with fail
  refine (C2.out _).mono ?_
  rintro e' w2 ⟨rfl, hb⟩
  clear l0 l1 p0 p1 p2 p3 p4 p5 p6 s0 s1 s2 s3
  have B2 : Hid (_) := (B1.out.alloc (.cells #[.int .i32 2, .int .i32 0, .int .i32 2, .int .i32 2] 31)).step hb
  clear hb B1
  go_wp2_with fail
  go_ret
  exact ⟨rfl, (B2.out.alloc _).bel⟩

set_option maxHeartbeats 8000000 in
set_option maxRecDepth 100000 in
theorem walk_ok (r m P I D lo hi g s t v x p : Int) (w : World) (G : GI P I D lo hi) (S : SI r g t v x p) (h : OkV r m) (h1 : lo ≤ s) (h2 : s ≤ hi) :
    Calls Try.prog 5 #[.agg #[.int .i32 r, .int .i64 m, .int .i32 P, .int .i32 I, .int .i32 D, .int .i32 lo, .int .i32 hi], .agg #[.int .i32 g, .int .i32 s, .int .i32 t, .int .i32 v], .int .i32 x, .int .i32 p] w fun r w' => r = .returned (.bool true) ∧ Below w.heap.size w w' := by
  obtain ⟨q, hq⟩ : ∃ q, rateI g x r = q := ⟨_, rfl⟩
  obtain ⟨e, he⟩ : ∃ e, s32 (q - p) = e := ⟨_, rfl⟩
  obtain ⟨s', hs⟩ : ∃ z, stS P I D lo hi s t e = z := ⟨_, rfl⟩
  obtain ⟨o, ho⟩ : ∃ z, stO P I D lo hi s t e = z := ⟨_, rfl⟩
  obtain ⟨y, hy⟩ : ∃ z, lowI v o m.toNat = z := ⟨_, rfl⟩
  have C1 : Hid (_) := fun W => srvStep_ok r m P I D lo hi g s t v x p W G S h h1 h2 q e s' o y hq he hs ho hy
  have qI : I32 q := by rw [← hq]; exact rateI_I S.r
  have XI : Hid (I32 x) := S.x
  have QI : Hid (I32 q) := qI
  have GI : Hid (I32 g) := S.g
  have k := goes (g := g) (x := x) S.g S.x S.r h.1
  rw [hq] at k
  have ko := stO_in (P := P) (I := I) (D := D) (s := s) (t := t) (e := e) (Int.le_trans h1 h2)
  rw [ho] at ko
  have kv := opens (v := v) m.toNat ko.1 ko.2
  rw [hy] at kv
  obtain ⟨A, hA⟩ : ∃ A : Int → Int → Int, ∀ x y, absI (x - y) = A x y := ⟨fun x y => absI (x - y), fun _ _ => rfl⟩
  rw [hA, hA, hA] at k
  have C4 : Hid (∀ a b W, I32 a → I32 b → Calls Try.prog 13 #[.int .i32 a, .int .i32 b] W fun r w' => r = .returned (.int .i64 (A a b)) ∧ w' = W) := fun a b W ha hb => by
    rw [← hA]
    exact apart_any _ _ ha.1 ha.2 hb.1 hb.2 W
  have C5 : Hid (∀ W, Calls Try.prog 13 #[.int .i32 g, .int .i32 x] W fun r w' => r = .returned (.int .i64 (A g x)) ∧ w' = W) := fun W => C4.out g x W S.g S.x
  have MN : ∀ (ts : Array TypeId) (t : TypeId) W, (Builtin.min_ ts t #[.int .i32 lo, .int .i32 v]).run Try.prog W = .ok (.int .i32 (min lo v)) W := fun ts t W => by
    rw [run_min_int2 W ts t .i32 .i32 lo v]
    by_cases e : v < lo
    · rw [if_pos e, show min lo v = v from by omega]
    · rw [if_neg e, show min lo v = lo from by omega]
  have MX : ∀ (ts : Array TypeId) (t : TypeId) W, (Builtin.max_ ts t #[.int .i32 hi, .int .i32 v]).run Try.prog W = .ok (.int .i32 (max hi v)) W := fun ts t W => by
    rw [run_max_int2 W ts t .i32 .i32 hi v]
    by_cases e : hi < v
    · rw [if_pos e, show max hi v = v from by omega]
    · rw [if_neg e, show max hi v = hi from by omega]
  generalize min lo v = mn at *
  generalize max hi v = mx at *
  obtain ⟨k1, k2, k3⟩ := k
  obtain ⟨v1, v2⟩ := kv
  obtain ⟨r1, r2⟩ := S.r
  have B0 : Hid (_) := (sx_new w r m P I D lo hi g s t v 27 31).alloc (.cells #[.int .i32 2, .int .i64 0, .int .i32 65536, .int .i32 0, .int .i32 0, .int .i32 (-9), .int .i32 9] 27)
  clear G S h h1 h2 hq he hs ho hy ko hA qI
  go_enter Try.func5, Try.ntmps5
  go_wp2_with fail
  refine (first _).mono ?_
  rintro e' w1 ⟨rfl, hb⟩
  have B1 : Hid (_) := B0.out.step hb
  clear hb B0
  obtain ⟨⟨l0, l1⟩, ⟨p0, p1, p2, p3, p4, p5, p6⟩, s0, s1, s2, s3⟩ := B1.out.facts
  go_wp2_with fail
  refine (C1.out _).mono ?_
  rintro e' w2 ⟨rfl, hb⟩
  clear l0 l1 p0 p1 p2 p3 p4 p5 p6 s0 s1 s2 s3
  have B2 : Hid (_) := (B1.out.alloc (.cells #[.int .i32 2, .int .i32 0, .int .i32 2, .int .i32 2] 31)).step hb
  clear hb B1
  obtain ⟨⟨l0, l1⟩, ⟨p0, p1, p2, p3, p4, p5, p6⟩, s0, s1, s2, s3⟩ := B2.out.facts
  go_wp2_with fail
  refine (C5.out _).mono ?_
  rintro e' w3 ⟨rfl, rfl⟩
  obtain ⟨W, hW⟩ : ∃ W, W = w2.alloc (.cells #[.int .i32 q, .int .i32 s', .int .i32 e, .int .i32 y] 31) := ⟨_, rfl⟩
  rw [← hW]
  have B3 : Hid (_) := B2.out.alloc (.cells #[.int .i32 q, .int .i32 s', .int .i32 e, .int .i32 y] 31)
  have X3 : Hid (_) := cells_new w2 #[.int .i32 q, .int .i32 s', .int .i32 e, .int .i32 y] 31
  rw [← hW] at B3 X3
  clear hW l0 l1 p0 p1 p2 p3 p4 p5 p6 s0 s1 s2 s3 B2
  obtain ⟨⟨l0, l1⟩, ⟨p0, p1, p2, p3, p4, p5, p6⟩, s0, s1, s2, s3⟩ := B3.out.facts
  have x0 := X3.out.cell 0 _ rfl
  have x1 := X3.out.cell 1 _ rfl
  have x2 := X3.out.cell 2 _ rfl
  have x3 := X3.out.cell 3 _ rfl
  have lx := X3.out.lt
  have g1 : decide (A q g ≤ r) = true := by simpa using k1
  have g2 : decide (A q x ≤ A g x) = true := by simpa using k2
  by_cases k4 : r < A g x
  · clear k3
    have g3 : decide (r < A g x) = true := by simpa using k4
    go_wp2_with fail
    go_big_quiet (first | (go_at_call 13; exact Calls.quiet_of_same (C4.out _ _ _ (by first | exact QI.out | exact XI.out | exact GI.out) (by first | exact QI.out | exact XI.out | exact GI.out))))
    go_wp2_with fail
    go_region
    go_wp2_with fail
    go_ret
    exact ⟨rfl, (B3.out.step (below_drewN (Below.refl _ _) _)).bel⟩
  · obtain rfl : q = x := by omega
    clear k3
    have g3 : decide (r < A g q) = false := by simpa using k4
    go_wp2_with fail
    go_big_quiet (first | (go_at_call 13; exact Calls.quiet_of_same (C4.out _ _ _ (by first | exact QI.out | exact XI.out | exact GI.out) (by first | exact QI.out | exact XI.out | exact GI.out))))
    go_wp2_with fail
    go_region
    go_wp2_with fail
    go_ret
    exact ⟨rfl, (B3.out.step (below_drewN (Below.refl _ _) _)).bel⟩

theorem walk (cRate : Int) (cSoft : Int) (cGainP : Int) (cGainI : Int) (cGainD : Int) (cGainLow : Int) (cGainHigh : Int) (sGoal : Int) (sPidSum : Int) (sPidLast : Int) (sValve : Int) (want : Int) (pos : Int) (w : World) (h_cRate : (Lit.int .i32 cRate).wf = true) (h_cSoft : (Lit.int .i64 cSoft).wf = true) (h_cGainP : (Lit.int .i32 cGainP).wf = true) (h_cGainI : (Lit.int .i32 cGainI).wf = true) (h_cGainD : (Lit.int .i32 cGainD).wf = true) (h_cGainLow : (Lit.int .i32 cGainLow).wf = true) (h_cGainHigh : (Lit.int .i32 cGainHigh).wf = true) (h_sGoal : (Lit.int .i32 sGoal).wf = true) (h_sPidSum : (Lit.int .i32 sPidSum).wf = true) (h_sPidLast : (Lit.int .i32 sPidLast).wf = true) (h_sValve : (Lit.int .i32 sValve).wf = true) (h_want : (Lit.int .i32 want).wf = true) (h_pos : (Lit.int .i32 pos).wf = true) :
    Calls Try.prog 5 #[.agg #[.int .i32 cRate, .int .i64 cSoft, .int .i32 cGainP, .int .i32 cGainI, .int .i32 cGainD, .int .i32 cGainLow, .int .i32 cGainHigh], .agg #[.int .i32 sGoal, .int .i32 sPidSum, .int .i32 sPidLast, .int .i32 sValve], .int .i32 want, .int .i32 pos] w fun e w' => e = .returned (.bool true) ∧ Below w.heap.size w w' := by
  by_cases h : OkV cRate cSoft ∧ cGainLow ≤ sPidSum ∧ sPidSum ≤ cGainHigh
  · exact walk_ok _ _ _ _ _ _ _ _ _ _ _ _ _ w ⟨i32_of h_cGainP, i32_of h_cGainI, i32_of h_cGainD, i32_of h_cGainLow, i32_of h_cGainHigh⟩ ⟨i32_of h_cRate, i32_of h_sGoal, i32_of h_sPidLast, i32_of h_sValve, i32_of h_want, i32_of h_pos⟩ h.1 h.2.1 h.2.2
  · exact walk_bad _ _ _ _ _ _ _ _ _ _ _ _ _ w h

/-! ### THE ROW's STEP -/
set_option maxRecDepth 100000 in
theorem lifted (os : Os) (started : os.Started) (H : Type) (enc : TypeId × Value → H) :
    ReturnsInHanded {} Try.checked os 5 .any (Rows.servoGoalSpec.pre6 enc Try.prog Try.f5 Rows.servoGoalRow.domain false) (Rows.servoGoalSpec.post enc Try.prog Try.f5 false true false false) := by
  refine returnsInHanded_of_change_sized (C := Try.checked) own started (by kernel_rfl) Try.func5
    (ChangeSpec.witness6 (enc := enc) (C := Try.checked) false ⟨#[], #[.agg #[.int .i32 0, .int .i64 0, .int .i32 0, .int .i32 0, .int .i32 0, .int .i32 0, .int .i32 0], .agg #[.int .i32 0, .int .i32 0, .int .i32 0, .int .i32 0], .int .i32 0, .int .i32 0], []⟩ 8 (by kernel_rfl) (by kernel_rfl) (by kernel_rfl) (by kernel_rfl)) ?_
  intro W base args ds gs before hval0 hW hcnd hsz0 _
  have hval : ∀ (j : Nat) t v, Try.f5.params[j]? = some t → args[j]? = some v → Value.okWide Try.prog W .any base t v := hval0
  have hW' := hW
  obtain ⟨p, q, hA0, hV, rfl, hfz, hnd⟩ := hW
  have hA : DataW.TrodAll enc Try.prog W 0 (fun _ => true) true Try.f5.params.toList args.toList ds p := hA0
  rw [Try.params5] at hA hval
  obtain ⟨v_0, vs_0, d_0, ds_0, p_0, q_0, hargs, rfl, rfl, h_0, r_0⟩ := trodAll_cons hA
  obtain ⟨v_1, vs_1, d_1, ds_1, p_1, q_1, rfl, rfl, rfl, h_1, r_1⟩ := trodAll_cons r_0
  obtain ⟨v_2, vs_2, d_2, ds_2, p_2, q_2, rfl, rfl, rfl, h_2, r_2⟩ := trodAll_cons r_1
  obtain ⟨v_3, vs_3, d_3, ds_3, p_3, q_3, rfl, rfl, rfl, h_3, r_3⟩ := trodAll_cons r_2
  obtain ⟨rfl, rfl, rfl⟩ := trodAll_nil r_3
  obtain rfl : args = #[v_0, v_1, v_2, v_3] := by cases args; simp_all
  obtain ⟨rfl, rfl⟩ := trodVars_none hV
  have hz_0 : Light Try.prog 27 d_0 := light_of hsz0 (j := 0) (by first | rfl | (rw [Try.params5]; rfl)) rfl
  have k_0 := h_0
  have lt_0 : ∀ x ∈ p_0, x.block < W.heap.size := by obtain ⟨m, hm⟩ := k_0; exact DataW.trod_lt m _ _ _ hm
  obtain ⟨cs_0, rfl, _⟩ := okWide_struct Try.underlying27 (hval 0 27 v_0 rfl rfl)
  obtain ⟨cRate, cSoft, cGainP, cGainI, cGainD, cGainLow, cGainHigh, e_0, h_cRate, h_cSoft, h_cGainP, h_cGainI, h_cGainD, h_cGainLow, h_cGainHigh⟩ := (by obtain ⟨fuel, hf⟩ := h_0; exact open27 hf hz_0 : ∃ cRate : Int, ∃ cSoft : Int, ∃ cGainP : Int, ∃ cGainI : Int, ∃ cGainD : Int, ∃ cGainLow : Int, ∃ cGainHigh : Int, cs_0.toList = [.int .i32 cRate, .int .i64 cSoft, .int .i32 cGainP, .int .i32 cGainI, .int .i32 cGainD, .int .i32 cGainLow, .int .i32 cGainHigh] ∧ (Lit.int .i32 cRate).wf = true ∧ (Lit.int .i64 cSoft).wf = true ∧ (Lit.int .i32 cGainP).wf = true ∧ (Lit.int .i32 cGainI).wf = true ∧ (Lit.int .i32 cGainD).wf = true ∧ (Lit.int .i32 cGainLow).wf = true ∧ (Lit.int .i32 cGainHigh).wf = true)
  obtain rfl : cs_0 = #[.int .i32 cRate, .int .i64 cSoft, .int .i32 cGainP, .int .i32 cGainI, .int .i32 cGainD, .int .i32 cGainLow, .int .i32 cGainHigh] := by cases cs_0; simp_all
  clear e_0
  have hz_1 : Light Try.prog 31 d_1 := light_of hsz0 (j := 1) (by first | rfl | (rw [Try.params5]; rfl)) rfl
  have k_1 := h_1
  have lt_1 : ∀ x ∈ p_1, x.block < W.heap.size := by obtain ⟨m, hm⟩ := k_1; exact DataW.trod_lt m _ _ _ hm
  obtain ⟨cs_1, rfl, _⟩ := okWide_struct Try.underlying31 (hval 1 31 v_1 rfl rfl)
  obtain ⟨sGoal, sPidSum, sPidLast, sValve, e_1, h_sGoal, h_sPidSum, h_sPidLast, h_sValve⟩ := (by obtain ⟨fuel, hf⟩ := h_1; exact open31 hf hz_1 : ∃ sGoal : Int, ∃ sPidSum : Int, ∃ sPidLast : Int, ∃ sValve : Int, cs_1.toList = [.int .i32 sGoal, .int .i32 sPidSum, .int .i32 sPidLast, .int .i32 sValve] ∧ (Lit.int .i32 sGoal).wf = true ∧ (Lit.int .i32 sPidSum).wf = true ∧ (Lit.int .i32 sPidLast).wf = true ∧ (Lit.int .i32 sValve).wf = true)
  obtain rfl : cs_1 = #[.int .i32 sGoal, .int .i32 sPidSum, .int .i32 sPidLast, .int .i32 sValve] := by cases cs_1; simp_all
  clear e_1
  have hz_2 : Light Try.prog 21 d_2 := light_of hsz0 (j := 2) (by first | rfl | (rw [Try.params5]; rfl)) rfl
  have k_2 := h_2
  have lt_2 : ∀ x ∈ p_2, x.block < W.heap.size := by obtain ⟨m, hm⟩ := k_2; exact DataW.trod_lt m _ _ _ hm
  obtain ⟨want, rfl, rfl, rfl, h_want⟩ := open_int Try.underlying21 (hval 2 21 v_2 rfl rfl) h_2
  have hz_3 : Light Try.prog 21 d_3 := light_of hsz0 (j := 3) (by first | rfl | (rw [Try.params5]; rfl)) rfl
  have k_3 := h_3
  have lt_3 : ∀ x ∈ p_3, x.block < W.heap.size := by obtain ⟨m, hm⟩ := k_3; exact DataW.trod_lt m _ _ _ hm
  obtain ⟨pos, rfl, rfl, rfl, h_pos⟩ := open_int Try.underlying21 (hval 3 21 v_3 rfl rfl) h_3
  clear hA0 hval0
  refine (walk cRate cSoft cGainP cGainI cGainD cGainLow cGainHigh sGoal sPidSum sPidLast sValve want pos W h_cRate h_cSoft h_cGainP h_cGainI h_cGainD h_cGainLow h_cGainHigh h_sGoal h_sPidSum h_sPidLast h_sValve h_want h_pos).mono fun e W' ⟨he, bel⟩ => ?_
  subst he
  exact ⟨_, rfl, _, _, _, [], _, [], hW', trodAll_mk1 (shut_bool Try.underlying4 _), (trodAll_cons_mk (Below.trod laidOut (by kernel_rfl) (of_decide_eq_true (by kernel_rfl)) k_0 bel lt_0) (trodAll_cons_mk (Below.trod laidOut (by kernel_rfl) (of_decide_eq_true (by kernel_rfl)) k_1 bel lt_1) (trodAll_cons_mk (Below.trod laidOut (by kernel_rfl) (of_decide_eq_true (by kernel_rfl)) k_2 bel lt_2) (trodAll_cons_mk (Below.trod laidOut (by kernel_rfl) (of_decide_eq_true (by kernel_rfl)) k_3 bel lt_3) trodAll_mk0)))), rfl, bel.frame _, fun h => by cases h⟩

theorem over : Rows.servoGoalRow.holds Try.pinned (OpenSpec.ofChange Rows.servoGoalSpec) :=
  OpenClaim.holds_of_wide 5 Try.f5 rfl rfl rfl rfl rfl rfl rfl ⟨rfl, rfl, rfl, rfl, rfl⟩ rfl rfl rfl rfl rfl (by kernel_rfl) Try.func5 (by kernel_rfl)
    (of_decide_eq_true (by kernel_rfl)) (by unfold Func.isWrapper; first | (rw [if_pos (by decide +kernel)]; kernel_rfl) | (rw [if_neg (by decide +kernel)]; exact ⟨rfl, rfl⟩))
    (fun os started H enc _ => lifted os started H enc)


end Go.Proofs.Ytbpenfjnfoljoaa.servoGoal
namespace Go.Proofs.Ytbpenfjnfoljoaa
/-- THE STATEMENT -/
theorem servoGoal_holds : Rows.ServoGoalSaid := servoGoal.over
#print axioms servoGoal_holds
end Go.Proofs.Ytbpenfjnfoljoaa
