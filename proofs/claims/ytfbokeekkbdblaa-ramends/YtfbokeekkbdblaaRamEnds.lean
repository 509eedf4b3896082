/-
  Whatever is handed in, the law RamEnds returns true: the ram stays between its ends, and Vel is how far it came; more drag, or less gain, brings it no farther. No condition.
-/
import Derived.Test.YtfbokeekkbdblaaRamStp
import Derived.Test.YtfbokeekkbdblaaKeep
import Derived.Test.YtfbokeekkbdblaaOpenZ
import Derived.ProofKit
namespace Go.Proofs.Ytfbokeekkbdblaa.ramEnds
open Go.ChangeShapes Go.WideShapes Go.ChangeAt Go.RowKit
set_option linter.unusedVariables false

theorem own : ownKnob Try.prog.godebug = none := by kernel_rfl
theorem laidOut : laidOutB Try.prog = true := by kernel_rfl

theorem list2 {l : List Value} (h : l.length = 2) : ∃ c0 c1, l = [c0, c1] := by
  match l, h with
  | [c0, c1], _ => exact ⟨c0, c1, rfl⟩

theorem list4 {l : List Value} (h : l.length = 4) : ∃ c0 c1 c2 c3, l = [c0, c1, c2, c3] := by
  match l, h with
  | [c0, c1, c2, c3], _ => exact ⟨c0, c1, c2, c3, rfl⟩

theorem open33 {H : Type} {enc : TypeId × Value → H} {w : World} {base : Nat} {spare : Nat → Bool} {held : Bool} {fuel : Nat} {cs : List Value} {x : DataW H × List MemPlace} (h : DataW.trod enc Try.prog w base spare held fuel 33 cs = some x) (hz : Light Try.prog 33 x.1) :
    ∃ vGain : Int, ∃ vDrag : Int, ∃ vLow : Int, ∃ vHigh : Int, cs = [.int .i32 vGain, .int .i64 vDrag, .int .i32 vLow, .int .i32 vHigh] ∧ (Lit.int .i32 vGain).wf = true ∧ (Lit.int .i64 vDrag).wf = true ∧ (Lit.int .i32 vLow).wf = true ∧ (Lit.int .i32 vHigh).wf = true := by
  obtain ⟨hl, hf⟩ := trod_field_z Try.underlying33 h hz
  rw [show Try.prog.cellsOf 33 = 4 from by kernel_rfl] at hl
  obtain ⟨c0, c1, c2, c3, rfl⟩ := list4 hl
  obtain ⟨n0, y0, h0, z0⟩ := hf 0 _ rfl
  replace h0 : DataW.trod enc Try.prog w base spare held n0 21 (([c0, c1, c2, c3] : List Value).drop 0 |>.take (Try.prog.cellsOf 21)) = some y0 := h0
  rw [show Try.prog.cellsOf 21 = 1 from by kernel_rfl] at h0
  replace h0 : DataW.trod enc Try.prog w base spare held n0 21 [c0] = some y0 := h0
  obtain ⟨n1, y1, h1, z1⟩ := hf 1 _ rfl
  replace h1 : DataW.trod enc Try.prog w base spare held n1 3 (([c0, c1, c2, c3] : List Value).drop 1 |>.take (Try.prog.cellsOf 3)) = some y1 := h1
  rw [show Try.prog.cellsOf 3 = 1 from by kernel_rfl] at h1
  replace h1 : DataW.trod enc Try.prog w base spare held n1 3 [c1] = some y1 := h1
  obtain ⟨n2, y2, h2, z2⟩ := hf 2 _ rfl
  replace h2 : DataW.trod enc Try.prog w base spare held n2 21 (([c0, c1, c2, c3] : List Value).drop 2 |>.take (Try.prog.cellsOf 21)) = some y2 := h2
  rw [show Try.prog.cellsOf 21 = 1 from by kernel_rfl] at h2
  replace h2 : DataW.trod enc Try.prog w base spare held n2 21 [c2] = some y2 := h2
  obtain ⟨n3, y3, h3, z3⟩ := hf 3 _ rfl
  replace h3 : DataW.trod enc Try.prog w base spare held n3 21 (([c0, c1, c2, c3] : List Value).drop 3 |>.take (Try.prog.cellsOf 21)) = some y3 := h3
  rw [show Try.prog.cellsOf 21 = 1 from by kernel_rfl] at h3
  replace h3 : DataW.trod enc Try.prog w base spare held n3 21 [c3] = some y3 := h3
  obtain ⟨x0, e0, _, f0_0⟩ := DataW.trod_int Try.underlying21 h0
  simp only [List.cons.injEq, and_true] at e0
  obtain rfl := e0
  obtain ⟨x1, e1, _, f1_0⟩ := DataW.trod_int Try.underlying3 h1
  simp only [List.cons.injEq, and_true] at e1
  obtain rfl := e1
  obtain ⟨x2, e2, _, f2_0⟩ := DataW.trod_int Try.underlying21 h2
  simp only [List.cons.injEq, and_true] at e2
  obtain rfl := e2
  obtain ⟨x3, e3, _, f3_0⟩ := DataW.trod_int Try.underlying21 h3
  simp only [List.cons.injEq, and_true] at e3
  obtain rfl := e3
  exact ⟨x0, x1, x2, x3, rfl, f0_0, f1_0, f2_0, f3_0⟩

theorem open35 {H : Type} {enc : TypeId × Value → H} {w : World} {base : Nat} {spare : Nat → Bool} {held : Bool} {fuel : Nat} {cs : List Value} {x : DataW H × List MemPlace} (h : DataW.trod enc Try.prog w base spare held fuel 35 cs = some x) (hz : Light Try.prog 35 x.1) :
    ∃ vPos : Int, ∃ vVel : Int, cs = [.int .i32 vPos, .int .i32 vVel] ∧ (Lit.int .i32 vPos).wf = true ∧ (Lit.int .i32 vVel).wf = true := by
  obtain ⟨hl, hf⟩ := trod_field_z Try.underlying35 h hz
  rw [show Try.prog.cellsOf 35 = 2 from by kernel_rfl] at hl
  obtain ⟨c0, c1, rfl⟩ := list2 hl
  obtain ⟨n0, y0, h0, z0⟩ := hf 0 _ rfl
  replace h0 : DataW.trod enc Try.prog w base spare held n0 21 (([c0, c1] : List Value).drop 0 |>.take (Try.prog.cellsOf 21)) = some y0 := h0
  rw [show Try.prog.cellsOf 21 = 1 from by kernel_rfl] at h0
  replace h0 : DataW.trod enc Try.prog w base spare held n0 21 [c0] = some y0 := h0
  obtain ⟨n1, y1, h1, z1⟩ := hf 1 _ rfl
  replace h1 : DataW.trod enc Try.prog w base spare held n1 21 (([c0, c1] : List Value).drop 1 |>.take (Try.prog.cellsOf 21)) = some y1 := h1
  rw [show Try.prog.cellsOf 21 = 1 from by kernel_rfl] at h1
  replace h1 : DataW.trod enc Try.prog w base spare held n1 21 [c1] = some y1 := h1
  obtain ⟨x0, e0, _, f0_0⟩ := DataW.trod_int Try.underlying21 h0
  simp only [List.cons.injEq, and_true] at e0
  obtain rfl := e0
  obtain ⟨x1, e1, _, f1_0⟩ := DataW.trod_int Try.underlying21 h1
  simp only [List.cons.injEq, and_true] at e1
  obtain rfl := e1
  exact ⟨x0, x1, rfl, f0_0, f1_0⟩

theorem open22 {H : Type} {enc : TypeId × Value → H} {w : World} {base : Nat} {spare : Nat → Bool} {held : Bool} {fuel : Nat} {cs : List Value} {x : DataW H × List MemPlace} (h : DataW.trod enc Try.prog w base spare held fuel 22 cs = some x) (hz : Light Try.prog 22 x.1) :
    ∃ v0 : Int, ∃ v1 : Int, ∃ v2 : Int, ∃ v3 : Int, cs = [.int .i32 v0, .int .i32 v1, .int .i32 v2, .int .i32 v3] ∧ (Lit.int .i32 v0).wf = true ∧ (Lit.int .i32 v1).wf = true ∧ (Lit.int .i32 v2).wf = true ∧ (Lit.int .i32 v3).wf = true := by
  obtain ⟨hl, hf⟩ := trod_elem_z Try.underlying22 h hz
  rw [show Try.prog.cellsOf 22 = 4 from by kernel_rfl] at hl
  obtain ⟨c0, c1, c2, c3, rfl⟩ := list4 hl
  obtain ⟨n0, y0, h0, z0⟩ := hf 0 (by decide)
  replace h0 : DataW.trod enc Try.prog w base spare held n0 21 (([c0, c1, c2, c3] : List Value).drop (0 * Try.prog.cellsOf 21) |>.take (Try.prog.cellsOf 21)) = some y0 := h0
  rw [show Try.prog.cellsOf 21 = 1 from by kernel_rfl] at h0
  replace h0 : DataW.trod enc Try.prog w base spare held n0 21 [c0] = some y0 := h0
  obtain ⟨n1, y1, h1, z1⟩ := hf 1 (by decide)
  replace h1 : DataW.trod enc Try.prog w base spare held n1 21 (([c0, c1, c2, c3] : List Value).drop (1 * Try.prog.cellsOf 21) |>.take (Try.prog.cellsOf 21)) = some y1 := h1
  rw [show Try.prog.cellsOf 21 = 1 from by kernel_rfl] at h1
  replace h1 : DataW.trod enc Try.prog w base spare held n1 21 [c1] = some y1 := h1
  obtain ⟨n2, y2, h2, z2⟩ := hf 2 (by decide)
  replace h2 : DataW.trod enc Try.prog w base spare held n2 21 (([c0, c1, c2, c3] : List Value).drop (2 * Try.prog.cellsOf 21) |>.take (Try.prog.cellsOf 21)) = some y2 := h2
  rw [show Try.prog.cellsOf 21 = 1 from by kernel_rfl] at h2
  replace h2 : DataW.trod enc Try.prog w base spare held n2 21 [c2] = some y2 := h2
  obtain ⟨n3, y3, h3, z3⟩ := hf 3 (by decide)
  replace h3 : DataW.trod enc Try.prog w base spare held n3 21 (([c0, c1, c2, c3] : List Value).drop (3 * Try.prog.cellsOf 21) |>.take (Try.prog.cellsOf 21)) = some y3 := h3
  rw [show Try.prog.cellsOf 21 = 1 from by kernel_rfl] at h3
  replace h3 : DataW.trod enc Try.prog w base spare held n3 21 [c3] = some y3 := h3
  obtain ⟨x0, e0, _, f0_0⟩ := DataW.trod_int Try.underlying21 h0
  simp only [List.cons.injEq, and_true] at e0
  obtain rfl := e0
  obtain ⟨x1, e1, _, f1_0⟩ := DataW.trod_int Try.underlying21 h1
  simp only [List.cons.injEq, and_true] at e1
  obtain rfl := e1
  obtain ⟨x2, e2, _, f2_0⟩ := DataW.trod_int Try.underlying21 h2
  simp only [List.cons.injEq, and_true] at e2
  obtain rfl := e2
  obtain ⟨x3, e3, _, f3_0⟩ := DataW.trod_int Try.underlying21 h3
  simp only [List.cons.injEq, and_true] at e3
  obtain rfl := e3
  exact ⟨x0, x1, x2, x3, rfl, f0_0, f1_0, f2_0, f3_0⟩

theorem open23 {H : Type} {enc : TypeId × Value → H} {w : World} {base : Nat} {spare : Nat → Bool} {held : Bool} {fuel : Nat} {cs : List Value} {x : DataW H × List MemPlace} (h : DataW.trod enc Try.prog w base spare held fuel 23 cs = some x) (hz : Light Try.prog 23 x.1) :
    ∃ v0 : Int, ∃ v1 : Int, ∃ v2 : Int, ∃ v3 : Int, cs = [.int .i64 v0, .int .i64 v1, .int .i64 v2, .int .i64 v3] ∧ (Lit.int .i64 v0).wf = true ∧ (Lit.int .i64 v1).wf = true ∧ (Lit.int .i64 v2).wf = true ∧ (Lit.int .i64 v3).wf = true := by
  obtain ⟨hl, hf⟩ := trod_elem_z Try.underlying23 h hz
  rw [show Try.prog.cellsOf 23 = 4 from by kernel_rfl] at hl
  obtain ⟨c0, c1, c2, c3, rfl⟩ := list4 hl
  obtain ⟨n0, y0, h0, z0⟩ := hf 0 (by decide)
  replace h0 : DataW.trod enc Try.prog w base spare held n0 3 (([c0, c1, c2, c3] : List Value).drop (0 * Try.prog.cellsOf 3) |>.take (Try.prog.cellsOf 3)) = some y0 := h0
  rw [show Try.prog.cellsOf 3 = 1 from by kernel_rfl] at h0
  replace h0 : DataW.trod enc Try.prog w base spare held n0 3 [c0] = some y0 := h0
  obtain ⟨n1, y1, h1, z1⟩ := hf 1 (by decide)
  replace h1 : DataW.trod enc Try.prog w base spare held n1 3 (([c0, c1, c2, c3] : List Value).drop (1 * Try.prog.cellsOf 3) |>.take (Try.prog.cellsOf 3)) = some y1 := h1
  rw [show Try.prog.cellsOf 3 = 1 from by kernel_rfl] at h1
  replace h1 : DataW.trod enc Try.prog w base spare held n1 3 [c1] = some y1 := h1
  obtain ⟨n2, y2, h2, z2⟩ := hf 2 (by decide)
  replace h2 : DataW.trod enc Try.prog w base spare held n2 3 (([c0, c1, c2, c3] : List Value).drop (2 * Try.prog.cellsOf 3) |>.take (Try.prog.cellsOf 3)) = some y2 := h2
  rw [show Try.prog.cellsOf 3 = 1 from by kernel_rfl] at h2
  replace h2 : DataW.trod enc Try.prog w base spare held n2 3 [c2] = some y2 := h2
  obtain ⟨n3, y3, h3, z3⟩ := hf 3 (by decide)
  replace h3 : DataW.trod enc Try.prog w base spare held n3 3 (([c0, c1, c2, c3] : List Value).drop (3 * Try.prog.cellsOf 3) |>.take (Try.prog.cellsOf 3)) = some y3 := h3
  rw [show Try.prog.cellsOf 3 = 1 from by kernel_rfl] at h3
  replace h3 : DataW.trod enc Try.prog w base spare held n3 3 [c3] = some y3 := h3
  obtain ⟨x0, e0, _, f0_0⟩ := DataW.trod_int Try.underlying3 h0
  simp only [List.cons.injEq, and_true] at e0
  obtain rfl := e0
  obtain ⟨x1, e1, _, f1_0⟩ := DataW.trod_int Try.underlying3 h1
  simp only [List.cons.injEq, and_true] at e1
  obtain rfl := e1
  obtain ⟨x2, e2, _, f2_0⟩ := DataW.trod_int Try.underlying3 h2
  simp only [List.cons.injEq, and_true] at e2
  obtain rfl := e2
  obtain ⟨x3, e3, _, f3_0⟩ := DataW.trod_int Try.underlying3 h3
  simp only [List.cons.injEq, and_true] at e3
  obtain rfl := e3
  exact ⟨x0, x1, x2, x3, rfl, f0_0, f1_0, f2_0, f3_0⟩


theorem way_div {m n : Int} (h : I32 m) (h1 : 0 ≤ n) (h2 : n ≤ 31) : shiftI m (-n) = m / 2 ^ n.toNat := by
  unfold shiftI
  by_cases e : n = 0
  · subst e
    rw [if_neg (by decide)]
    show s32 (m * 1) = m / 1
    rw [Int.mul_one, Int.ediv_one]
    exact bnd_mid h.1 h.2
  · rw [if_pos (by omega), Int.neg_neg, bnd_mid (by omega) (by omega)]
theorem bnd_mono {a b l h : Int} (q : a ≤ b) (q2 : l ≤ h) : bnd a l h ≤ bnd b l h := by
  unfold bnd
  repeat' split
  all_goals omega
theorem near {g n n2 lo hi p f : Int} (hp : I32 p) (h1 : lo ≤ p) (h2 : p ≤ hi) (n1 : 0 ≤ n) (n3 : n ≤ 30) (hn : n2 = n ∨ n2 = n + 1) : absI (posI g n2 lo hi p f - p) ≤ absI (posI g n lo hi p f - p) + 1 := by
  rcases hn with rfl | rfl
  · omega
  · unfold posI wayI
    have hm := mulI_I g f
    generalize mulI g f = m at *
    rw [way_div hm n1 (by omega), way_div hm (by omega) (by omega), clampI_eq_le (by omega), clampI_eq_le (by omega)]
    have e : m / 2 ^ (n + 1).toNat = m / 2 ^ n.toNat / 2 := by
      rw [show (n + 1).toNat = n.toNat + 1 from by omega]
      exact (div_step m n.toNat).symm
    rw [e]
    generalize m / 2 ^ n.toNat = t
    have hl : lo ≤ hi := by omega
    have cp : bnd p lo hi = p := bnd_mid h1 h2
    have sp : s32 p = p := bnd_mid hp.1 hp.2
    rcases Int.lt_or_le t 0 with q | q
    · have a1 : s32 (p + t) ≤ s32 (p + t / 2) := bnd_mono (by omega) (by decide)
      have a2 : s32 (p + t / 2) ≤ s32 p := bnd_mono (by omega) (by decide)
      rw [sp] at a2
      have b1 := bnd_mono a1 hl
      have b2 := bnd_mono a2 hl
      rw [cp] at b2
      unfold absI
      repeat' split
      all_goals omega
    · have a1 : s32 (p + t / 2) ≤ s32 (p + t) := bnd_mono (by omega) (by decide)
      have a2 : s32 p ≤ s32 (p + t / 2) := bnd_mono (by omega) (by decide)
      rw [sp] at a2
      have b1 := bnd_mono a1 hl
      have b2 := bnd_mono a2 hl
      rw [cp] at b2
      unfold absI
      repeat' split
      all_goals omega
theorem absI_bd {a b : Int} (ha : I32 a) (hb : I32 b) : 0 ≤ absI (a - b) ∧ absI (a - b) ≤ 4294967295 := by
  have := ha.1
  have := ha.2
  have := hb.1
  have := hb.2
  unfold absI
  split <;> omega

/-- the boxes of what was handed in -/
structure Ry (w : World) (g n lo hi p v p0 p1 p2 p3 a b c d : Int) (W : World) : Prop where
  bel : Below w.heap.size w W
  hb : Cells W w.heap.size [.int .i32 g, .int .i64 n, .int .i32 lo, .int .i32 hi]
  hr : Cells W (w.heap.size + 1) [.int .i32 p, .int .i32 v]
  hp : Cells W (w.heap.size + 1 + 1) [.int .i32 p0, .int .i32 p1, .int .i32 p2, .int .i32 p3]
  hm : Cells W (w.heap.size + 1 + 1 + 1) [.int .i64 a, .int .i64 b, .int .i64 c, .int .i64 d]
theorem Ry.step {w : World} {g n lo hi p v p0 p1 p2 p3 a b c d : Int} {W W' : World} (h : Ry w g n lo hi p v p0 p1 p2 p3 a b c d W) (hb : Below W.heap.size W W') : Ry w g n lo hi p v p0 p1 p2 p3 a b c d W' :=
  ⟨h.bel.trans (hb.mono h.bel.size), h.hb.step hb, h.hr.step hb, h.hp.step hb, h.hm.step hb⟩
theorem Ry.alloc {w : World} {g n lo hi p v p0 p1 p2 p3 a b c d : Int} {W : World} (h : Ry w g n lo hi p v p0 p1 p2 p3 a b c d W) (o : Obj) : Ry w g n lo hi p v p0 p1 p2 p3 a b c d (W.alloc o) := h.step ((Below.refl _ W).alloc (Nat.le_refl _) _)
theorem ry_new (w : World) (g n lo hi p v p0 p1 p2 p3 a b c d : Int) (t1 t2 t3 t4 : TypeId) : Ry w g n lo hi p v p0 p1 p2 p3 a b c d ((((w.alloc (.cells #[.int .i32 g, .int .i64 n, .int .i32 lo, .int .i32 hi] t1)).alloc (.cells #[.int .i32 p, .int .i32 v] t2)).alloc (.cells #[.int .i32 p0, .int .i32 p1, .int .i32 p2, .int .i32 p3] t3)).alloc (.cells #[.int .i64 a, .int .i64 b, .int .i64 c, .int .i64 d] t4)) := by
  have h1 := cells_new w #[.int .i32 g, .int .i64 n, .int .i32 lo, .int .i32 hi] t1
  have h2 := cells_new (w.alloc (.cells #[.int .i32 g, .int .i64 n, .int .i32 lo, .int .i32 hi] t1)) #[.int .i32 p, .int .i32 v] t2
  have h3 := cells_new ((w.alloc (.cells #[.int .i32 g, .int .i64 n, .int .i32 lo, .int .i32 hi] t1)).alloc (.cells #[.int .i32 p, .int .i32 v] t2)) #[.int .i32 p0, .int .i32 p1, .int .i32 p2, .int .i32 p3] t3
  have h4 := cells_new (((w.alloc (.cells #[.int .i32 g, .int .i64 n, .int .i32 lo, .int .i32 hi] t1)).alloc (.cells #[.int .i32 p, .int .i32 v] t2)).alloc (.cells #[.int .i32 p0, .int .i32 p1, .int .i32 p2, .int .i32 p3] t3)) #[.int .i64 a, .int .i64 b, .int .i64 c, .int .i64 d] t4
  simp only [World.size_alloc] at h2 h3 h4
  exact ⟨(((((Below.refl _ w).alloc (Nat.le_refl _) _).alloc (by simp) _).alloc (by simp; omega) _).alloc (by simp; omega) _), ((h1.alloc _).alloc _).alloc _, (h2.alloc _).alloc _, h3.alloc _, h4⟩
theorem Ry.facts {w : World} {g n lo hi p v p0 p1 p2 p3 a b c d : Int} {W : World} (h : Ry w g n lo hi p v p0 p1 p2 p3 a b c d W) :
    (W.cell? ⟨w.heap.size, 0, .none⟩ = some (.int .i32 g) ∧ W.cell? ⟨w.heap.size, 1, .none⟩ = some (.int .i64 n) ∧ W.cell? ⟨w.heap.size, 2, .none⟩ = some (.int .i32 lo) ∧ W.cell? ⟨w.heap.size, 3, .none⟩ = some (.int .i32 hi) ∧ w.heap.size < W.heap.size) ∧ (W.cell? ⟨w.heap.size + 1, 0, .none⟩ = some (.int .i32 p) ∧ W.cell? ⟨w.heap.size + 1, 1, .none⟩ = some (.int .i32 v) ∧ w.heap.size + 1 < W.heap.size) ∧ (W.cell? ⟨w.heap.size + 1 + 1, 0, .none⟩ = some (.int .i32 p0) ∧ W.cell? ⟨w.heap.size + 1 + 1, 1, .none⟩ = some (.int .i32 p1) ∧ W.cell? ⟨w.heap.size + 1 + 1, 2, .none⟩ = some (.int .i32 p2) ∧ W.cell? ⟨w.heap.size + 1 + 1, 3, .none⟩ = some (.int .i32 p3) ∧ w.heap.size + 1 + 1 < W.heap.size) ∧ (W.cell? ⟨w.heap.size + 1 + 1 + 1, 0, .none⟩ = some (.int .i64 a) ∧ W.cell? ⟨w.heap.size + 1 + 1 + 1, 1, .none⟩ = some (.int .i64 b) ∧ W.cell? ⟨w.heap.size + 1 + 1 + 1, 2, .none⟩ = some (.int .i64 c) ∧ W.cell? ⟨w.heap.size + 1 + 1 + 1, 3, .none⟩ = some (.int .i64 d) ∧ w.heap.size + 1 + 1 + 1 < W.heap.size) :=
  ⟨⟨h.hb.cell 0 _ rfl, h.hb.cell 1 _ rfl, h.hb.cell 2 _ rfl, h.hb.cell 3 _ rfl, h.hb.lt⟩, ⟨h.hr.cell 0 _ rfl, h.hr.cell 1 _ rfl, h.hr.lt⟩, ⟨h.hp.cell 0 _ rfl, h.hp.cell 1 _ rfl, h.hp.cell 2 _ rfl, h.hp.cell 3 _ rfl, h.hp.lt⟩, ⟨h.hm.cell 0 _ rfl, h.hm.cell 1 _ rfl, h.hm.cell 2 _ rfl, h.hm.cell 3 _ rfl, h.hm.lt⟩⟩

theorem first (W : World) : Calls Try.prog 13 #[.agg #[.int .i32 65536, .int .i64 0, .int .i32 (-9), .int .i32 9], .agg #[.int .i32 0, .int .i32 0], .agg #[.int .i32 4, .int .i32 0, .int .i32 0, .int .i32 0], .agg #[.int .i64 1, .int .i64 0, .int .i64 0, .int .i64 0], .int .i32 1] W fun r w' => r = .returned (.tuple #[.agg #[.int .i32 3, .int .i32 3], .int .i64 0]) ∧ Below W.heap.size W w' :=
  ramStep_ok 65536 0 (-9) 9 0 0 4 0 0 0 1 0 0 0 1 W ⟨by decide, by decide, by decide, by decide, by decide⟩ ⟨⟨by decide, by decide⟩, ⟨by decide, by decide⟩, ⟨by decide, by decide⟩, ⟨by decide, by decide⟩⟩ ⟨⟨by decide, by decide⟩, ⟨by decide, by decide⟩, ⟨by decide, by decide⟩, ⟨by decide, by decide⟩⟩ ⟨⟨by decide, by decide⟩, ⟨by decide, by decide⟩, ⟨by decide, by decide⟩, ⟨by decide, by decide⟩⟩ ⟨by decide, by decide⟩ 0 3 3 3 (by decide +kernel) (by decide +kernel) (by decide +kernel) (by decide +kernel)

set_option maxHeartbeats 4000000 in
set_option maxRecDepth 100000 in
theorem walk_bad (g n lo hi p v p0 p1 p2 p3 a b c d l : Int) (w : World) (hS : ∀ W, Calls Try.prog 13 #[.agg #[.int .i32 g, .int .i64 n, .int .i32 lo, .int .i32 hi], .agg #[.int .i32 p, .int .i32 v], .agg #[.int .i32 p0, .int .i32 p1, .int .i32 p2, .int .i32 p3], .agg #[.int .i64 a, .int .i64 b, .int .i64 c, .int .i64 d], .int .i32 l] W fun r w' => r = .returned (.tuple #[.agg #[.int .i32 0, .int .i32 0], .int .i64 1]) ∧ Below W.heap.size W w') :
    Calls Try.prog 5 #[.agg #[.int .i32 g, .int .i64 n, .int .i32 lo, .int .i32 hi], .agg #[.int .i32 p, .int .i32 v], .agg #[.int .i32 p0, .int .i32 p1, .int .i32 p2, .int .i32 p3], .agg #[.int .i64 a, .int .i64 b, .int .i64 c, .int .i64 d], .int .i32 l] w fun r w' => r = .returned (.bool true) ∧ Below w.heap.size w w' := by
  have C1 : Hid (_) := hS
  have B0 : Hid (_) := ry_new w g n lo hi p v p0 p1 p2 p3 a b c d 33 35 22 23
  clear hS
  go_enter Try.func5, Try.ntmps5
  go_wp2_with fail
  refine (first _).mono ?_
  rintro r w1 ⟨rfl, hb⟩
  have B1 : Hid (_) := B0.out.step hb
  clear hb B0
  obtain ⟨⟨b0, b1, b2, b3, l0⟩, ⟨r0, r1, l1⟩, ⟨h0, h1, h2, h3, l2⟩, m0, m1, m2, m3, l3⟩ := B1.out.facts
  go_wp2_with fail
  refine (C1.out _).mono ?_
  rintro r w2 ⟨rfl, hb⟩
  clear b0 b1 b2 b3 l0 r0 r1 l1 h0 h1 h2 h3 l2 m0 m1 m2 m3 l3
  have B2 : Hid (_) := (B1.out.alloc (.cells #[.int .i32 3, .int .i32 3] 35)).step hb
  clear hb B1
  go_wp2_with fail
  go_ret
  exact ⟨rfl, (B2.out.alloc _).bel⟩

set_option maxHeartbeats 8000000 in
set_option maxRecDepth 100000 in
theorem walk_ok (g n lo hi p v p0 p1 p2 p3 a b c d l : Int) (w : World) (h : OkB g n lo hi p) (hm : OkM a ∧ OkM b ∧ OkM c ∧ OkM d) (hB : BI g lo hi p) (hp : F4 p0 p1 p2 p3) (hl : I32 l) :
    Calls Try.prog 5 #[.agg #[.int .i32 g, .int .i64 n, .int .i32 lo, .int .i32 hi], .agg #[.int .i32 p, .int .i32 v], .agg #[.int .i32 p0, .int .i32 p1, .int .i32 p2, .int .i32 p3], .agg #[.int .i64 a, .int .i64 b, .int .i64 c, .int .i64 d], .int .i32 l] w fun r w' => r = .returned (.bool true) ∧ Below w.heap.size w w' := by
  obtain ⟨k, hk⟩ : ∃ k, isM a 3 + isM b 3 + isM c 3 + isM d 3 = k := ⟨_, rfl⟩
  have hk0 : 0 ≤ k ∧ k ≤ 4 := by
    have := isM_bd a 3
    have := isM_bd b 3
    have := isM_bd c 3
    have := isM_bd d 3
    omega
  obtain ⟨f, hf⟩ : ∃ f, frcI l (act a p0) (act b p1) (act c p2) (act d p3) = f := ⟨_, rfl⟩
  obtain ⟨n2, hn2, hn3⟩ : ∃ n2, (n2 = n ∨ n2 = n + 1) ∧ min 8 (n + 1) = n2 := ⟨min 8 (n + 1), by have := h.2.2.2.2; omega, rfl⟩
  obtain ⟨q, hq⟩ : ∃ q, posI g (n + k) lo hi p f = q := ⟨_, rfl⟩
  obtain ⟨q2, hq2⟩ : ∃ q, posI g (n2 + k) lo hi p f = q := ⟨_, rfl⟩
  obtain ⟨u, hu⟩ : ∃ u, velI q p = u := ⟨_, rfl⟩
  obtain ⟨u2, hu2⟩ : ∃ u, velI q2 p = u := ⟨_, rfl⟩
  have h' : OkB g n2 lo hi p := ⟨h.1, h.2.1, h.2.2.1, by have := h.2.2.2.1; omega, by omega⟩
  have C1 : Hid (_) := fun W => ramStep_ok g n lo hi p v p0 p1 p2 p3 a b c d l W h hm hB hp hl k f q u hk hf hq hu
  have C2 : Hid (_) := fun W => ramStep_ok g n2 lo hi p v p0 p1 p2 p3 a b c d l W h' hm hB hp hl k f q2 u2 hk hf hq2 hu2
  have hqI : I32 q := by rw [← hq]; exact clampI_I hB.lo hB.hi
  have hqI2 : I32 q2 := by rw [← hq2]; exact clampI_I hB.lo hB.hi
  have hin : lo ≤ q ∧ q ≤ hi := by rw [← hq]; exact clampI_in (Int.le_trans h.1 h.2.1)
  have hnear : absI (q2 - p) ≤ absI (q - p) + 1 := by
    rw [← hq2, ← hq]
    exact near hB.p h.1 h.2.1 (by have := h.2.2.2.1; omega) (by have := h.2.2.2.2; omega) (by omega)
  have C3 : Hid (∀ W, Calls Try.prog 14 #[.int .i32 q, .int .i32 p] W fun r w' => r = .returned (.int .i32 u) ∧ w' = W) := fun W => by
    rw [← hu]
    exact sub_any _ _ hqI.1 hqI.2 hB.p.1 hB.p.2 W
  obtain ⟨A, hA⟩ : ∃ A : Int → Int, ∀ x, absI (x - p) = A x := ⟨fun x => absI (x - p), fun _ => rfl⟩
  have C4 : Hid (∀ x W, I32 x → Calls Try.prog 12 #[.int .i32 x, .int .i32 p] W fun r w' => r = .returned (.int .i64 (A x)) ∧ w' = W) := fun x W hx => by
    rw [← hA]
    exact apart_any _ _ hx.1 hx.2 hB.p.1 hB.p.2 W
  have QI : Hid (I32 q) := hqI
  have QI2 : Hid (I32 q2) := hqI2
  have A1 := absI_bd hqI hB.p
  rw [hA] at A1
  rw [hA, hA] at hnear
  clear hA
  obtain ⟨a1, a2⟩ := A1
  obtain ⟨i1, i2⟩ := hin
  have n0 : 0 ≤ n := h.2.2.2.1
  have n8 : n ≤ 8 := h.2.2.2.2
  have MN : ∀ (ts : Array TypeId) (t : TypeId) W, (Builtin.min_ ts t #[.int .i64 8, .int .i64 (n + 1)]).run Try.prog W = .ok (.int .i64 n2) W := fun ts t W => by
    rw [run_min_int2 W ts t .i64 .i64 8 (n + 1)]
    by_cases e : n + 1 < 8
    · rw [if_pos e, show n2 = n + 1 from by omega]
    · rw [if_neg e, show n2 = 8 from by omega]
  clear hn2 hn3
  clear h hm hB hp hl hk hf hq hu hqI hqI2 hq2 hu2 h' hk0
  have B0 : Hid (_) := ry_new w g n lo hi p v p0 p1 p2 p3 a b c d 33 35 22 23
  go_enter Try.func5, Try.ntmps5
  go_wp2_with fail
  refine (first _).mono ?_
  rintro r w1 ⟨rfl, hb⟩
  have B1 : Hid (_) := B0.out.step hb
  clear hb B0
  obtain ⟨⟨b0, b1, b2, b3, l0⟩, ⟨r0, r1, l1⟩, ⟨h0, h1, h2, h3, l2⟩, m0, m1, m2, m3, l3⟩ := B1.out.facts
  go_wp2_with fail
  refine (C1.out _).mono ?_
  rintro r w2 ⟨rfl, hb⟩
  clear b0 b1 b2 b3 l0 r0 r1 l1 h0 h1 h2 h3 l2 m0 m1 m2 m3 l3
  have B2 : Hid (_) := (B1.out.alloc (.cells #[.int .i32 3, .int .i32 3] 35)).step hb
  clear hb B1
  obtain ⟨⟨b0, b1, b2, b3, l0⟩, ⟨r0, r1, l1⟩, ⟨h0, h1, h2, h3, l2⟩, m0, m1, m2, m3, l3⟩ := B2.out.facts
  go_wp2_with fail
  refine (C2.out _).mono ?_
  rintro r w3 ⟨rfl, hb⟩
  clear b0 b1 b2 b3 l0 r0 r1 l1 h0 h1 h2 h3 l2 m0 m1 m2 m3 l3
  have B3 : Hid (_) := ((B2.out.alloc (.cells #[.int .i32 q, .int .i32 u] 35)).alloc (.cells #[.int .i32 g, .int .i64 n2, .int .i32 lo, .int .i32 hi] 33)).step hb
  have X3 : Hid (_) := ((cells_new w2 #[.int .i32 q, .int .i32 u] 35).alloc (.cells #[.int .i32 g, .int .i64 n2, .int .i32 lo, .int .i32 hi] 33)).step hb
  clear hb B2
  obtain ⟨⟨b0, b1, b2, b3, l0⟩, ⟨r0, r1, l1⟩, -, -⟩ := B3.out.facts
  have x0 := X3.out.cell 0 _ rfl
  have x1 := X3.out.cell 1 _ rfl
  have lx := X3.out.lt
  go_wp2_with fail
  go_big_quiet (first | (go_at_call 14; exact Calls.quiet_of_same (C3.out _)) | (go_at_call 12; exact Calls.quiet_of_same (C4.out _ _ (by first | exact QI.out | exact QI2.out))))
  go_wp2_with fail
  go_ret
  exact ⟨rfl, ((B3.out.alloc _).step (drewN_step _ _)).bel⟩

theorem walk (bGain : Int) (bDrag : Int) (bLow : Int) (bHigh : Int) (rPos : Int) (rVel : Int) (push0 : Int) (push1 : Int) (push2 : Int) (push3 : Int) (modes0 : Int) (modes1 : Int) (modes2 : Int) (modes3 : Int) (load : Int) (w : World) (h_bGain : (Lit.int .i32 bGain).wf = true) (h_bDrag : (Lit.int .i64 bDrag).wf = true) (h_bLow : (Lit.int .i32 bLow).wf = true) (h_bHigh : (Lit.int .i32 bHigh).wf = true) (h_rPos : (Lit.int .i32 rPos).wf = true) (h_rVel : (Lit.int .i32 rVel).wf = true) (h_push0 : (Lit.int .i32 push0).wf = true) (h_push1 : (Lit.int .i32 push1).wf = true) (h_push2 : (Lit.int .i32 push2).wf = true) (h_push3 : (Lit.int .i32 push3).wf = true) (h_modes0 : (Lit.int .i64 modes0).wf = true) (h_modes1 : (Lit.int .i64 modes1).wf = true) (h_modes2 : (Lit.int .i64 modes2).wf = true) (h_modes3 : (Lit.int .i64 modes3).wf = true) (h_load : (Lit.int .i32 load).wf = true) :
    Calls Try.prog 5 #[.agg #[.int .i32 bGain, .int .i64 bDrag, .int .i32 bLow, .int .i32 bHigh], .agg #[.int .i32 rPos, .int .i32 rVel], .agg #[.int .i32 push0, .int .i32 push1, .int .i32 push2, .int .i32 push3], .agg #[.int .i64 modes0, .int .i64 modes1, .int .i64 modes2, .int .i64 modes3], .int .i32 load] w fun e w' => e = .returned (.bool true) ∧ Below w.heap.size w w' := by
  by_cases h : OkB bGain bDrag bLow bHigh rPos
  · by_cases hm : OkM modes0 ∧ OkM modes1 ∧ OkM modes2 ∧ OkM modes3
    · exact walk_ok _ _ _ _ _ _ _ _ _ _ _ _ _ _ _ w h hm ⟨i32_of h_bGain, i32_of h_bLow, i32_of h_bHigh, i32_of h_rPos⟩ ⟨i32_of h_push0, i32_of h_push1, i32_of h_push2, i32_of h_push3⟩ (i32_of h_load)
    · exact walk_bad _ _ _ _ _ _ _ _ _ _ _ _ _ _ _ w fun W => ramStep_mode _ _ _ _ _ _ _ _ _ _ _ _ _ _ _ W h hm
  · exact walk_bad _ _ _ _ _ _ _ _ _ _ _ _ _ _ _ w fun W => ramStep_bad _ _ _ _ _ _ _ _ _ _ _ _ _ _ _ W h

/-! ### THE ROW's STEP -/
set_option maxRecDepth 100000 in
theorem lifted (os : Os) (started : os.Started) (H : Type) (enc : TypeId × Value → H) :
    ReturnsInHanded {} Try.checked os 5 .any (Rows.ramEndsSpec.pre6 enc Try.prog Try.f5 Rows.ramEndsRow.domain false) (Rows.ramEndsSpec.post enc Try.prog Try.f5 false true false false) := by
  refine returnsInHanded_of_change_sized (C := Try.checked) own started (by kernel_rfl) Try.func5
    (ChangeSpec.witness6 (enc := enc) (C := Try.checked) false ⟨#[], #[.agg #[.int .i32 0, .int .i64 0, .int .i32 0, .int .i32 0], .agg #[.int .i32 0, .int .i32 0], .agg #[.int .i32 0, .int .i32 0, .int .i32 0, .int .i32 0], .agg #[.int .i64 0, .int .i64 0, .int .i64 0, .int .i64 0], .int .i32 0], []⟩ 8 (by kernel_rfl) (by kernel_rfl) (by kernel_rfl) (by kernel_rfl)) ?_
  intro W base args ds gs before hval0 hW hcnd hsz0 _
  have hval : ∀ (j : Nat) t v, Try.f5.params[j]? = some t → args[j]? = some v → Value.okWide Try.prog W .any base t v := hval0
  have hW' := hW
  obtain ⟨p, q, hA0, hV, rfl, hfz, hnd⟩ := hW
  have hA : DataW.TrodAll enc Try.prog W 0 (fun _ => true) true Try.f5.params.toList args.toList ds p := hA0
  rw [Try.params5] at hA hval
  obtain ⟨v_0, vs_0, d_0, ds_0, p_0, q_0, hargs, rfl, rfl, h_0, r_0⟩ := trodAll_cons hA
  obtain ⟨v_1, vs_1, d_1, ds_1, p_1, q_1, rfl, rfl, rfl, h_1, r_1⟩ := trodAll_cons r_0
  obtain ⟨v_2, vs_2, d_2, ds_2, p_2, q_2, rfl, rfl, rfl, h_2, r_2⟩ := trodAll_cons r_1
  obtain ⟨v_3, vs_3, d_3, ds_3, p_3, q_3, rfl, rfl, rfl, h_3, r_3⟩ := trodAll_cons r_2
  obtain ⟨v_4, vs_4, d_4, ds_4, p_4, q_4, rfl, rfl, rfl, h_4, r_4⟩ := trodAll_cons r_3
  obtain ⟨rfl, rfl, rfl⟩ := trodAll_nil r_4
  obtain rfl : args = #[v_0, v_1, v_2, v_3, v_4] := by cases args; simp_all
  obtain ⟨rfl, rfl⟩ := trodVars_none hV
  have hz_0 : Light Try.prog 33 d_0 := light_of hsz0 (j := 0) (by first | rfl | (rw [Try.params5]; rfl)) rfl
  have k_0 := h_0
  have lt_0 : ∀ x ∈ p_0, x.block < W.heap.size := by obtain ⟨m, hm⟩ := k_0; exact DataW.trod_lt m _ _ _ hm
  obtain ⟨cs_0, rfl, _⟩ := okWide_struct Try.underlying33 (hval 0 33 v_0 rfl rfl)
  obtain ⟨bGain, bDrag, bLow, bHigh, e_0, h_bGain, h_bDrag, h_bLow, h_bHigh⟩ := (by obtain ⟨fuel, hf⟩ := h_0; exact open33 hf hz_0 : ∃ bGain : Int, ∃ bDrag : Int, ∃ bLow : Int, ∃ bHigh : Int, cs_0.toList = [.int .i32 bGain, .int .i64 bDrag, .int .i32 bLow, .int .i32 bHigh] ∧ (Lit.int .i32 bGain).wf = true ∧ (Lit.int .i64 bDrag).wf = true ∧ (Lit.int .i32 bLow).wf = true ∧ (Lit.int .i32 bHigh).wf = true)
  obtain rfl : cs_0 = #[.int .i32 bGain, .int .i64 bDrag, .int .i32 bLow, .int .i32 bHigh] := by cases cs_0; simp_all
  clear e_0
  have hz_1 : Light Try.prog 35 d_1 := light_of hsz0 (j := 1) (by first | rfl | (rw [Try.params5]; rfl)) rfl
  have k_1 := h_1
  have lt_1 : ∀ x ∈ p_1, x.block < W.heap.size := by obtain ⟨m, hm⟩ := k_1; exact DataW.trod_lt m _ _ _ hm
  obtain ⟨cs_1, rfl, _⟩ := okWide_struct Try.underlying35 (hval 1 35 v_1 rfl rfl)
  obtain ⟨rPos, rVel, e_1, h_rPos, h_rVel⟩ := (by obtain ⟨fuel, hf⟩ := h_1; exact open35 hf hz_1 : ∃ rPos : Int, ∃ rVel : Int, cs_1.toList = [.int .i32 rPos, .int .i32 rVel] ∧ (Lit.int .i32 rPos).wf = true ∧ (Lit.int .i32 rVel).wf = true)
  obtain rfl : cs_1 = #[.int .i32 rPos, .int .i32 rVel] := by cases cs_1; simp_all
  clear e_1
  have hz_2 : Light Try.prog 22 d_2 := light_of hsz0 (j := 2) (by first | rfl | (rw [Try.params5]; rfl)) rfl
  have k_2 := h_2
  have lt_2 : ∀ x ∈ p_2, x.block < W.heap.size := by obtain ⟨m, hm⟩ := k_2; exact DataW.trod_lt m _ _ _ hm
  obtain ⟨cs_2, rfl, _⟩ := okWide_array Try.underlying22 (hval 2 22 v_2 rfl rfl)
  obtain ⟨push0, push1, push2, push3, e_2, h_push0, h_push1, h_push2, h_push3⟩ := (by obtain ⟨fuel, hf⟩ := h_2; exact open22 hf hz_2 : ∃ push0 : Int, ∃ push1 : Int, ∃ push2 : Int, ∃ push3 : Int, cs_2.toList = [.int .i32 push0, .int .i32 push1, .int .i32 push2, .int .i32 push3] ∧ (Lit.int .i32 push0).wf = true ∧ (Lit.int .i32 push1).wf = true ∧ (Lit.int .i32 push2).wf = true ∧ (Lit.int .i32 push3).wf = true)
  obtain rfl : cs_2 = #[.int .i32 push0, .int .i32 push1, .int .i32 push2, .int .i32 push3] := by cases cs_2; simp_all
  clear e_2
  have hz_3 : Light Try.prog 23 d_3 := light_of hsz0 (j := 3) (by first | rfl | (rw [Try.params5]; rfl)) rfl
  have k_3 := h_3
  have lt_3 : ∀ x ∈ p_3, x.block < W.heap.size := by obtain ⟨m, hm⟩ := k_3; exact DataW.trod_lt m _ _ _ hm
  obtain ⟨cs_3, rfl, _⟩ := okWide_array Try.underlying23 (hval 3 23 v_3 rfl rfl)
  obtain ⟨modes0, modes1, modes2, modes3, e_3, h_modes0, h_modes1, h_modes2, h_modes3⟩ := (by obtain ⟨fuel, hf⟩ := h_3; exact open23 hf hz_3 : ∃ modes0 : Int, ∃ modes1 : Int, ∃ modes2 : Int, ∃ modes3 : Int, cs_3.toList = [.int .i64 modes0, .int .i64 modes1, .int .i64 modes2, .int .i64 modes3] ∧ (Lit.int .i64 modes0).wf = true ∧ (Lit.int .i64 modes1).wf = true ∧ (Lit.int .i64 modes2).wf = true ∧ (Lit.int .i64 modes3).wf = true)
  obtain rfl : cs_3 = #[.int .i64 modes0, .int .i64 modes1, .int .i64 modes2, .int .i64 modes3] := by cases cs_3; simp_all
  clear e_3
  have hz_4 : Light Try.prog 21 d_4 := light_of hsz0 (j := 4) (by first | rfl | (rw [Try.params5]; rfl)) rfl
  have k_4 := h_4
  have lt_4 : ∀ x ∈ p_4, x.block < W.heap.size := by obtain ⟨m, hm⟩ := k_4; exact DataW.trod_lt m _ _ _ hm
  obtain ⟨load, rfl, rfl, rfl, h_load⟩ := open_int Try.underlying21 (hval 4 21 v_4 rfl rfl) h_4
  clear hA0 hval0
  refine (walk bGain bDrag bLow bHigh rPos rVel push0 push1 push2 push3 modes0 modes1 modes2 modes3 load W h_bGain h_bDrag h_bLow h_bHigh h_rPos h_rVel h_push0 h_push1 h_push2 h_push3 h_modes0 h_modes1 h_modes2 h_modes3 h_load).mono fun e W' ⟨he, bel⟩ => ?_
  subst he
  exact ⟨_, rfl, _, _, _, [], _, [], hW', trodAll_mk1 (shut_bool Try.underlying4 _), (trodAll_cons_mk (Below.trod laidOut (by kernel_rfl) (of_decide_eq_true (by kernel_rfl)) k_0 bel lt_0) (trodAll_cons_mk (Below.trod laidOut (by kernel_rfl) (of_decide_eq_true (by kernel_rfl)) k_1 bel lt_1) (trodAll_cons_mk (Below.trod laidOut (by kernel_rfl) (of_decide_eq_true (by kernel_rfl)) k_2 bel lt_2) (trodAll_cons_mk (Below.trod laidOut (by kernel_rfl) (of_decide_eq_true (by kernel_rfl)) k_3 bel lt_3) (trodAll_cons_mk (Below.trod laidOut (by kernel_rfl) (of_decide_eq_true (by kernel_rfl)) k_4 bel lt_4) trodAll_mk0))))), rfl, bel.frame _, fun h => by cases h⟩

theorem over : Rows.ramEndsRow.holds Try.pinned (OpenSpec.ofChange Rows.ramEndsSpec) :=
  OpenClaim.holds_of_wide 5 Try.f5 rfl rfl rfl rfl rfl rfl rfl ⟨rfl, rfl, rfl, rfl, rfl⟩ rfl rfl rfl rfl rfl (by kernel_rfl) Try.func5 (by kernel_rfl)
    (of_decide_eq_true (by kernel_rfl)) (by unfold Func.isWrapper; first | (rw [if_pos (by decide +kernel)]; kernel_rfl) | (rw [if_neg (by decide +kernel)]; exact ⟨rfl, rfl⟩))
    (fun os started H enc _ => lifted os started H enc)


end Go.Proofs.Ytfbokeekkbdblaa.ramEnds
namespace Go.Proofs.Ytfbokeekkbdblaa
/-- THE STATEMENT -/
theorem ramEnds_holds : Rows.RamEndsSaid := ramEnds.over
#print axioms ramEnds_holds
end Go.Proofs.Ytfbokeekkbdblaa
