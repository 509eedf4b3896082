/-
  Contracts of count.Step and count.Run: whatever is handed in. A run is told by plain functions of how many frames there were.
-/
import Derived.Test.YthfbdnhhmnehaaaCount
namespace Go.Proofs.Ythfbdnhhmnehaaa
open Go.RowKit
set_option linter.unusedVariables false

/-- N behind k frames -/
def runN (u d m n : Int) (l : Nat → Bool) : Nat → Int
  | 0 => n
  | k + 1 => nxI u d m (runN u d m n l k) (l k)
/-- Set behind k frames -/
def runS (u d m n : Int) (s : Bool) (l : Nat → Bool) : Nat → Bool
  | 0 => s
  | k + 1 => nxB m (runN u d m n l (k + 1)) (runS u d m n s l k)
/-- at which frame it was Set that was not -/
def runA (u d m n : Int) (s : Bool) (l : Nat → Bool) : Nat → Int
  | 0 => -1
  | k + 1 => if runS u d m n s l (k + 1) && !runS u d m n s l k then k else runA u d m n s l k
theorem OkC.run {u d m n : Int} (h : OkC u d m n) (l : Nat → Bool) (k : Nat) : OkC u d m (runN u d m n l k) := by
  induction k with
  | zero => exact h
  | succ k ih => exact ih.next _

/-- since w0 nothing has turned below block N; in blocks p, c, r, all of them from N on, lie Up, Down and Most, N and Set, and an answer that is not told yet -/
structure Bx (N : Nat) (w0 : World) (p c r : Nat) (u d m n : Int) (s : Bool) (w : World) : Prop where
  bel : Below N w0 w
  low : N ≤ p ∧ N ≤ c ∧ N ≤ r ∧ p ≠ c ∧ c ≠ r ∧ p ≠ r
  lp : p < w.heap.size
  lc : c < w.heap.size
  lr : r < w.heap.size
  p0 : w.cell? ⟨p, 0, none⟩ = some (.int .i64 u)
  p1 : w.cell? ⟨p, 1, none⟩ = some (.int .i64 d)
  p2 : w.cell? ⟨p, 2, none⟩ = some (.int .i64 m)
  c0 : w.cell? ⟨c, 0, none⟩ = some (.int .i64 n)
  c1 : w.cell? ⟨c, 1, none⟩ = some (.bool s)
  f0 : w.frozen? ⟨c, 0, none⟩ = false
  f1 : w.frozen? ⟨c, 1, none⟩ = false
  r0 : w.cell? ⟨r, 0, none⟩ = some (.int .i64 0)
  r1 : w.cell? ⟨r, 1, none⟩ = some (.bool false)
  g0 : w.frozen? ⟨r, 0, none⟩ = false
  g1 : w.frozen? ⟨r, 1, none⟩ = false
theorem Bx.step {N : Nat} {w0 : World} {p c r : Nat} {u d m n : Int} {s : Bool} {w w' : World} (h : Bx N w0 p c r u d m n s w) (hb : Below w.heap.size w w') : Bx N w0 p c r u d m n s w' :=
  ⟨h.bel.trans (hb.mono (by have := h.low; have := h.lp; omega)), h.low, Nat.lt_of_lt_of_le h.lp hb.size, Nat.lt_of_lt_of_le h.lc hb.size, Nat.lt_of_lt_of_le h.lr hb.size,
    (hb.cell (p := ⟨p, 0, none⟩) h.lp).trans h.p0, (hb.cell (p := ⟨p, 1, none⟩) h.lp).trans h.p1, (hb.cell (p := ⟨p, 2, none⟩) h.lp).trans h.p2,
    (hb.cell (p := ⟨c, 0, none⟩) h.lc).trans h.c0, (hb.cell (p := ⟨c, 1, none⟩) h.lc).trans h.c1, (hb.frozen (p := ⟨c, 0, none⟩) h.lc).trans h.f0, (hb.frozen (p := ⟨c, 1, none⟩) h.lc).trans h.f1,
    (hb.cell (p := ⟨r, 0, none⟩) h.lr).trans h.r0, (hb.cell (p := ⟨r, 1, none⟩) h.lr).trans h.r1, (hb.frozen (p := ⟨r, 0, none⟩) h.lr).trans h.g0, (hb.frozen (p := ⟨r, 1, none⟩) h.lr).trans h.g1⟩
theorem Bx.alloc {N : Nat} {w0 : World} {p c r : Nat} {u d m n : Int} {s : Bool} {w : World} (h : Bx N w0 p c r u d m n s w) (x : Obj) : Bx N w0 p c r u d m n s (w.alloc x) := h.step ((Below.refl _ w).alloc (Nat.le_refl _) _)
theorem Bx.store {N : Nat} {w0 : World} {p c r : Nat} {u d m n : Int} {s : Bool} {w : World} (h : Bx N w0 p c r u d m n s w) (n' : Int) (s' : Bool) :
    Bx N w0 p c r u d m n' s' ((w.setCell ⟨c, 0, none⟩ (.int .i64 n')).setCell ⟨c, 1, none⟩ (.bool s')) := by
  obtain ⟨l1, l2, l3, e1, e2, e3⟩ := h.low
  have o : ∀ (q : Nat) (j : Nat), q ≠ c → ((w.setCell ⟨c, 0, none⟩ (.int .i64 n')).setCell ⟨c, 1, none⟩ (.bool s')).cell? ⟨q, j, none⟩ = w.cell? ⟨q, j, none⟩ := fun q j hq => by
    rw [World.cell?_setCell_other _ _ _ _ (by simp <;> omega), World.cell?_setCell_other _ _ _ _ (by simp <;> omega)]
  have z : ((w.setCell ⟨c, 0, none⟩ (.int .i64 n')).setCell ⟨c, 1, none⟩ (.bool s')).heap.size = w.heap.size := by simp [World.setCell]
  refine ⟨(h.bel.setCell (p := ⟨c, 0, none⟩) l2 _).setCell (p := ⟨c, 1, none⟩) l2 _, h.low, by rw [z]; exact h.lp, by rw [z]; exact h.lc, by rw [z]; exact h.lr, (o p 0 e1).trans h.p0, (o p 1 e1).trans h.p1, (o p 2 e1).trans h.p2, ?_, ?_, ?_, ?_, (o r 0 (Ne.symm e2)).trans h.r0, (o r 1 (Ne.symm e2)).trans h.r1, ?_, ?_⟩
  · rw [World.cell?_setCell_other _ _ _ _ (by simp)]
    exact World.cell?_setCell_same _ _ _ h.c0
  · exact World.cell?_setCell_same _ _ _ ((World.cell?_setCell_other _ _ _ _ (by simp)).trans h.c1)
  · rw [World.frozen?_setCell, World.frozen?_setCell]; exact h.f0
  · rw [World.frozen?_setCell, World.frozen?_setCell]; exact h.f1
  · rw [World.frozen?_setCell, World.frozen?_setCell]; exact h.g0
  · rw [World.frozen?_setCell, World.frozen?_setCell]; exact h.g1
theorem bx_new (w : World) (u d m n : Int) (s : Bool) (t1 t2 t3 : TypeId) :
    Bx w.heap.size w w.heap.size (w.heap.size + 1) (w.heap.size + 1 + 1) u d m n s (((w.alloc (.cells #[.int .i64 u, .int .i64 d, .int .i64 m] t1)).alloc (.cells #[.int .i64 n, .bool s] t2)).alloc (.cells #[.int .i64 0, .bool false] t3)) := by
  refine ⟨three_boxes w _ _ _, by omega, ?_, ?_, ?_, ?_, ?_, ?_, ?_, ?_, ?_, ?_, ?_, ?_, ?_, ?_⟩
  all_goals go_simp

/-- the answer laid down -/
theorem Bx.put {N : Nat} {w0 : World} {p c r : Nat} {u d m n : Int} {s : Bool} {w : World} (h : Bx N w0 p c r u d m n s w) (n' : Int) (s' : Bool) :
    ∃ w3, (w.setCell ⟨r, 0, none⟩ (.int .i64 n')).setCell ⟨r, 1, none⟩ (.bool s') = w3 ∧ w3.cell? ⟨r, 0, none⟩ = some (.int .i64 n') ∧ w3.cell? ⟨r, 1, none⟩ = some (.bool s') ∧ Below N w0 w3 := by
  obtain ⟨l1, l2, l3, e1, e2, e3⟩ := h.low
  refine ⟨_, rfl, ?_, ?_, (h.bel.setCell (p := ⟨r, 0, none⟩) l3 _).setCell (p := ⟨r, 1, none⟩) l3 _⟩
  · rw [World.cell?_setCell_other _ _ _ _ (by simp)]
    exact World.cell?_setCell_same _ _ _ h.r0
  · exact World.cell?_setCell_same _ _ _ ((World.cell?_setCell_other _ _ _ _ (by simp)).trans h.r1)

set_option maxHeartbeats 1000000 in
theorem step_bad (u d m n : Int) (s b : Bool) (w : World) (h : ¬ OkC u d m n) : Calls Try.prog 13 #[.agg #[.int .i64 u, .int .i64 d, .int .i64 m], .agg #[.int .i64 n, .bool s], .bool b] w fun e w' => e = .returned (.tuple #[.agg #[.int .i64 0, .bool false], .int .i64 1]) ∧ Below w.heap.size w w' := by
  have B0 : Hid (_) := bx_new w u d m n s 24 28 28
  go_enter Try.func13, Try.ntmps13
  go_wp2_with fail
  refine (check_bad u d m n s _ h).mono ?_
  rintro e w1 ⟨rfl, hb⟩
  have B1 := B0.out.step hb
  clear hb B0
  have HB : Hid (_) := B1
  obtain ⟨bel, low, lp, lc, lr, p0, p1, p2, c0, c1, f0, f1, r0, r1, g0, g1⟩ := B1
  clear low bel
  go_wp2_with fail
  obtain ⟨w3, hw3, y0, y1, b3⟩ := HB.out.put 0 false
  rw [hw3]
  refine bodyPost_ret (by simp [results, Try.results13, go_sem, y0, y1]; try rfl) rfl ?_
  exact ⟨rfl, b3⟩

set_option maxHeartbeats 1000000 in
theorem step_ok (u d m n : Int) (s b : Bool) (w : World) (h : OkC u d m n) : Calls Try.prog 13 #[.agg #[.int .i64 u, .int .i64 d, .int .i64 m], .agg #[.int .i64 n, .bool s], .bool b] w fun e w' => e = .returned (.tuple #[.agg #[.int .i64 (nxI u d m n b), .bool (nxB m (nxI u d m n b) s)], .int .i64 0]) ∧ Below w.heap.size w w' := by
  have B0 : Hid (_) := bx_new w u d m n s 24 28 28
  go_enter Try.func13, Try.ntmps13
  go_wp2_with fail
  refine (check_ok u d m n s _ h).mono ?_
  rintro e w1 ⟨rfl, hb⟩
  have B1 := B0.out.step hb
  clear hb B0
  have HB : Hid (_) := B1
  obtain ⟨bel, low, lp, lc, lr, p0, p1, p2, c0, c1, f0, f1, r0, r1, g0, g1⟩ := B1
  clear low bel
  go_wp2_with fail
  refine (next_any u d m n s b _ h).mono ?_
  rintro e w2 ⟨rfl, hb⟩
  clear lp lc lr p0 p1 p2 c0 c1 f0 f1 r0 r1 g0 g1
  have B1 := HB.out.step hb
  clear HB hb
  have HB : Hid (_) := B1
  obtain ⟨bel, low, lp, lc, lr, p0, p1, p2, c0, c1, f0, f1, r0, r1, g0, g1⟩ := B1
  clear low bel
  go_wp2_with fail
  obtain ⟨w3, hw3, y0, y1, b3⟩ := HB.out.put (nxI u d m n b) (nxB m (nxI u d m n b) s)
  rw [hw3]
  refine bodyPost_ret (by simp [results, Try.results13, go_sem, y0, y1]; try rfl) rfl ?_
  exact ⟨rfl, b3⟩

end Go.Proofs.Ythfbdnhhmnehaaa
