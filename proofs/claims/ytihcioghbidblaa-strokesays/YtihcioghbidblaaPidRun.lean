/-
  Contracts of pid.Step and pid.Run: whatever is handed in. A run is told by plain functions of how many errors there were.
-/
import Derived.Test.YtihcioghbidblaaPid
import Derived.Deep.OwnRows
import Derived.Deep.LoopGhost
namespace Go.Proofs.Ytihcioghbidblaa
open Go.RowKit
set_option linter.unusedVariables false

/-- a gain's numbers are numbers of 32 bits -/
structure GI (P I D lo hi : Int) : Prop where
  P : I32 P
  I : I32 I
  D : I32 D
  lo : I32 lo
  hi : I32 hi
/-- what is kept behind one more error, and what is told -/
def stS (P I D lo hi s t e : Int) : Int := kpI lo hi s (nsI I lo hi s e) (outI P D (nsI I lo hi s e) e t)
def stO (P I D lo hi s t e : Int) : Int := clampI (outI P D (nsI I lo hi s e) e t) lo hi
theorem stS_in {P I D lo hi s t e : Int} (h1 : lo ≤ s) (h2 : s ≤ hi) : lo ≤ stS P I D lo hi s t e ∧ stS P I D lo hi s t e ≤ hi := kpI_in ⟨h1, h2⟩ (clampI_in (by omega))
theorem stO_in {P I D lo hi s t e : Int} (h : lo ≤ hi) : lo ≤ stO P I D lo hi s t e ∧ stO P I D lo hi s t e ≤ hi := clampI_in h
theorem stO_I {P I D lo hi s t e : Int} (hl : I32 lo) (hh : I32 hi) : I32 (stO P I D lo hi s t e) := clampI_I hl hh
/-- Last behind k errors -/
def rnT (t : Int) (l : Nat → Int) : Nat → Int
  | 0 => t
  | k + 1 => l k
/-- Sum behind k errors -/
def rnS (P I D lo hi s t : Int) (l : Nat → Int) : Nat → Int
  | 0 => s
  | k + 1 => stS P I D lo hi (rnS P I D lo hi s t l k) (rnT t l k) (l k)
/-- the k-th output -/
def rnO (P I D lo hi s t : Int) (l : Nat → Int) (k : Nat) : Int := stO P I D lo hi (rnS P I D lo hi s t l k) (rnT t l k) (l k)
theorem rnS_in {P I D lo hi s t : Int} (h1 : lo ≤ s) (h2 : s ≤ hi) (l : Nat → Int) (k : Nat) : lo ≤ rnS P I D lo hi s t l k ∧ rnS P I D lo hi s t l k ≤ hi := by
  induction k with
  | zero => exact ⟨h1, h2⟩
  | succ k ih => exact stS_in ih.1 ih.2
theorem rnT_I {t : Int} {l : Nat → Int} (ht : I32 t) (hl : ∀ j, I32 (l j)) (k : Nat) : I32 (rnT t l k) := by
  cases k with
  | zero => exact ht
  | succ k => exact hl k
theorem I32.mid {lo hi s : Int} (hl : I32 lo) (hh : I32 hi) (h1 : lo ≤ s) (h2 : s ≤ hi) : I32 s := ⟨by have := hl.1; omega, by have := hh.2; omega⟩

theorem next_st (P I D lo hi s t e : Int) (w : World) (G : GI P I D lo hi) (hs : I32 s) (ht : I32 t) (he : I32 e) : Calls Try.prog 57 #[.agg #[.int .i32 P, .int .i32 I, .int .i32 D, .int .i32 lo, .int .i32 hi], .agg #[.int .i32 s, .int .i32 t], .int .i32 e] w fun r w' => r = .returned (.tuple #[.agg #[.int .i32 (stS P I D lo hi s t e), .int .i32 e], .int .i32 (stO P I D lo hi s t e)]) ∧ Below w.heap.size w w' :=
  next_any P I D lo hi s t e w G.P G.I G.D G.lo G.hi hs ht he

set_option maxHeartbeats 1000000 in
theorem step_bad (P I D lo hi s t e : Int) (w : World) (h : ¬ (lo ≤ s ∧ s ≤ hi)) : Calls Try.prog 42 #[.agg #[.int .i32 P, .int .i32 I, .int .i32 D, .int .i32 lo, .int .i32 hi], .agg #[.int .i32 s, .int .i32 t], .int .i32 e] w fun r w' => r = .returned (.tuple #[.agg #[.int .i32 0, .int .i32 0], .int .i32 0, .int .i64 1]) ∧ Below w.heap.size w w' := by
  have B0 : Hid (_) := py_new w P I D lo hi s t 0 0 27 49 49
  go_enter Try.func42, Try.ntmps42
  go_wp2_with fail
  refine (check_bad P I D lo hi s t _ h).mono ?_
  rintro r w1 ⟨rfl, hb⟩
  have B1 : Hid (_) := B0.out.step hb
  clear hb B0 h
  obtain ⟨l2, ⟨r0, r1⟩, f0, f1⟩ := B1.out.facts
  go_wp2_with fail
  obtain ⟨w3, hw3, y0, y1, b3⟩ := B1.out.put 0 0
  rw [hw3]
  refine bodyPost_ret (by simp [results, Try.results42, go_sem, y0, y1]; try rfl) rfl ?_
  exact ⟨rfl, b3⟩

theorem Py.alloc {w : World} {P I D lo hi s t a b : Int} {W : World} (h : Py w P I D lo hi s t a b W) (x : Obj) : Py w P I D lo hi s t a b (W.alloc x) := h.step ((Below.refl _ W).alloc (Nat.le_refl _) _)

set_option maxHeartbeats 1000000 in
theorem step_ok (P I D lo hi s t e : Int) (w : World) (G : GI P I D lo hi) (ht : I32 t) (he : I32 e) (h1 : lo ≤ s) (h2 : s ≤ hi) : Calls Try.prog 42 #[.agg #[.int .i32 P, .int .i32 I, .int .i32 D, .int .i32 lo, .int .i32 hi], .agg #[.int .i32 s, .int .i32 t], .int .i32 e] w fun r w' => r = .returned (.tuple #[.agg #[.int .i32 (stS P I D lo hi s t e), .int .i32 e], .int .i32 (stO P I D lo hi s t e), .int .i64 0]) ∧ Below w.heap.size w w' := by
  have B0 : Hid (_) := py_new w P I D lo hi s t 0 0 27 49 49
  have C1 : Hid (∀ W, Calls Try.prog 40 #[.agg #[.int .i32 P, .int .i32 I, .int .i32 D, .int .i32 lo, .int .i32 hi], .agg #[.int .i32 s, .int .i32 t]] W fun r w' => r = .returned (.int .i64 0) ∧ Below W.heap.size W w') := fun W => check_ok P I D lo hi s t W h1 h2
  have C2 : Hid (∀ W, Calls Try.prog 57 #[.agg #[.int .i32 P, .int .i32 I, .int .i32 D, .int .i32 lo, .int .i32 hi], .agg #[.int .i32 s, .int .i32 t], .int .i32 e] W fun r w' => r = .returned (.tuple #[.agg #[.int .i32 (stS P I D lo hi s t e), .int .i32 e], .int .i32 (stO P I D lo hi s t e)]) ∧ Below W.heap.size W w') := fun W => next_st P I D lo hi s t e W G (I32.mid G.lo G.hi h1 h2) ht he
  generalize stS P I D lo hi s t e = a at *
  generalize stO P I D lo hi s t e = o at *
  clear G ht he h1 h2
  go_enter Try.func42, Try.ntmps42
  go_wp2_with fail
  refine (C1.out _).mono ?_
  rintro r w1 ⟨rfl, hb⟩
  have B1 : Hid (_) := B0.out.step hb
  clear hb B0
  obtain ⟨⟨l0, l1⟩, ⟨p0, p1, p2, p3, p4⟩, s0, s1⟩ := B1.out.x.facts
  obtain ⟨l2, ⟨r0, r1⟩, f0, f1⟩ := B1.out.facts
  go_wp2_with fail
  refine (C2.out _).mono ?_
  rintro r w2 ⟨rfl, hb⟩
  clear l0 l1 p0 p1 p2 p3 p4 s0 s1 l2 r0 r1 f0 f1
  have B2 : Hid (_) := B1.out.step hb
  clear hb B1
  obtain ⟨l2, ⟨r0, r1⟩, f0, f1⟩ := B2.out.facts
  go_wp2_with fail
  obtain ⟨w3, hw3, y0, y1, b3⟩ := B2.out.put a e
  rw [hw3]
  have l3 : w.heap.size + 1 + 1 < w3.heap.size := by rw [← hw3]; simp [World.setCell]; exact l2
  have hb := one_box w3 (.cells #[.int .i32 a, .int .i32 e] 49)
  have z0 := (hb.cell (p := ⟨w.heap.size + 1 + 1, 0, none⟩) l3).trans y0
  have z1 := (hb.cell (p := ⟨w.heap.size + 1 + 1, 1, none⟩) l3).trans y1
  have b4 := b3.trans (hb.mono (by omega))
  clear hb
  generalize w3.alloc (.cells #[.int .i32 a, .int .i32 e] 49) = w4 at *
  refine bodyPost_ret (by simp [results, Try.results42, go_sem, z0, z1]; try rfl) rfl ?_
  exact ⟨rfl, b4⟩

/-- the boxes, and the row of outputs, the first j of them laid -/
structure Rn (w : World) (P I D lo hi s t : Int) (B m : Nat) (O : Nat → Int) (j : Nat) (W : World) : Prop where
  y : Py w P I D lo hi s t 0 0 W
  row : W.rowIs B 21 m (fun k => .int .i32 (if k < j then O k else 0))
  o : w.heap.size + 1 + 1 < B
theorem Rn.step {w : World} {P I D lo hi s t : Int} {B m : Nat} {O : Nat → Int} {j : Nat} {W W' : World} (h : Rn w P I D lo hi s t B m O j W) (hb : Below W.heap.size W W') : Rn w P I D lo hi s t B m O j W' :=
  ⟨h.y.step hb, h.row.of_block (hb.block B h.row.lt), h.o⟩
theorem Rn.cell {w : World} {P I D lo hi s t : Int} {B m : Nat} {O : Nat → Int} {j : Nat} {W : World} (h : Rn w P I D lo hi s t B m O j W) (hj : j < m) : W.cell? ⟨B, j, none⟩ = some (.int .i32 0) := by
  have := h.row.cell hj
  rw [if_neg (by omega)] at this
  exact this
theorem Rn.store {w : World} {P I D lo hi s t : Int} {B m : Nat} {O : Nat → Int} {j : Nat} {W : World} (h : Rn w P I D lo hi s t B m O j W) (s' t' : Int) :
    Rn w P I D lo hi s' t' B m O (j + 1) (((W.setCell ⟨w.heap.size + 1, 0, none⟩ (.int .i32 s')).setCell ⟨w.heap.size + 1, 1, none⟩ (.int .i32 t')).setCell ⟨B, j, none⟩ (.int .i32 (O j))) := by
  have o := h.o
  refine ⟨⟨⟨((h.y.x.bel.setCell (p := ⟨w.heap.size + 1, 0, none⟩) (by simp) _).setCell (p := ⟨w.heap.size + 1, 1, none⟩) (by simp) _).setCell (p := ⟨B, j, none⟩) (by simp; omega) _, ((h.y.x.g.other (by omega) _).other (by omega) _).other (by omega) _, ?_⟩, ((h.y.r.other (by omega) _).other (by omega) _).other (by omega) _⟩, ?_, h.o⟩
  · exact ((h.y.x.p.set (j := 0) (by simp) (.int .i32 s')).set (j := 1) (by simp) (.int .i32 t')).other (by omega) _
  · have r1 := ((h.row.setOther (a := ⟨w.heap.size + 1, 0, none⟩) (by simp; omega) (.int .i32 s')).setOther (a := ⟨w.heap.size + 1, 1, none⟩) (by simp; omega) (.int .i32 t')).set j (.int .i32 (O j))
    refine r1.congr fun k hk => ?_
    by_cases e : k = j
    · subst e
      rw [if_pos rfl, if_pos (by omega)]
    · rw [if_neg e]
      by_cases g : k < j
      · rw [if_pos g, if_pos (by omega)]
      · rw [if_neg g, if_neg (by omega)]

end Go.Proofs.Ytihcioghbidblaa
