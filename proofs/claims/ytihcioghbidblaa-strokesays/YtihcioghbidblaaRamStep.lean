/-
  Contracts of ram.force and ram.Step: whatever is handed in; the plain functions of whole numbers that they answer.
-/
import Derived.Test.YtihcioghbidblaaRam
import Derived.Test.YtihcioghbidblaaPid
import Derived.Deep.RegionHeld3
namespace Go.Proofs.Ytihcioghbidblaa
open Go.RowKit
set_option linter.unusedVariables false

theorem act_I {m p : Int} (h : I32 p) : I32 (act m p) := by
  unfold act
  split
  · exact h
  · exact ⟨by decide, by decide⟩
theorem shiftI_I {a n : Int} (h : I32 a) : I32 (shiftI a n) := by
  unfold shiftI
  split
  · exact div_pow_bd _ h.1 h.2
  · exact s32_I _
/-- the force: the load with its sign turned, and four pushes, one by one -/
def frcI (l a b c d : Int) : Int := s32 (s32 (s32 (s32 (s32 (-l) + a) + b) + c) + d)
theorem frcI_I (l a b c d : Int) : I32 (frcI l a b c d) := s32_I _
/-- four numbers of 32 bits -/
structure F4 (a b c d : Int) : Prop where
  a : I32 a
  b : I32 b
  c : I32 c
  d : I32 d
theorem F4.act {p0 p1 p2 p3 : Int} (h : F4 p0 p1 p2 p3) (a b c d : Int) : F4 (act a p0) (act b p1) (act c p2) (act d p3) := ⟨act_I h.a, act_I h.b, act_I h.c, act_I h.d⟩

set_option maxHeartbeats 4000000 in
theorem force_any (p0 p1 p2 p3 a b c d l : Int) (w : World) (hp : F4 p0 p1 p2 p3) (hl : I32 l) : Calls Try.prog 50 #[.agg #[.int .i32 p0, .int .i32 p1, .int .i32 p2, .int .i32 p3], .agg #[.int .i64 a, .int .i64 b, .int .i64 c, .int .i64 d], .int .i32 l] w fun e w' => e = .returned (.int .i32 (frcI l (act a p0) (act b p1) (act c p2) (act d p3))) ∧ Below w.heap.size w w' := by
  have hq := hp.act a b c d
  have C0 : Hid (∀ W, Calls Try.prog 46 #[.agg #[.int .i32 p0, .int .i32 p1, .int .i32 p2, .int .i32 p3], .agg #[.int .i64 a, .int .i64 b, .int .i64 c, .int .i64 d]] W fun e w' => e = .returned (.agg #[.int .i32 (act a p0), .int .i32 (act b p1), .int .i32 (act c p2), .int .i32 (act d p3)]) ∧ Below W.heap.size W w') := fun W => ofActive_any p0 p1 p2 p3 a b c d W
  unfold frcI
  generalize act a p0 = q0 at *
  generalize act b p1 = q1 at *
  generalize act c p2 = q2 at *
  generalize act d p3 = q3 at *
  have C1 : Hid (∀ W, Calls Try.prog 61 #[.int .i32 l] W fun r w' => r = .returned (.int .i32 (s32 (-l))) ∧ w' = W) := fun W => neg_any _ hl.1 hl.2 W
  have C2 : Hid (∀ W, Calls Try.prog 52 #[.int .i32 (s32 (-l)), .int .i32 q0] W fun r w' => r = .returned (.int .i32 (s32 (s32 (-l) + q0))) ∧ w' = W) := fun W => add_any _ _ (s32_I _).1 (s32_I _).2 hq.a.1 hq.a.2 W
  generalize s32 (-l) = f0 at *
  have C3 : Hid (∀ W, Calls Try.prog 52 #[.int .i32 (s32 (f0 + q0)), .int .i32 q1] W fun r w' => r = .returned (.int .i32 (s32 (s32 (f0 + q0) + q1))) ∧ w' = W) := fun W => add_any _ _ (s32_I _).1 (s32_I _).2 hq.b.1 hq.b.2 W
  generalize s32 (f0 + q0) = f1 at *
  have C4 : Hid (∀ W, Calls Try.prog 52 #[.int .i32 (s32 (f1 + q1)), .int .i32 q2] W fun r w' => r = .returned (.int .i32 (s32 (s32 (f1 + q1) + q2))) ∧ w' = W) := fun W => add_any _ _ (s32_I _).1 (s32_I _).2 hq.c.1 hq.c.2 W
  generalize s32 (f1 + q1) = f2 at *
  have C5 : Hid (∀ W, Calls Try.prog 52 #[.int .i32 (s32 (f2 + q2)), .int .i32 q3] W fun r w' => r = .returned (.int .i32 (s32 (s32 (f2 + q2) + q3))) ∧ w' = W) := fun W => add_any _ _ (s32_I _).1 (s32_I _).2 hq.d.1 hq.d.2 W
  generalize s32 (f2 + q2) = f3 at *
  generalize s32 (f3 + q3) = f4 at *
  obtain ⟨i0, i1, i2, i3⟩ := ixI q0 q1 q2 q3
  clear hp hl hq
  have B0 : Hid (Below w.heap.size w _) := two_boxes w (.cells #[.int .i32 p0, .int .i32 p1, .int .i32 p2, .int .i32 p3] 64) (.cells #[.int .i64 a, .int .i64 b, .int .i64 c, .int .i64 d] 65)
  go_enter Try.func50, Try.ntmps50
  go_wp2_with fail
  refine (C1.out _).mono ?_
  rintro r w1 ⟨rfl, rfl⟩
  go_wp2_with fail
  refine (C0.out _).mono ?_
  rintro r w1 ⟨rfl, hb⟩
  have B1 : Hid (Below w.heap.size w w1) := B0.out.trans (hb.mono B0.out.size)
  clear hb B0
  go_wp2_with fail
  refine wp_loop_rounds 5 ?_
  rw [rounds_succ]
  go_wp2_with fail
  refine (C2.out _).mono ?_
  rintro r w2 ⟨rfl, rfl⟩
  go_wp2_with fail
  rw [rounds_succ]
  go_wp2_with fail
  refine (C3.out _).mono ?_
  rintro r w2 ⟨rfl, rfl⟩
  go_wp2_with fail
  rw [rounds_succ]
  go_wp2_with fail
  refine (C4.out _).mono ?_
  rintro r w2 ⟨rfl, rfl⟩
  go_wp2_with fail
  rw [rounds_succ]
  go_wp2_with fail
  refine (C5.out _).mono ?_
  rintro r w2 ⟨rfl, rfl⟩
  go_wp2_with fail
  rw [rounds_succ]
  go_wp2_with fail
  go_ret
  exact ⟨rfl, B1.out⟩

/-- how far it comes; where it is then; and how far that was -/
def wayI (g n f : Int) : Int := shiftI (mulI g f) (-n)
def posI (g n lo hi p f : Int) : Int := clampI (s32 (p + wayI g n f)) lo hi
def velI (q p : Int) : Int := s32 (q - p)

/-- the boxes of what was handed in, and of the answer (x, y) -/
structure Rx (w : World) (g n lo hi p v p0 p1 p2 p3 a b c d x y : Int) (W : World) : Prop where
  bel : Below w.heap.size w W
  hb : Cells W w.heap.size [.int .i32 g, .int .i64 n, .int .i32 lo, .int .i32 hi]
  hr : Cells W (w.heap.size + 1) [.int .i32 p, .int .i32 v]
  hp : Cells W (w.heap.size + 1 + 1) [.int .i32 p0, .int .i32 p1, .int .i32 p2, .int .i32 p3]
  hm : Cells W (w.heap.size + 1 + 1 + 1) [.int .i64 a, .int .i64 b, .int .i64 c, .int .i64 d]
  hx : Cells W (w.heap.size + 1 + 1 + 1 + 1) [.int .i32 x, .int .i32 y]
theorem Rx.step {w : World} {g n lo hi p v p0 p1 p2 p3 a b c d x y : Int} {W W' : World} (h : Rx w g n lo hi p v p0 p1 p2 p3 a b c d x y W) (hb : Below W.heap.size W W') : Rx w g n lo hi p v p0 p1 p2 p3 a b c d x y W' :=
  ⟨h.bel.trans (hb.mono h.bel.size), h.hb.step hb, h.hr.step hb, h.hp.step hb, h.hm.step hb, h.hx.step hb⟩
theorem Rx.alloc {w : World} {g n lo hi p v p0 p1 p2 p3 a b c d x y : Int} {W : World} (h : Rx w g n lo hi p v p0 p1 p2 p3 a b c d x y W) (o : Obj) : Rx w g n lo hi p v p0 p1 p2 p3 a b c d x y (W.alloc o) := h.step ((Below.refl _ W).alloc (Nat.le_refl _) _)
theorem Rx.put {w : World} {g n lo hi p v p0 p1 p2 p3 a b c d x y : Int} {W : World} (h : Rx w g n lo hi p v p0 p1 p2 p3 a b c d x y W) (x' y' : Int) :
    ∃ w3, (W.setCell ⟨w.heap.size + 1 + 1 + 1 + 1, 0, none⟩ (.int .i32 x')).setCell ⟨w.heap.size + 1 + 1 + 1 + 1, 1, none⟩ (.int .i32 y') = w3 ∧ w3.cell? ⟨w.heap.size + 1 + 1 + 1 + 1, 0, none⟩ = some (.int .i32 x') ∧ w3.cell? ⟨w.heap.size + 1 + 1 + 1 + 1, 1, none⟩ = some (.int .i32 y') ∧ Below w.heap.size w w3 := by
  have c := (h.hx.set (j := 0) (by simp) (.int .i32 x')).set (j := 1) (by simp) (.int .i32 y')
  exact ⟨_, rfl, c.cell 0 _ rfl, c.cell 1 _ rfl, (h.bel.setCell (p := ⟨w.heap.size + 1 + 1 + 1 + 1, 0, none⟩) (by simp; omega) _).setCell (p := ⟨w.heap.size + 1 + 1 + 1 + 1, 1, none⟩) (by simp; omega) _⟩
theorem rx_new (w : World) (g n lo hi p v p0 p1 p2 p3 a b c d x y : Int) (t1 t2 t3 t4 t5 : TypeId) : Rx w g n lo hi p v p0 p1 p2 p3 a b c d x y (((((w.alloc (.cells #[.int .i32 g, .int .i64 n, .int .i32 lo, .int .i32 hi] t1)).alloc (.cells #[.int .i32 p, .int .i32 v] t2)).alloc (.cells #[.int .i32 p0, .int .i32 p1, .int .i32 p2, .int .i32 p3] t3)).alloc (.cells #[.int .i64 a, .int .i64 b, .int .i64 c, .int .i64 d] t4)).alloc (.cells #[.int .i32 x, .int .i32 y] t5)) := by
  have h1 := cells_new w #[.int .i32 g, .int .i64 n, .int .i32 lo, .int .i32 hi] t1
  have h2 := cells_new (w.alloc (.cells #[.int .i32 g, .int .i64 n, .int .i32 lo, .int .i32 hi] t1)) #[.int .i32 p, .int .i32 v] t2
  have h3 := cells_new ((w.alloc (.cells #[.int .i32 g, .int .i64 n, .int .i32 lo, .int .i32 hi] t1)).alloc (.cells #[.int .i32 p, .int .i32 v] t2)) #[.int .i32 p0, .int .i32 p1, .int .i32 p2, .int .i32 p3] t3
  have h4 := cells_new (((w.alloc (.cells #[.int .i32 g, .int .i64 n, .int .i32 lo, .int .i32 hi] t1)).alloc (.cells #[.int .i32 p, .int .i32 v] t2)).alloc (.cells #[.int .i32 p0, .int .i32 p1, .int .i32 p2, .int .i32 p3] t3)) #[.int .i64 a, .int .i64 b, .int .i64 c, .int .i64 d] t4
  have h5 := cells_new ((((w.alloc (.cells #[.int .i32 g, .int .i64 n, .int .i32 lo, .int .i32 hi] t1)).alloc (.cells #[.int .i32 p, .int .i32 v] t2)).alloc (.cells #[.int .i32 p0, .int .i32 p1, .int .i32 p2, .int .i32 p3] t3)).alloc (.cells #[.int .i64 a, .int .i64 b, .int .i64 c, .int .i64 d] t4)) #[.int .i32 x, .int .i32 y] t5
  simp only [World.size_alloc] at h2 h3 h4 h5
  exact ⟨((((((Below.refl _ w).alloc (Nat.le_refl _) _).alloc (by simp) _).alloc (by simp; omega) _).alloc (by simp; omega) _).alloc (by simp; omega) _), (((h1.alloc _).alloc _).alloc _).alloc _, ((h2.alloc _).alloc _).alloc _, (h3.alloc _).alloc _, h4.alloc _, h5⟩
theorem Rx.body {w : World} {g n lo hi p v p0 p1 p2 p3 a b c d x y : Int} {W : World} (h : Rx w g n lo hi p v p0 p1 p2 p3 a b c d x y W) :
    W.cell? ⟨w.heap.size, 0, none⟩ = some (.int .i32 g) ∧ W.cell? ⟨w.heap.size, 1, none⟩ = some (.int .i64 n) ∧ W.cell? ⟨w.heap.size, 2, none⟩ = some (.int .i32 lo) ∧ W.cell? ⟨w.heap.size, 3, none⟩ = some (.int .i32 hi) ∧ w.heap.size < W.heap.size :=
  ⟨h.hb.cell 0 _ rfl, h.hb.cell 1 _ rfl, h.hb.cell 2 _ rfl, h.hb.cell 3 _ rfl, h.hb.lt⟩
theorem Rx.ram {w : World} {g n lo hi p v p0 p1 p2 p3 a b c d x y : Int} {W : World} (h : Rx w g n lo hi p v p0 p1 p2 p3 a b c d x y W) :
    W.cell? ⟨w.heap.size + 1, 0, none⟩ = some (.int .i32 p) ∧ W.cell? ⟨w.heap.size + 1, 1, none⟩ = some (.int .i32 v) ∧ w.heap.size + 1 < W.heap.size := ⟨h.hr.cell 0 _ rfl, h.hr.cell 1 _ rfl, h.hr.lt⟩
theorem Rx.push {w : World} {g n lo hi p v p0 p1 p2 p3 a b c d x y : Int} {W : World} (h : Rx w g n lo hi p v p0 p1 p2 p3 a b c d x y W) :
    W.cell? ⟨w.heap.size + 1 + 1, 0, none⟩ = some (.int .i32 p0) ∧ W.cell? ⟨w.heap.size + 1 + 1, 1, none⟩ = some (.int .i32 p1) ∧ W.cell? ⟨w.heap.size + 1 + 1, 2, none⟩ = some (.int .i32 p2) ∧ W.cell? ⟨w.heap.size + 1 + 1, 3, none⟩ = some (.int .i32 p3) ∧ w.heap.size + 1 + 1 < W.heap.size :=
  ⟨h.hp.cell 0 _ rfl, h.hp.cell 1 _ rfl, h.hp.cell 2 _ rfl, h.hp.cell 3 _ rfl, h.hp.lt⟩
theorem Rx.mode {w : World} {g n lo hi p v p0 p1 p2 p3 a b c d x y : Int} {W : World} (h : Rx w g n lo hi p v p0 p1 p2 p3 a b c d x y W) :
    W.cell? ⟨w.heap.size + 1 + 1 + 1, 0, none⟩ = some (.int .i64 a) ∧ W.cell? ⟨w.heap.size + 1 + 1 + 1, 1, none⟩ = some (.int .i64 b) ∧ W.cell? ⟨w.heap.size + 1 + 1 + 1, 2, none⟩ = some (.int .i64 c) ∧ W.cell? ⟨w.heap.size + 1 + 1 + 1, 3, none⟩ = some (.int .i64 d) ∧ w.heap.size + 1 + 1 + 1 < W.heap.size :=
  ⟨h.hm.cell 0 _ rfl, h.hm.cell 1 _ rfl, h.hm.cell 2 _ rfl, h.hm.cell 3 _ rfl, h.hm.lt⟩
theorem Rx.answer {w : World} {g n lo hi p v p0 p1 p2 p3 a b c d x y : Int} {W : World} (h : Rx w g n lo hi p v p0 p1 p2 p3 a b c d x y W) :
    w.heap.size + 1 + 1 + 1 + 1 < W.heap.size ∧ (W.cell? ⟨w.heap.size + 1 + 1 + 1 + 1, 0, none⟩ = some (.int .i32 x) ∧ W.cell? ⟨w.heap.size + 1 + 1 + 1 + 1, 1, none⟩ = some (.int .i32 y)) ∧ W.frozen? ⟨w.heap.size + 1 + 1 + 1 + 1, 0, none⟩ = false ∧ W.frozen? ⟨w.heap.size + 1 + 1 + 1 + 1, 1, none⟩ = false :=
  ⟨h.hx.lt, ⟨h.hx.cell 0 _ rfl, h.hx.cell 1 _ rfl⟩, h.hx.froz 0 _ rfl, h.hx.froz 1 _ rfl⟩

set_option maxHeartbeats 2000000 in
theorem ramStep_bad (g n lo hi p v p0 p1 p2 p3 a b c d l : Int) (w : World) (h : ¬ OkB g n lo hi p) : Calls Try.prog 30 #[.agg #[.int .i32 g, .int .i64 n, .int .i32 lo, .int .i32 hi], .agg #[.int .i32 p, .int .i32 v], .agg #[.int .i32 p0, .int .i32 p1, .int .i32 p2, .int .i32 p3], .agg #[.int .i64 a, .int .i64 b, .int .i64 c, .int .i64 d], .int .i32 l] w fun r w' => r = .returned (.tuple #[.agg #[.int .i32 0, .int .i32 0], .int .i64 1]) ∧ Below w.heap.size w w' := by
  have B0 : Hid (_) := rx_new w g n lo hi p v p0 p1 p2 p3 a b c d 0 0 23 25 64 65 25
  go_enter Try.func30, Try.ntmps30
  go_wp2_with fail
  refine (ramCheck_bad g n lo hi p v _ h).mono ?_
  rintro r w1 ⟨rfl, hb⟩
  have B1 : Hid (_) := B0.out.step hb
  clear hb B0 h
  obtain ⟨l2, ⟨r0, r1⟩, f0, f1⟩ := B1.out.answer
  go_wp2_with fail
  obtain ⟨w3, hw3, y0, y1, b3⟩ := B1.out.put 0 0
  rw [hw3]
  refine bodyPost_ret (by simp [results, Try.results30, go_sem, y0, y1]; try rfl) rfl ?_
  exact ⟨rfl, b3⟩

set_option maxHeartbeats 2000000 in
theorem ramStep_mode (g n lo hi p v p0 p1 p2 p3 a b c d l : Int) (w : World) (h : OkB g n lo hi p) (hm : ¬ (OkM a ∧ OkM b ∧ OkM c ∧ OkM d)) : Calls Try.prog 30 #[.agg #[.int .i32 g, .int .i64 n, .int .i32 lo, .int .i32 hi], .agg #[.int .i32 p, .int .i32 v], .agg #[.int .i32 p0, .int .i32 p1, .int .i32 p2, .int .i32 p3], .agg #[.int .i64 a, .int .i64 b, .int .i64 c, .int .i64 d], .int .i32 l] w fun r w' => r = .returned (.tuple #[.agg #[.int .i32 0, .int .i32 0], .int .i64 1]) ∧ Below w.heap.size w w' := by
  have B0 : Hid (_) := rx_new w g n lo hi p v p0 p1 p2 p3 a b c d 0 0 23 25 64 65 25
  have C1 : Hid (_) := fun W => ramCheck_ok g n lo hi p v W h
  have C2 : Hid (_) := fun W => areModes_bad a b c d W hm
  clear h hm
  go_enter Try.func30, Try.ntmps30
  go_wp2_with fail
  refine (C1.out _).mono ?_
  rintro r w1 ⟨rfl, hb⟩
  have B1 : Hid (_) := B0.out.step hb
  clear hb B0
  obtain ⟨m0, m1, m2, m3, l3⟩ := B1.out.mode
  go_wp2_with fail
  refine (C2.out _).mono ?_
  rintro r w2 ⟨rfl, hb⟩
  have B2 : Hid (_) := B1.out.step hb
  clear hb B1 m0 m1 m2 m3 l3
  obtain ⟨l2, ⟨r0, r1⟩, f0, f1⟩ := B2.out.answer
  go_wp2_with fail
  obtain ⟨w3, hw3, y0, y1, b3⟩ := B2.out.put 0 0
  rw [hw3]
  refine bodyPost_ret (by simp [results, Try.results30, go_sem, y0, y1]; try rfl) rfl ?_
  exact ⟨rfl, b3⟩

end Go.Proofs.Ytihcioghbidblaa
