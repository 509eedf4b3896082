/-
  Contract of ram.Push: whatever is handed in.
-/
import Derived.Test.YtihcioghbidblaaRamFgt
namespace Go.Proofs.Ytihcioghbidblaa
open Go.RowKit
set_option linter.unusedVariables false

/-- nothing below 0 -/
def mx0 (n : Int) : Int := if n < 0 then 0 else n
theorem mx0_I {n : Int} (h : I32 n) : I32 (mx0 n) := by
  unfold mx0
  split
  · exact ⟨by decide, by decide⟩
  · exact h
theorem run_mx0 (n : Int) (ts : Array TypeId) (t : TypeId) (W : World) : (Builtin.max_ ts t #[.int .i32 n, .int .i32 0]).run Try.prog W = .ok (.int .i32 (mx0 n)) W := by
  rw [run_max_int2 W ts t .i32 .i32 n 0]
  unfold mx0
  repeat' split
  all_goals first | rfl | (exact absurd ‹_› (by omega)) | (congr 2; omega)
/-- what one lane pushes -/
def psI (m v o : Int) : Int := mulI (act m v) (mx0 o)
theorem mulI_none (o : Int) : mulI 0 o = 0 := by unfold mulI scaleI; rw [Int.zero_mul]; decide
theorem psI_no {m : Int} (h : ¬ m = 1) (v o : Int) : psI m v o = 0 := by unfold psI; rw [act_no h]; exact mulI_none _

/-- the boxes of what three lists of four came in as, the answer's (nothing in it yet) and a fifth list's, which holds the first j of f -/
structure Gx (w : World) (p0 p1 p2 p3 a b c d o0 o1 o2 o3 : Int) (f : Nat → Int) (j : Nat) (W : World) : Prop where
  bel : Below w.heap.size w W
  hp : Cells W w.heap.size [.int .i32 p0, .int .i32 p1, .int .i32 p2, .int .i32 p3]
  hm : Cells W (w.heap.size + 1) [.int .i64 a, .int .i64 b, .int .i64 c, .int .i64 d]
  ho : Cells W (w.heap.size + 1 + 1) [.int .i32 o0, .int .i32 o1, .int .i32 o2, .int .i32 o3]
  hx : Cells W (w.heap.size + 1 + 1 + 1) [.int .i32 0, .int .i32 0, .int .i32 0, .int .i32 0]
  hf : Cells W (w.heap.size + 1 + 1 + 1 + 1) [.int .i32 (upJ f j 0), .int .i32 (upJ f j 1), .int .i32 (upJ f j 2), .int .i32 (upJ f j 3)]
theorem Gx.step {w : World} {p0 p1 p2 p3 a b c d o0 o1 o2 o3 : Int} {f : Nat → Int} {j : Nat} {W W' : World} (h : Gx w p0 p1 p2 p3 a b c d o0 o1 o2 o3 f j W) (hb : Below W.heap.size W W') : Gx w p0 p1 p2 p3 a b c d o0 o1 o2 o3 f j W' :=
  ⟨h.bel.trans (hb.mono h.bel.size), h.hp.step hb, h.hm.step hb, h.ho.step hb, h.hx.step hb, h.hf.step hb⟩
theorem Gx.store {w : World} {p0 p1 p2 p3 a b c d o0 o1 o2 o3 : Int} {f : Nat → Int} {j : Nat} {W : World} (h : Gx w p0 p1 p2 p3 a b c d o0 o1 o2 o3 f j W) (hj : j < 4) : Gx w p0 p1 p2 p3 a b c d o0 o1 o2 o3 f (j + 1) (W.setCell ⟨w.heap.size + 1 + 1 + 1 + 1, j, none⟩ (.int .i32 (f j))) := by
  refine ⟨h.bel.setCell (p := ⟨w.heap.size + 1 + 1 + 1 + 1, j, none⟩) (by simp; omega) _, h.hp.other (by omega) _, h.hm.other (by omega) _, h.ho.other (by omega) _, h.hx.other (by omega) _, ?_⟩
  have := h.hf.set (j := j) (by simpa using hj) (.int .i32 (f j))
  obtain rfl | rfl | rfl | rfl := cases4 hj <;> exact this
theorem gx_new (w : World) (p0 p1 p2 p3 a b c d o0 o1 o2 o3 : Int) (f : Nat → Int) (t1 t2 t3 t4 t5 : TypeId) : Gx w p0 p1 p2 p3 a b c d o0 o1 o2 o3 f 0 (((((w.alloc (.cells #[.int .i32 p0, .int .i32 p1, .int .i32 p2, .int .i32 p3] t1)).alloc (.cells #[.int .i64 a, .int .i64 b, .int .i64 c, .int .i64 d] t2)).alloc (.cells #[.int .i32 o0, .int .i32 o1, .int .i32 o2, .int .i32 o3] t3)).alloc (.cells #[.int .i32 0, .int .i32 0, .int .i32 0, .int .i32 0] t4)).alloc (.cells #[.int .i32 0, .int .i32 0, .int .i32 0, .int .i32 0] t5)) := by
  have h1 := cells_new w #[.int .i32 p0, .int .i32 p1, .int .i32 p2, .int .i32 p3] t1
  have h2 := cells_new (w.alloc (.cells #[.int .i32 p0, .int .i32 p1, .int .i32 p2, .int .i32 p3] t1)) #[.int .i64 a, .int .i64 b, .int .i64 c, .int .i64 d] t2
  have h3 := cells_new ((w.alloc (.cells #[.int .i32 p0, .int .i32 p1, .int .i32 p2, .int .i32 p3] t1)).alloc (.cells #[.int .i64 a, .int .i64 b, .int .i64 c, .int .i64 d] t2)) #[.int .i32 o0, .int .i32 o1, .int .i32 o2, .int .i32 o3] t3
  have h4 := cells_new (((w.alloc (.cells #[.int .i32 p0, .int .i32 p1, .int .i32 p2, .int .i32 p3] t1)).alloc (.cells #[.int .i64 a, .int .i64 b, .int .i64 c, .int .i64 d] t2)).alloc (.cells #[.int .i32 o0, .int .i32 o1, .int .i32 o2, .int .i32 o3] t3)) #[.int .i32 0, .int .i32 0, .int .i32 0, .int .i32 0] t4
  have h5 := cells_new ((((w.alloc (.cells #[.int .i32 p0, .int .i32 p1, .int .i32 p2, .int .i32 p3] t1)).alloc (.cells #[.int .i64 a, .int .i64 b, .int .i64 c, .int .i64 d] t2)).alloc (.cells #[.int .i32 o0, .int .i32 o1, .int .i32 o2, .int .i32 o3] t3)).alloc (.cells #[.int .i32 0, .int .i32 0, .int .i32 0, .int .i32 0] t4)) #[.int .i32 0, .int .i32 0, .int .i32 0, .int .i32 0] t5
  simp only [World.size_alloc] at h2 h3 h4 h5
  exact ⟨(((((Below.refl _ w).alloc (Nat.le_refl _) _).alloc (by simp) _).alloc (by simp; omega) _).alloc (by simp; omega) _).alloc (by simp; omega) _, (((h1.alloc _).alloc _).alloc _).alloc _, ((h2.alloc _).alloc _).alloc _, (h3.alloc _).alloc _, h4.alloc _, h5⟩
/-- the answer laid down -/
theorem Gx.put {w : World} {p0 p1 p2 p3 a b c d o0 o1 o2 o3 : Int} {f : Nat → Int} {j : Nat} {W : World} (h : Gx w p0 p1 p2 p3 a b c d o0 o1 o2 o3 f j W) (x0 x1 x2 x3 : Int) :
    ∃ w3, (((W.setCell ⟨w.heap.size + 1 + 1 + 1, 0, none⟩ (.int .i32 x0)).setCell ⟨w.heap.size + 1 + 1 + 1, 1, none⟩ (.int .i32 x1)).setCell ⟨w.heap.size + 1 + 1 + 1, 2, none⟩ (.int .i32 x2)).setCell ⟨w.heap.size + 1 + 1 + 1, 3, none⟩ (.int .i32 x3) = w3 ∧ w3.cell? ⟨w.heap.size + 1 + 1 + 1, 0, none⟩ = some (.int .i32 x0) ∧ w3.cell? ⟨w.heap.size + 1 + 1 + 1, 1, none⟩ = some (.int .i32 x1) ∧ w3.cell? ⟨w.heap.size + 1 + 1 + 1, 2, none⟩ = some (.int .i32 x2) ∧ w3.cell? ⟨w.heap.size + 1 + 1 + 1, 3, none⟩ = some (.int .i32 x3) ∧ Below w.heap.size w w3 := by
  have c := (((h.hx.set (j := 0) (by simp) (.int .i32 x0)).set (j := 1) (by simp) (.int .i32 x1)).set (j := 2) (by simp) (.int .i32 x2)).set (j := 3) (by simp) (.int .i32 x3)
  exact ⟨_, rfl, c.cell 0 _ rfl, c.cell 1 _ rfl, c.cell 2 _ rfl, c.cell 3 _ rfl, (((h.bel.setCell (p := ⟨w.heap.size + 1 + 1 + 1, 0, none⟩) (by simp; omega) _).setCell (p := ⟨w.heap.size + 1 + 1 + 1, 1, none⟩) (by simp; omega) _).setCell (p := ⟨w.heap.size + 1 + 1 + 1, 2, none⟩) (by simp; omega) _).setCell (p := ⟨w.heap.size + 1 + 1 + 1, 3, none⟩) (by simp; omega) _⟩
theorem Gx.came {w : World} {p0 p1 p2 p3 a b c d o0 o1 o2 o3 : Int} {f : Nat → Int} {j : Nat} {W : World} (h : Gx w p0 p1 p2 p3 a b c d o0 o1 o2 o3 f j W) :
    (W.cell? ⟨w.heap.size, 0, none⟩ = some (.int .i32 p0) ∧ W.cell? ⟨w.heap.size, 1, none⟩ = some (.int .i32 p1) ∧ W.cell? ⟨w.heap.size, 2, none⟩ = some (.int .i32 p2) ∧ W.cell? ⟨w.heap.size, 3, none⟩ = some (.int .i32 p3) ∧ w.heap.size < W.heap.size) ∧ (W.cell? ⟨w.heap.size + 1, 0, none⟩ = some (.int .i64 a) ∧ W.cell? ⟨w.heap.size + 1, 1, none⟩ = some (.int .i64 b) ∧ W.cell? ⟨w.heap.size + 1, 2, none⟩ = some (.int .i64 c) ∧ W.cell? ⟨w.heap.size + 1, 3, none⟩ = some (.int .i64 d) ∧ w.heap.size + 1 < W.heap.size) ∧ (W.cell? ⟨w.heap.size + 1 + 1, 0, none⟩ = some (.int .i32 o0) ∧ W.cell? ⟨w.heap.size + 1 + 1, 1, none⟩ = some (.int .i32 o1) ∧ W.cell? ⟨w.heap.size + 1 + 1, 2, none⟩ = some (.int .i32 o2) ∧ W.cell? ⟨w.heap.size + 1 + 1, 3, none⟩ = some (.int .i32 o3) ∧ w.heap.size + 1 + 1 < W.heap.size) :=
  ⟨⟨h.hp.cell 0 _ rfl, h.hp.cell 1 _ rfl, h.hp.cell 2 _ rfl, h.hp.cell 3 _ rfl, h.hp.lt⟩, ⟨h.hm.cell 0 _ rfl, h.hm.cell 1 _ rfl, h.hm.cell 2 _ rfl, h.hm.cell 3 _ rfl, h.hm.lt⟩, ⟨h.ho.cell 0 _ rfl, h.ho.cell 1 _ rfl, h.ho.cell 2 _ rfl, h.ho.cell 3 _ rfl, h.ho.lt⟩⟩
theorem Gx.free {w : World} {p0 p1 p2 p3 a b c d o0 o1 o2 o3 : Int} {f : Nat → Int} {j : Nat} {W : World} (h : Gx w p0 p1 p2 p3 a b c d o0 o1 o2 o3 f j W) :
    (W.cell? ⟨w.heap.size + 1 + 1 + 1 + 1, 0, none⟩ = some (.int .i32 (upJ f j 0)) ∧ W.cell? ⟨w.heap.size + 1 + 1 + 1 + 1, 1, none⟩ = some (.int .i32 (upJ f j 1)) ∧ W.cell? ⟨w.heap.size + 1 + 1 + 1 + 1, 2, none⟩ = some (.int .i32 (upJ f j 2)) ∧ W.cell? ⟨w.heap.size + 1 + 1 + 1 + 1, 3, none⟩ = some (.int .i32 (upJ f j 3)) ∧ w.heap.size + 1 + 1 + 1 + 1 < W.heap.size) ∧ (W.frozen? ⟨w.heap.size + 1 + 1 + 1 + 1, 0, none⟩ = false ∧ W.frozen? ⟨w.heap.size + 1 + 1 + 1 + 1, 1, none⟩ = false ∧ W.frozen? ⟨w.heap.size + 1 + 1 + 1 + 1, 2, none⟩ = false ∧ W.frozen? ⟨w.heap.size + 1 + 1 + 1 + 1, 3, none⟩ = false) ∧ (W.cell? ⟨w.heap.size + 1 + 1 + 1, 0, none⟩ = some (.int .i32 0) ∧ W.cell? ⟨w.heap.size + 1 + 1 + 1, 1, none⟩ = some (.int .i32 0) ∧ W.cell? ⟨w.heap.size + 1 + 1 + 1, 2, none⟩ = some (.int .i32 0) ∧ W.cell? ⟨w.heap.size + 1 + 1 + 1, 3, none⟩ = some (.int .i32 0) ∧ w.heap.size + 1 + 1 + 1 < W.heap.size) ∧ (W.frozen? ⟨w.heap.size + 1 + 1 + 1, 0, none⟩ = false ∧ W.frozen? ⟨w.heap.size + 1 + 1 + 1, 1, none⟩ = false ∧ W.frozen? ⟨w.heap.size + 1 + 1 + 1, 2, none⟩ = false ∧ W.frozen? ⟨w.heap.size + 1 + 1 + 1, 3, none⟩ = false) :=
  ⟨⟨h.hf.cell 0 _ rfl, h.hf.cell 1 _ rfl, h.hf.cell 2 _ rfl, h.hf.cell 3 _ rfl, h.hf.lt⟩, ⟨h.hf.froz 0 _ rfl, h.hf.froz 1 _ rfl, h.hf.froz 2 _ rfl, h.hf.froz 3 _ rfl⟩, ⟨h.hx.cell 0 _ rfl, h.hx.cell 1 _ rfl, h.hx.cell 2 _ rfl, h.hx.cell 3 _ rfl, h.hx.lt⟩, ⟨h.hx.froz 0 _ rfl, h.hx.froz 1 _ rfl, h.hx.froz 2 _ rfl, h.hx.froz 3 _ rfl⟩⟩

set_option maxHeartbeats 2000000 in
theorem push_bad (p0 p1 p2 p3 a b c d o0 o1 o2 o3 : Int) (w : World) (h : ¬ (OkM a ∧ OkM b ∧ OkM c ∧ OkM d)) : Calls Try.prog 29 #[.agg #[.int .i32 p0, .int .i32 p1, .int .i32 p2, .int .i32 p3], .agg #[.int .i64 a, .int .i64 b, .int .i64 c, .int .i64 d], .agg #[.int .i32 o0, .int .i32 o1, .int .i32 o2, .int .i32 o3]] w fun r w' => r = .returned (.tuple #[.agg #[.int .i32 0, .int .i32 0, .int .i32 0, .int .i32 0], .int .i64 1]) ∧ Below w.heap.size w w' := by
  have B0 : Hid (_) := gx_new w p0 p1 p2 p3 a b c d o0 o1 o2 o3 (fun _ => 0) 64 65 64 64 64
  go_enter Try.func29, Try.ntmps29
  go_wp2_with fail
  refine (areModes_bad a b c d _ h).mono ?_
  rintro r w1 ⟨rfl, hb⟩
  have B1 : Hid (_) := B0.out.step hb
  clear hb B0 h
  obtain ⟨⟨f0, f1, f2, f3, lf⟩, ⟨u0, u1, u2, u3⟩, ⟨x0, x1, x2, x3, lx⟩, z0, z1, z2, z3⟩ := B1.out.free
  go_wp2_with fail
  obtain ⟨w3, hw3, y0, y1, y2, y3, b3⟩ := B1.out.put (upJ (fun _ => 0) 0 0) (upJ (fun _ => 0) 0 1) (upJ (fun _ => 0) 0 2) (upJ (fun _ => 0) 0 3)
  rw [hw3]
  refine bodyPost_ret (by simp [results, Try.results29, go_sem, y0, y1, y2, y3]; try rfl) rfl ?_
  exact ⟨rfl, b3⟩

set_option maxHeartbeats 8000000 in
set_option maxRecDepth 100000 in
theorem push_ok (p0 p1 p2 p3 a b c d o0 o1 o2 o3 : Int) (w : World) (hm : OkM a ∧ OkM b ∧ OkM c ∧ OkM d) (hp : F4 p0 p1 p2 p3) (ho : F4 o0 o1 o2 o3) :
    Calls Try.prog 29 #[.agg #[.int .i32 p0, .int .i32 p1, .int .i32 p2, .int .i32 p3], .agg #[.int .i64 a, .int .i64 b, .int .i64 c, .int .i64 d], .agg #[.int .i32 o0, .int .i32 o1, .int .i32 o2, .int .i32 o3]] w fun r w' => r = .returned (.tuple #[.agg #[.int .i32 (psI a p0 o0), .int .i32 (psI b p1 o1), .int .i32 (psI c p2 o2), .int .i32 (psI d p3 o3)], .int .i64 0]) ∧ Below w.heap.size w w' := by
  have B0 : Hid (_) := gx_new w p0 p1 p2 p3 a b c d o0 o1 o2 o3 (q4 (psI a p0 o0) (psI b p1 o1) (psI c p2 o2) (psI d p3 o3)) 64 65 64 64 64
  have C1 : Hid (_) := fun W => areModes_ok a b c d W hm.1 hm.2.1 hm.2.2.1 hm.2.2.2
  have C2 : Hid (∀ W, Calls Try.prog 46 #[.agg #[.int .i32 p0, .int .i32 p1, .int .i32 p2, .int .i32 p3], .agg #[.int .i64 a, .int .i64 b, .int .i64 c, .int .i64 d]] W fun r w' => r = .returned (.agg #[.int .i32 (act a p0), .int .i32 (act b p1), .int .i32 (act c p2), .int .i32 (act d p3)]) ∧ Below W.heap.size W w') := fun W => ofActive_any p0 p1 p2 p3 a b c d W
  have hq := hp.act a b c d
  have M0 := run_mx0 o0
  have M1 := run_mx0 o1
  have M2 := run_mx0 o2
  have M3 := run_mx0 o3
  have i0 := mx0_I ho.a
  have i1 := mx0_I ho.b
  have i2 := mx0_I ho.c
  have i3 := mx0_I ho.d
  unfold psI
  unfold psI at B0
  generalize act a p0 = q0 at *
  generalize act b p1 = q1 at *
  generalize act c p2 = q2 at *
  generalize act d p3 = q3 at *
  generalize mx0 o0 = n0 at *
  generalize mx0 o1 = n1 at *
  generalize mx0 o2 = n2 at *
  generalize mx0 o3 = n3 at *
  have D0 : Hid (∀ W, Calls Try.prog 47 #[.int .i32 q0, .int .i32 n0] W fun r w' => r = .returned (.int .i32 (mulI q0 n0)) ∧ w' = W) := fun W => mul_any _ _ hq.a.1 hq.a.2 i0.1 i0.2 W
  have D1 : Hid (∀ W, Calls Try.prog 47 #[.int .i32 q1, .int .i32 n1] W fun r w' => r = .returned (.int .i32 (mulI q1 n1)) ∧ w' = W) := fun W => mul_any _ _ hq.b.1 hq.b.2 i1.1 i1.2 W
  have D2 : Hid (∀ W, Calls Try.prog 47 #[.int .i32 q2, .int .i32 n2] W fun r w' => r = .returned (.int .i32 (mulI q2 n2)) ∧ w' = W) := fun W => mul_any _ _ hq.c.1 hq.c.2 i2.1 i2.2 W
  have D3 : Hid (∀ W, Calls Try.prog 47 #[.int .i32 q3, .int .i32 n3] W fun r w' => r = .returned (.int .i32 (mulI q3 n3)) ∧ w' = W) := fun W => mul_any _ _ hq.d.1 hq.d.2 i3.1 i3.2 W
  clear i0 i1 i2 i3
  generalize hf : q4 (mulI q0 n0) (mulI q1 n1) (mulI q2 n2) (mulI q3 n3) = f at *
  have f0 : f 0 = mulI q0 n0 := by rw [← hf]; rfl
  have f1 : f 1 = mulI q1 n1 := by rw [← hf]; rfl
  have f2 : f 2 = mulI q2 n2 := by rw [← hf]; rfl
  have f3 : f 3 = mulI q3 n3 := by rw [← hf]; rfl
  rw [← f0] at D0 ⊢
  rw [← f1] at D1 ⊢
  rw [← f2] at D2 ⊢
  rw [← f3] at D3 ⊢
  obtain ⟨i0, i1, i2, i3⟩ := ixI q0 q1 q2 q3
  clear hm hp ho hq hf f0 f1 f2 f3
  go_enter Try.func29, Try.ntmps29
  go_wp2_with fail
  refine (C1.out _).mono ?_
  rintro r w1 ⟨rfl, hb⟩
  have B1 : Hid (_) := B0.out.step hb
  clear hb B0
  obtain ⟨⟨p0c, p1c, p2c, p3c, lp⟩, ⟨m0c, m1c, m2c, m3c, lm⟩, -⟩ := B1.out.came
  go_wp2_with fail
  refine (C2.out _).mono ?_
  rintro r w2 ⟨rfl, hb⟩
  have B2 : Hid (_) := B1.out.step hb
  clear hb B1 p0c p1c p2c p3c lp m0c m1c m2c m3c lm
  go_wp2_with fail
  go_loopg [18] (5) (fun g q wr => ∃ j : Nat, q = .int .i64 j ∧ 4 - j < g ∧ j ≤ 4 ∧ Hid (Gx w p0 p1 p2 p3 a b c d o0 o1 o2 o3 f j wr))
  case atStart => exact ⟨0, rfl, by omega, by omega, B2⟩
  case round =>
    obtain ⟨j, rfl, hg, hj, HB⟩ := hrel
    clear B2
    obtain ⟨-, -, e0, e1, e2, e3, le⟩ := HB.out.came
    obtain ⟨⟨f0, f1, f2, f3, lf⟩, ⟨u0, u1, u2, u3⟩, ⟨x0, x1, x2, x3, lx⟩, z0, z1, z2, z3⟩ := HB.out.free
    by_cases hlt : j < 4
    · obtain rfl | rfl | rfl | rfl := cases4 hlt
      · go_wp2_with fail
        refine (D0.out _).mono ?_
        rintro r w5 ⟨rfl, rfl⟩
        go_wp2_with fail
        go_roundg (4 - (0 + 1) + 1)
        case measure => omega
        case rel => exact ⟨1, rfl, by omega, by omega, HB.out.store (by omega)⟩
      · go_wp2_with fail
        refine (D1.out _).mono ?_
        rintro r w5 ⟨rfl, rfl⟩
        go_wp2_with fail
        go_roundg (4 - (1 + 1) + 1)
        case measure => omega
        case rel => exact ⟨2, rfl, by omega, by omega, HB.out.store (by omega)⟩
      · go_wp2_with fail
        refine (D2.out _).mono ?_
        rintro r w5 ⟨rfl, rfl⟩
        go_wp2_with fail
        go_roundg (4 - (2 + 1) + 1)
        case measure => omega
        case rel => exact ⟨3, rfl, by omega, by omega, HB.out.store (by omega)⟩
      · go_wp2_with fail
        refine (D3.out _).mono ?_
        rintro r w5 ⟨rfl, rfl⟩
        go_wp2_with fail
        go_roundg (4 - (3 + 1) + 1)
        case measure => omega
        case rel => exact ⟨4, rfl, by omega, by omega, HB.out.store (by omega)⟩
    · obtain rfl : j = 4 := by omega
      go_wp2_with fail
      obtain ⟨w3, hw3, y0, y1, y2, y3, b3⟩ := HB.out.put (upJ f 4 0) (upJ f 4 1) (upJ f 4 2) (upJ f 4 3)
      rw [hw3]
      refine bodyPost_ret (by simp [results, Try.results29, go_sem, y0, y1, y2, y3]; try rfl) rfl ?_
      exact ⟨rfl, b3⟩

end Go.Proofs.Ytihcioghbidblaa
