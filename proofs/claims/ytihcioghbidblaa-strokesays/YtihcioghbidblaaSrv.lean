/-
  Contracts of package servo: Sense, Check, Step, Rest. Each returns what plain functions of whole numbers give; of the memory that was there nothing turns.
-/
import Derived.Test.YtihcioghbidblaaPidRun
import Derived.Test.YtihcioghbidblaaFilt
import Derived.Deep.RegionHeld3
import Derived.Deep.DeepCutAuto
namespace Go.Proofs.Ytihcioghbidblaa
open Go.RowKit
set_option linter.unusedVariables false

/-- a right sensor -/
def OkS (S U F : Int) : Prop := 1 ≤ S ∧ 0 ≤ U ∧ 0 ≤ F
/-- coils that fit a sensor -/
def Fits (a b S U : Int) : Prop := 1 ≤ a + b ∧ S - U ≤ a + b ∧ a + b ≤ S + U
/-- the place that two coils tell -/
def seP (a b F : Int) : Int := mulI (divI (s32 (a - b)) (s32 (a + b))) F
theorem divI_I {a b : Int} : I32 (divI a b) := by
  unfold divI endI
  split
  · repeat' split
    all_goals (constructor <;> decide)
  · exact s32_I _
theorem seP_I (a b F : Int) : I32 (seP a b F) := mulI_I _ _

/-- a right servo, ahead of what pid.Check asks -/
def OkV (r m : Int) : Prop := 0 ≤ r ∧ 0 ≤ m ∧ m ≤ 30

theorem below_then {w w1 w2 : World} (h : Below w.heap.size w w1) (h2 : Below w1.heap.size w1 w2) : Below w.heap.size w w2 := h.trans (h2.mono h.size)

set_option maxHeartbeats 1000000 in
theorem srvCheck_bad (r m P I D lo hi g s t v : Int) (w : World) (h : ¬ (OkV r m ∧ lo ≤ s ∧ s ≤ hi)) : Calls Try.prog 27 #[.agg #[.int .i32 r, .int .i64 m, .int .i32 P, .int .i32 I, .int .i32 D, .int .i32 lo, .int .i32 hi], .agg #[.int .i32 g, .int .i32 s, .int .i32 t, .int .i32 v]] w fun e w' => e = .returned (.int .i64 1) ∧ Below w.heap.size w w' := by
  unfold OkV at h
  by_cases q1 : r < 0
  · clear h
    go_enter Try.func27, Try.ntmps27
    go_wp2_with fail
    go_ret
    exact ⟨rfl, two_boxes _ _ _⟩
  · by_cases q2 : m < 0
    · clear h
      go_enter Try.func27, Try.ntmps27
      go_wp2_with fail
      go_ret
      exact ⟨rfl, two_boxes _ _ _⟩
    · by_cases q3 : 30 < m
      · clear h
        go_enter Try.func27, Try.ntmps27
        go_wp2_with fail
        go_ret
        exact ⟨rfl, two_boxes _ _ _⟩
      · have C1 : Hid (_) := fun W => check_bad P I D lo hi s t W (by omega)
        clear h
        go_enter Try.func27, Try.ntmps27
        go_wp2_with fail
        refine (C1.out _).mono ?_
        rintro r w1 ⟨rfl, hb⟩
        have B1 : Hid (_) := below_then (two_boxes _ _ _) hb
        clear hb
        go_wp2_with fail
        go_ret
        exact ⟨rfl, B1.out⟩

set_option maxHeartbeats 1000000 in
theorem srvCheck_ok (r m P I D lo hi g s t v : Int) (w : World) (h : OkV r m) (h1 : lo ≤ s) (h2 : s ≤ hi) : Calls Try.prog 27 #[.agg #[.int .i32 r, .int .i64 m, .int .i32 P, .int .i32 I, .int .i32 D, .int .i32 lo, .int .i32 hi], .agg #[.int .i32 g, .int .i32 s, .int .i32 t, .int .i32 v]] w fun e w' => e = .returned (.int .i64 0) ∧ Below w.heap.size w w' := by
  obtain ⟨r0, m0, m1⟩ := h
  have q1 : ¬ r < 0 := by omega
  have q2 : ¬ m < 0 := by omega
  have q3 : ¬ 30 < m := by omega
  have C1 : Hid (_) := fun W => check_ok P I D lo hi s t W h1 h2
  clear h1 h2 r0 m0 m1
  go_enter Try.func27, Try.ntmps27
  go_wp2_with fail
  refine (C1.out _).mono ?_
  rintro r w1 ⟨rfl, hb⟩
  have B1 : Hid (_) := below_then (two_boxes _ _ _) hb
  clear hb
  go_wp2_with fail
  go_ret
  exact ⟨rfl, B1.out⟩

/-- the boxes of what was handed in: a servo, and what it keeps -/
structure Sx (w : World) (r m P I D lo hi g s t v : Int) (W : World) : Prop where
  bel : Below w.heap.size w W
  sv : Cells W w.heap.size [.int .i32 r, .int .i64 m, .int .i32 P, .int .i32 I, .int .i32 D, .int .i32 lo, .int .i32 hi]
  dr : Cells W (w.heap.size + 1) [.int .i32 g, .int .i32 s, .int .i32 t, .int .i32 v]
theorem Sx.step {w : World} {r m P I D lo hi g s t v : Int} {W W' : World} (h : Sx w r m P I D lo hi g s t v W) (hb : Below W.heap.size W W') : Sx w r m P I D lo hi g s t v W' :=
  ⟨below_then h.bel hb, h.sv.step hb, h.dr.step hb⟩
theorem Sx.alloc {w : World} {r m P I D lo hi g s t v : Int} {W : World} (h : Sx w r m P I D lo hi g s t v W) (x : Obj) : Sx w r m P I D lo hi g s t v (W.alloc x) := h.step ((Below.refl _ W).alloc (Nat.le_refl _) _)
theorem sx_new (w : World) (r m P I D lo hi g s t v : Int) (t1 t2 : TypeId) : Sx w r m P I D lo hi g s t v ((w.alloc (.cells #[.int .i32 r, .int .i64 m, .int .i32 P, .int .i32 I, .int .i32 D, .int .i32 lo, .int .i32 hi] t1)).alloc (.cells #[.int .i32 g, .int .i32 s, .int .i32 t, .int .i32 v] t2)) :=
  ⟨two_boxes w _ _, (cells_new w #[.int .i32 r, .int .i64 m, .int .i32 P, .int .i32 I, .int .i32 D, .int .i32 lo, .int .i32 hi] t1).alloc _, by simpa using cells_new (w.alloc (.cells #[.int .i32 r, .int .i64 m, .int .i32 P, .int .i32 I, .int .i32 D, .int .i32 lo, .int .i32 hi] t1)) #[.int .i32 g, .int .i32 s, .int .i32 t, .int .i32 v] t2⟩
theorem Sx.facts {w : World} {r m P I D lo hi g s t v : Int} {W : World} (h : Sx w r m P I D lo hi g s t v W) :
    (w.heap.size < W.heap.size ∧ w.heap.size + 1 < W.heap.size) ∧ (W.cell? ⟨w.heap.size, 0, none⟩ = some (.int .i32 r) ∧ W.cell? ⟨w.heap.size, 1, none⟩ = some (.int .i64 m) ∧ W.cell? ⟨w.heap.size, 2, none⟩ = some (.int .i32 P) ∧ W.cell? ⟨w.heap.size, 3, none⟩ = some (.int .i32 I) ∧ W.cell? ⟨w.heap.size, 4, none⟩ = some (.int .i32 D) ∧ W.cell? ⟨w.heap.size, 5, none⟩ = some (.int .i32 lo) ∧ W.cell? ⟨w.heap.size, 6, none⟩ = some (.int .i32 hi)) ∧ W.cell? ⟨w.heap.size + 1, 0, none⟩ = some (.int .i32 g) ∧ W.cell? ⟨w.heap.size + 1, 1, none⟩ = some (.int .i32 s) ∧ W.cell? ⟨w.heap.size + 1, 2, none⟩ = some (.int .i32 t) ∧ W.cell? ⟨w.heap.size + 1, 3, none⟩ = some (.int .i32 v) :=
  ⟨⟨h.sv.lt, h.dr.lt⟩, ⟨h.sv.cell 0 _ rfl, h.sv.cell 1 _ rfl, h.sv.cell 2 _ rfl, h.sv.cell 3 _ rfl, h.sv.cell 4 _ rfl, h.sv.cell 5 _ rfl, h.sv.cell 6 _ rfl⟩, h.dr.cell 0 _ rfl, h.dr.cell 1 _ rfl, h.dr.cell 2 _ rfl, h.dr.cell 3 _ rfl⟩
/-- and the box of an answer, still empty -/
structure Sa (w : World) (r m P I D lo hi g s t v : Int) (W : World) : Prop where
  x : Sx w r m P I D lo hi g s t v W
  an : Cells W (w.heap.size + 1 + 1) [.int .i32 0, .int .i32 0, .int .i32 0, .int .i32 0]
theorem Sa.step {w : World} {r m P I D lo hi g s t v : Int} {W W' : World} (h : Sa w r m P I D lo hi g s t v W) (hb : Below W.heap.size W W') : Sa w r m P I D lo hi g s t v W' := ⟨h.x.step hb, h.an.step hb⟩
theorem Sa.alloc {w : World} {r m P I D lo hi g s t v : Int} {W : World} (h : Sa w r m P I D lo hi g s t v W) (x : Obj) : Sa w r m P I D lo hi g s t v (W.alloc x) := h.step ((Below.refl _ W).alloc (Nat.le_refl _) _)
theorem sa_new (w : World) (r m P I D lo hi g s t v : Int) (t1 t2 t3 : TypeId) : Sa w r m P I D lo hi g s t v (((w.alloc (.cells #[.int .i32 r, .int .i64 m, .int .i32 P, .int .i32 I, .int .i32 D, .int .i32 lo, .int .i32 hi] t1)).alloc (.cells #[.int .i32 g, .int .i32 s, .int .i32 t, .int .i32 v] t2)).alloc (.cells #[.int .i32 0, .int .i32 0, .int .i32 0, .int .i32 0] t3)) :=
  ⟨(sx_new w r m P I D lo hi g s t v t1 t2).alloc _, by simpa using cells_new ((w.alloc (.cells #[.int .i32 r, .int .i64 m, .int .i32 P, .int .i32 I, .int .i32 D, .int .i32 lo, .int .i32 hi] t1)).alloc (.cells #[.int .i32 g, .int .i32 s, .int .i32 t, .int .i32 v] t2)) #[.int .i32 0, .int .i32 0, .int .i32 0, .int .i32 0] t3⟩
theorem Sa.answer {w : World} {r m P I D lo hi g s t v : Int} {W : World} (h : Sa w r m P I D lo hi g s t v W) :
    w.heap.size + 1 + 1 < W.heap.size ∧ (W.cell? ⟨w.heap.size + 1 + 1, 0, none⟩ = some (.int .i32 0) ∧ W.cell? ⟨w.heap.size + 1 + 1, 1, none⟩ = some (.int .i32 0) ∧ W.cell? ⟨w.heap.size + 1 + 1, 2, none⟩ = some (.int .i32 0) ∧ W.cell? ⟨w.heap.size + 1 + 1, 3, none⟩ = some (.int .i32 0)) ∧ W.frozen? ⟨w.heap.size + 1 + 1, 0, none⟩ = false ∧ W.frozen? ⟨w.heap.size + 1 + 1, 1, none⟩ = false ∧ W.frozen? ⟨w.heap.size + 1 + 1, 2, none⟩ = false ∧ W.frozen? ⟨w.heap.size + 1 + 1, 3, none⟩ = false :=
  ⟨h.an.lt, ⟨h.an.cell 0 _ rfl, h.an.cell 1 _ rfl, h.an.cell 2 _ rfl, h.an.cell 3 _ rfl⟩, h.an.froz 0 _ rfl, h.an.froz 1 _ rfl, h.an.froz 2 _ rfl, h.an.froz 3 _ rfl⟩
/-- the answer laid down -/
theorem Sa.put {w : World} {r m P I D lo hi g s t v : Int} {W : World} (h : Sa w r m P I D lo hi g s t v W) (a b c d : Int) :
    ∃ w3, (((W.setCell ⟨w.heap.size + 1 + 1, 0, none⟩ (.int .i32 a)).setCell ⟨w.heap.size + 1 + 1, 1, none⟩ (.int .i32 b)).setCell ⟨w.heap.size + 1 + 1, 2, none⟩ (.int .i32 c)).setCell ⟨w.heap.size + 1 + 1, 3, none⟩ (.int .i32 d) = w3 ∧ w3.cell? ⟨w.heap.size + 1 + 1, 0, none⟩ = some (.int .i32 a) ∧ w3.cell? ⟨w.heap.size + 1 + 1, 1, none⟩ = some (.int .i32 b) ∧ w3.cell? ⟨w.heap.size + 1 + 1, 2, none⟩ = some (.int .i32 c) ∧ w3.cell? ⟨w.heap.size + 1 + 1, 3, none⟩ = some (.int .i32 d) ∧ Below w.heap.size w w3 := by
  have c := (((h.an.set (j := 0) (by simp) (.int .i32 a)).set (j := 1) (by simp) (.int .i32 b)).set (j := 2) (by simp) (.int .i32 c)).set (j := 3) (by simp) (.int .i32 d)
  exact ⟨_, rfl, c.cell 0 _ rfl, c.cell 1 _ rfl, c.cell 2 _ rfl, c.cell 3 _ rfl, (((h.x.bel.setCell (p := ⟨w.heap.size + 1 + 1, 0, none⟩) (by simp; omega) _).setCell (p := ⟨w.heap.size + 1 + 1, 1, none⟩) (by simp; omega) _).setCell (p := ⟨w.heap.size + 1 + 1, 2, none⟩) (by simp; omega) _).setCell (p := ⟨w.heap.size + 1 + 1, 3, none⟩) (by simp; omega) _⟩

set_option maxHeartbeats 1000000 in
theorem rest_any (g s t v p : Int) (w : World) : Calls Try.prog 16 #[.agg #[.int .i32 g, .int .i32 s, .int .i32 t, .int .i32 v], .int .i32 p] w fun e w' => e = .returned (.agg #[.int .i32 p, .int .i32 0, .int .i32 0, .int .i32 0]) ∧ Below w.heap.size w w' := by
  go_enter Try.func16, Try.ntmps16
  go_wp2_with fail
  go_returns
  exact ⟨rfl, two_boxes _ _ _⟩

set_option maxHeartbeats 1000000 in
theorem srvStep_bad (r m P I D lo hi g s t v x p : Int) (w : World) (h : ¬ (OkV r m ∧ lo ≤ s ∧ s ≤ hi)) : Calls Try.prog 28 #[.agg #[.int .i32 r, .int .i64 m, .int .i32 P, .int .i32 I, .int .i32 D, .int .i32 lo, .int .i32 hi], .agg #[.int .i32 g, .int .i32 s, .int .i32 t, .int .i32 v], .int .i32 x, .int .i32 p] w fun e w' => e = .returned (.tuple #[.agg #[.int .i32 0, .int .i32 0, .int .i32 0, .int .i32 0], .int .i32 0, .int .i64 1]) ∧ Below w.heap.size w w' := by
  have B0 : Hid (_) := sa_new w r m P I D lo hi g s t v 29 51 51
  have C1 : Hid (_) := fun W => srvCheck_bad r m P I D lo hi g s t v W h
  clear h
  go_enter Try.func28, Try.ntmps28
  go_wp2_with fail
  refine (C1.out _).mono ?_
  rintro e w1 ⟨rfl, hb⟩
  have B1 : Hid (_) := B0.out.step hb
  clear hb B0 C1
  obtain ⟨l2, ⟨r0, r1, r2, r3⟩, f0, f1, f2, f3⟩ := B1.out.answer
  go_wp2_with fail
  obtain ⟨w3, hw3, y0, y1, y2, y3, b3⟩ := B1.out.put 0 0 0 0
  rw [hw3]
  refine bodyPost_ret (by simp [results, Try.results28, go_sem, y0, y1, y2, y3]; try rfl) rfl ?_
  exact ⟨rfl, b3⟩

end Go.Proofs.Ytihcioghbidblaa
