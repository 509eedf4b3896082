/-
  Contracts of package servo: Sense, Check, Step, Rest. Each returns what plain functions of whole numbers give; of the memory that was there nothing turns.
-/
import Derived.Test.YtbpenfjnfoljoaaPidRun
import Derived.Test.YtbpenfjnfoljoaaFilt
import Derived.Deep.RegionHeld3
import Derived.Deep.DeepCutAuto
namespace Go.Proofs.Ytbpenfjnfoljoaa
open Go.RowKit
set_option linter.unusedVariables false

/-- a right sensor -/
def OkS (S U F : Int) : Prop := 1 ≤ S ∧ 0 ≤ U ∧ 0 ≤ F
/-- coils that fit a sensor -/
def Fits (a b S U : Int) : Prop := 1 ≤ a + b ∧ S - U ≤ a + b ∧ a + b ≤ S + U
/-- the place that two coils tell -/
def seP (a b F : Int) : Int := mulI (divI (s32 (a - b)) (s32 (a + b))) F
theorem divI_I {a b : Int} : I32 (divI a b) := by
  unfold divI endI
  split
  · repeat' split
    all_goals (constructor <;> decide)
  · exact s32_I _
theorem seP_I (a b F : Int) : I32 (seP a b F) := mulI_I _ _

set_option maxHeartbeats 400000 in
theorem isFar_yes (n f u : Int) (n1 : -4294967296 ≤ n) (n2 : n ≤ 4294967296) (f1 : -2147483648 ≤ f) (f2 : f ≤ 2147483647) (u1 : -2147483648 ≤ u) (u2 : u ≤ 2147483647) (h : n < f - u ∨ f + u < n) (w : World) :
    Calls Try.prog 14 #[.int .i64 n, .int .i64 f, .int .i64 u] w fun e w' => e = .returned (.bool true) ∧ w' = w := by
  by_cases q : n < f - u
  · go_enter Try.func14, Try.ntmps14
    go_wp2
    go_ret
    exact ⟨rfl, rfl⟩
  · have q2 : f + u < n := by omega
    go_enter Try.func14, Try.ntmps14
    go_wp2
    go_ret
    exact ⟨rfl, rfl⟩

set_option maxHeartbeats 400000 in
theorem isFar_no (n f u : Int) (n1 : -4294967296 ≤ n) (n2 : n ≤ 4294967296) (f1 : -2147483648 ≤ f) (f2 : f ≤ 2147483647) (u1 : -2147483648 ≤ u) (u2 : u ≤ 2147483647) (h : ¬ (n < f - u ∨ f + u < n)) (w : World) :
    Calls Try.prog 14 #[.int .i64 n, .int .i64 f, .int .i64 u] w fun e w' => e = .returned (.bool false) ∧ w' = w := by
  have q : ¬ n < f - u := by omega
  have q2 : ¬ f + u < n := by omega
  clear h
  go_enter Try.func14, Try.ntmps14
  go_wp2
  go_ret
  exact ⟨rfl, rfl⟩

set_option maxHeartbeats 1000000 in
theorem sense_bad (a b S U F : Int) (w : World) (h : ¬ OkS S U F) : Calls Try.prog 6 #[.int .i32 a, .int .i32 b, .agg #[.int .i32 S, .int .i32 U, .int .i32 F]] w fun r w' => r = .returned (.tuple #[.int .i32 0, .bool false, .int .i64 1]) ∧ Below w.heap.size w w' := by
  unfold OkS at h
  by_cases q1 : S < 1
  · clear h
    go_enter Try.func6, Try.ntmps6
    go_wp2_with fail
    go_returns
    exact ⟨rfl, one_box _ _⟩
  · by_cases q2 : U < 0
    · clear h
      go_enter Try.func6, Try.ntmps6
      go_wp2_with fail
      go_returns
      exact ⟨rfl, one_box _ _⟩
    · have q3 : F < 0 := by omega
      clear h
      go_enter Try.func6, Try.ntmps6
      go_wp2_with fail
      go_returns
      exact ⟨rfl, one_box _ _⟩

set_option maxHeartbeats 2000000 in
theorem sense_no (a b S U F : Int) (w : World) (ha : I32 a) (hb : I32 b) (hS : I32 S) (hU : I32 U) (h : OkS S U F) (h2 : ¬ Fits a b S U) : Calls Try.prog 6 #[.int .i32 a, .int .i32 b, .agg #[.int .i32 S, .int .i32 U, .int .i32 F]] w fun r w' => r = .returned (.tuple #[.int .i32 0, .bool false, .int .i64 0]) ∧ Below w.heap.size w w' := by
  unfold Fits at h2
  obtain ⟨s1, u1, f1⟩ := h
  have q1 : ¬ S < 1 := by omega
  have q2 : ¬ U < 0 := by omega
  have q3 : ¬ F < 0 := by omega
  obtain ⟨a1, a2⟩ := ha
  obtain ⟨b1, b2⟩ := hb
  obtain ⟨S1, S2⟩ := hS
  obtain ⟨U1, U2⟩ := hU
  by_cases q4 : a + b < 1
  · clear h2 s1 u1 f1
    go_enter Try.func6, Try.ntmps6
    go_wp2_with fail
    go_returns
    exact ⟨rfl, one_box _ _⟩
  · have C1 : Hid (_) := fun W => isFar_yes (a + b) S U (by omega) (by omega) S1 S2 U1 U2 (by omega) W
    clear h2 s1 u1 f1
    go_enter Try.func6, Try.ntmps6
    go_wp2_with fail
    refine (C1.out _).mono ?_
    rintro r w1 ⟨rfl, rfl⟩
    go_wp2_with fail
    go_returns
    exact ⟨rfl, one_box _ _⟩

set_option maxHeartbeats 2000000 in
theorem sense_yes (a b S U F : Int) (w : World) (ha : I32 a) (hb : I32 b) (hS : I32 S) (hU : I32 U) (hF : I32 F) (h : OkS S U F) (h2 : Fits a b S U) : Calls Try.prog 6 #[.int .i32 a, .int .i32 b, .agg #[.int .i32 S, .int .i32 U, .int .i32 F]] w fun r w' => r = .returned (.tuple #[.int .i32 (seP a b F), .bool true, .int .i64 0]) ∧ Below w.heap.size w w' := by
  obtain ⟨h21, h22, h23⟩ := h2
  obtain ⟨s1, u1, f1⟩ := h
  have q1 : ¬ S < 1 := by omega
  have q2 : ¬ U < 0 := by omega
  have q3 : ¬ F < 0 := by omega
  have q4 : ¬ a + b < 1 := by omega
  have C1 : Hid (_) := fun W => isFar_no (a + b) S U (by have := ha.1; have := hb.1; omega) (by have := ha.2; have := hb.2; omega) hS.1 hS.2 hU.1 hU.2 (by omega) W
  have C2 : Hid (∀ W, Calls Try.prog 16 #[.int .i32 a, .int .i32 b] W fun r w' => r = .returned (.int .i32 (s32 (a - b))) ∧ w' = W) := fun W => sub_any _ _ ha.1 ha.2 hb.1 hb.2 W
  have C3 : Hid (∀ W, Calls Try.prog 17 #[.int .i64 (a + b)] W fun r w' => r = .returned (.int .i32 (s32 (a + b))) ∧ w' = W) := fun W => to32_any _ W
  have C4 : Hid (∀ W, Calls Try.prog 15 #[.int .i32 (s32 (a - b)), .int .i32 (s32 (a + b))] W fun r w' => r = .returned (.int .i32 (divI (s32 (a - b)) (s32 (a + b)))) ∧ w' = W) := fun W => div_any _ _ (s32_I _).1 (s32_I _).2 (s32_I _).1 (s32_I _).2 W
  have C5 : Hid (∀ W, Calls Try.prog 18 #[.int .i32 (divI (s32 (a - b)) (s32 (a + b))), .int .i32 F] W fun r w' => r = .returned (.int .i32 (seP a b F)) ∧ w' = W) := fun W => mul_any _ _ divI_I.1 divI_I.2 hF.1 hF.2 W
  obtain ⟨a1, a2⟩ := ha
  obtain ⟨b1, b2⟩ := hb
  generalize seP a b F = p at *
  generalize divI (s32 (a - b)) (s32 (a + b)) = x at *
  generalize s32 (a - b) = y at *
  generalize s32 (a + b) = z at *
  obtain ⟨S1, S2⟩ := hS
  obtain ⟨U1, U2⟩ := hU
  clear hF h21 h22 h23 s1 u1 f1
  go_enter Try.func6, Try.ntmps6
  go_wp2_with fail
  refine (C1.out _).mono ?_
  rintro r w1 ⟨rfl, rfl⟩
  go_wp2_with (first | (go_at_call 16; refine (C2.out _).mono ?_; rintro e w' ⟨rfl, rfl⟩) | (go_at_call 17; refine (C3.out _).mono ?_; rintro e w' ⟨rfl, rfl⟩) | (go_at_call 15; refine (C4.out _).mono ?_; rintro e w' ⟨rfl, rfl⟩) | (go_at_call 18; refine (C5.out _).mono ?_; rintro e w' ⟨rfl, rfl⟩))
  go_returns
  exact ⟨rfl, one_box _ _⟩

/-- a right servo, ahead of what pid.Check asks -/
def OkV (r m : Int) : Prop := 0 ≤ r ∧ 0 ≤ m ∧ m ≤ 30

theorem below_then {w w1 w2 : World} (h : Below w.heap.size w w1) (h2 : Below w1.heap.size w1 w2) : Below w.heap.size w w2 := h.trans (h2.mono h.size)

set_option maxHeartbeats 1000000 in
theorem srvCheck_bad (r m P I D lo hi g s t v : Int) (w : World) (h : ¬ (OkV r m ∧ lo ≤ s ∧ s ≤ hi)) : Calls Try.prog 10 #[.agg #[.int .i32 r, .int .i64 m, .int .i32 P, .int .i32 I, .int .i32 D, .int .i32 lo, .int .i32 hi], .agg #[.int .i32 g, .int .i32 s, .int .i32 t, .int .i32 v]] w fun e w' => e = .returned (.int .i64 1) ∧ Below w.heap.size w w' := by
  unfold OkV at h
  by_cases q1 : r < 0
  · clear h
    go_enter Try.func10, Try.ntmps10
    go_wp2_with fail
    go_ret
    exact ⟨rfl, two_boxes _ _ _⟩
  · by_cases q2 : m < 0
    · clear h
      go_enter Try.func10, Try.ntmps10
      go_wp2_with fail
      go_ret
      exact ⟨rfl, two_boxes _ _ _⟩
    · by_cases q3 : 30 < m
      · clear h
        go_enter Try.func10, Try.ntmps10
        go_wp2_with fail
        go_ret
        exact ⟨rfl, two_boxes _ _ _⟩
      · have C1 : Hid (_) := fun W => check_bad P I D lo hi s t W (by omega)
        clear h
        go_enter Try.func10, Try.ntmps10
        go_wp2_with fail
        refine (C1.out _).mono ?_
        rintro r w1 ⟨rfl, hb⟩
        have B1 : Hid (_) := below_then (two_boxes _ _ _) hb
        clear hb
        go_wp2_with fail
        go_ret
        exact ⟨rfl, B1.out⟩

set_option maxHeartbeats 1000000 in
theorem srvCheck_ok (r m P I D lo hi g s t v : Int) (w : World) (h : OkV r m) (h1 : lo ≤ s) (h2 : s ≤ hi) : Calls Try.prog 10 #[.agg #[.int .i32 r, .int .i64 m, .int .i32 P, .int .i32 I, .int .i32 D, .int .i32 lo, .int .i32 hi], .agg #[.int .i32 g, .int .i32 s, .int .i32 t, .int .i32 v]] w fun e w' => e = .returned (.int .i64 0) ∧ Below w.heap.size w w' := by
  obtain ⟨r0, m0, m1⟩ := h
  have q1 : ¬ r < 0 := by omega
  have q2 : ¬ m < 0 := by omega
  have q3 : ¬ 30 < m := by omega
  have C1 : Hid (_) := fun W => check_ok P I D lo hi s t W h1 h2
  clear h1 h2 r0 m0 m1
  go_enter Try.func10, Try.ntmps10
  go_wp2_with fail
  refine (C1.out _).mono ?_
  rintro r w1 ⟨rfl, hb⟩
  have B1 : Hid (_) := below_then (two_boxes _ _ _) hb
  clear hb
  go_wp2_with fail
  go_ret
  exact ⟨rfl, B1.out⟩

/-- the boxes of what was handed in: a servo, and what it keeps -/
structure Sx (w : World) (r m P I D lo hi g s t v : Int) (W : World) : Prop where
  bel : Below w.heap.size w W
  sv : Cells W w.heap.size [.int .i32 r, .int .i64 m, .int .i32 P, .int .i32 I, .int .i32 D, .int .i32 lo, .int .i32 hi]
  dr : Cells W (w.heap.size + 1) [.int .i32 g, .int .i32 s, .int .i32 t, .int .i32 v]
theorem Sx.step {w : World} {r m P I D lo hi g s t v : Int} {W W' : World} (h : Sx w r m P I D lo hi g s t v W) (hb : Below W.heap.size W W') : Sx w r m P I D lo hi g s t v W' :=
  ⟨below_then h.bel hb, h.sv.step hb, h.dr.step hb⟩
theorem Sx.alloc {w : World} {r m P I D lo hi g s t v : Int} {W : World} (h : Sx w r m P I D lo hi g s t v W) (x : Obj) : Sx w r m P I D lo hi g s t v (W.alloc x) := h.step ((Below.refl _ W).alloc (Nat.le_refl _) _)
theorem sx_new (w : World) (r m P I D lo hi g s t v : Int) (t1 t2 : TypeId) : Sx w r m P I D lo hi g s t v ((w.alloc (.cells #[.int .i32 r, .int .i64 m, .int .i32 P, .int .i32 I, .int .i32 D, .int .i32 lo, .int .i32 hi] t1)).alloc (.cells #[.int .i32 g, .int .i32 s, .int .i32 t, .int .i32 v] t2)) :=
  ⟨two_boxes w _ _, (cells_new w #[.int .i32 r, .int .i64 m, .int .i32 P, .int .i32 I, .int .i32 D, .int .i32 lo, .int .i32 hi] t1).alloc _, by simpa using cells_new (w.alloc (.cells #[.int .i32 r, .int .i64 m, .int .i32 P, .int .i32 I, .int .i32 D, .int .i32 lo, .int .i32 hi] t1)) #[.int .i32 g, .int .i32 s, .int .i32 t, .int .i32 v] t2⟩
theorem Sx.facts {w : World} {r m P I D lo hi g s t v : Int} {W : World} (h : Sx w r m P I D lo hi g s t v W) :
    (w.heap.size < W.heap.size ∧ w.heap.size + 1 < W.heap.size) ∧ (W.cell? ⟨w.heap.size, 0, none⟩ = some (.int .i32 r) ∧ W.cell? ⟨w.heap.size, 1, none⟩ = some (.int .i64 m) ∧ W.cell? ⟨w.heap.size, 2, none⟩ = some (.int .i32 P) ∧ W.cell? ⟨w.heap.size, 3, none⟩ = some (.int .i32 I) ∧ W.cell? ⟨w.heap.size, 4, none⟩ = some (.int .i32 D) ∧ W.cell? ⟨w.heap.size, 5, none⟩ = some (.int .i32 lo) ∧ W.cell? ⟨w.heap.size, 6, none⟩ = some (.int .i32 hi)) ∧ W.cell? ⟨w.heap.size + 1, 0, none⟩ = some (.int .i32 g) ∧ W.cell? ⟨w.heap.size + 1, 1, none⟩ = some (.int .i32 s) ∧ W.cell? ⟨w.heap.size + 1, 2, none⟩ = some (.int .i32 t) ∧ W.cell? ⟨w.heap.size + 1, 3, none⟩ = some (.int .i32 v) :=
  ⟨⟨h.sv.lt, h.dr.lt⟩, ⟨h.sv.cell 0 _ rfl, h.sv.cell 1 _ rfl, h.sv.cell 2 _ rfl, h.sv.cell 3 _ rfl, h.sv.cell 4 _ rfl, h.sv.cell 5 _ rfl, h.sv.cell 6 _ rfl⟩, h.dr.cell 0 _ rfl, h.dr.cell 1 _ rfl, h.dr.cell 2 _ rfl, h.dr.cell 3 _ rfl⟩
/-- and the box of an answer, still empty -/
structure Sa (w : World) (r m P I D lo hi g s t v : Int) (W : World) : Prop where
  x : Sx w r m P I D lo hi g s t v W
  an : Cells W (w.heap.size + 1 + 1) [.int .i32 0, .int .i32 0, .int .i32 0, .int .i32 0]
theorem Sa.step {w : World} {r m P I D lo hi g s t v : Int} {W W' : World} (h : Sa w r m P I D lo hi g s t v W) (hb : Below W.heap.size W W') : Sa w r m P I D lo hi g s t v W' := ⟨h.x.step hb, h.an.step hb⟩
theorem Sa.alloc {w : World} {r m P I D lo hi g s t v : Int} {W : World} (h : Sa w r m P I D lo hi g s t v W) (x : Obj) : Sa w r m P I D lo hi g s t v (W.alloc x) := h.step ((Below.refl _ W).alloc (Nat.le_refl _) _)
theorem sa_new (w : World) (r m P I D lo hi g s t v : Int) (t1 t2 t3 : TypeId) : Sa w r m P I D lo hi g s t v (((w.alloc (.cells #[.int .i32 r, .int .i64 m, .int .i32 P, .int .i32 I, .int .i32 D, .int .i32 lo, .int .i32 hi] t1)).alloc (.cells #[.int .i32 g, .int .i32 s, .int .i32 t, .int .i32 v] t2)).alloc (.cells #[.int .i32 0, .int .i32 0, .int .i32 0, .int .i32 0] t3)) :=
  ⟨(sx_new w r m P I D lo hi g s t v t1 t2).alloc _, by simpa using cells_new ((w.alloc (.cells #[.int .i32 r, .int .i64 m, .int .i32 P, .int .i32 I, .int .i32 D, .int .i32 lo, .int .i32 hi] t1)).alloc (.cells #[.int .i32 g, .int .i32 s, .int .i32 t, .int .i32 v] t2)) #[.int .i32 0, .int .i32 0, .int .i32 0, .int .i32 0] t3⟩
theorem Sa.answer {w : World} {r m P I D lo hi g s t v : Int} {W : World} (h : Sa w r m P I D lo hi g s t v W) :
    w.heap.size + 1 + 1 < W.heap.size ∧ (W.cell? ⟨w.heap.size + 1 + 1, 0, none⟩ = some (.int .i32 0) ∧ W.cell? ⟨w.heap.size + 1 + 1, 1, none⟩ = some (.int .i32 0) ∧ W.cell? ⟨w.heap.size + 1 + 1, 2, none⟩ = some (.int .i32 0) ∧ W.cell? ⟨w.heap.size + 1 + 1, 3, none⟩ = some (.int .i32 0)) ∧ W.frozen? ⟨w.heap.size + 1 + 1, 0, none⟩ = false ∧ W.frozen? ⟨w.heap.size + 1 + 1, 1, none⟩ = false ∧ W.frozen? ⟨w.heap.size + 1 + 1, 2, none⟩ = false ∧ W.frozen? ⟨w.heap.size + 1 + 1, 3, none⟩ = false :=
  ⟨h.an.lt, ⟨h.an.cell 0 _ rfl, h.an.cell 1 _ rfl, h.an.cell 2 _ rfl, h.an.cell 3 _ rfl⟩, h.an.froz 0 _ rfl, h.an.froz 1 _ rfl, h.an.froz 2 _ rfl, h.an.froz 3 _ rfl⟩
/-- the answer laid down -/
theorem Sa.put {w : World} {r m P I D lo hi g s t v : Int} {W : World} (h : Sa w r m P I D lo hi g s t v W) (a b c d : Int) :
    ∃ w3, (((W.setCell ⟨w.heap.size + 1 + 1, 0, none⟩ (.int .i32 a)).setCell ⟨w.heap.size + 1 + 1, 1, none⟩ (.int .i32 b)).setCell ⟨w.heap.size + 1 + 1, 2, none⟩ (.int .i32 c)).setCell ⟨w.heap.size + 1 + 1, 3, none⟩ (.int .i32 d) = w3 ∧ w3.cell? ⟨w.heap.size + 1 + 1, 0, none⟩ = some (.int .i32 a) ∧ w3.cell? ⟨w.heap.size + 1 + 1, 1, none⟩ = some (.int .i32 b) ∧ w3.cell? ⟨w.heap.size + 1 + 1, 2, none⟩ = some (.int .i32 c) ∧ w3.cell? ⟨w.heap.size + 1 + 1, 3, none⟩ = some (.int .i32 d) ∧ Below w.heap.size w w3 := by
  have c := (((h.an.set (j := 0) (by simp) (.int .i32 a)).set (j := 1) (by simp) (.int .i32 b)).set (j := 2) (by simp) (.int .i32 c)).set (j := 3) (by simp) (.int .i32 d)
  exact ⟨_, rfl, c.cell 0 _ rfl, c.cell 1 _ rfl, c.cell 2 _ rfl, c.cell 3 _ rfl, (((h.x.bel.setCell (p := ⟨w.heap.size + 1 + 1, 0, none⟩) (by simp; omega) _).setCell (p := ⟨w.heap.size + 1 + 1, 1, none⟩) (by simp; omega) _).setCell (p := ⟨w.heap.size + 1 + 1, 2, none⟩) (by simp; omega) _).setCell (p := ⟨w.heap.size + 1 + 1, 3, none⟩) (by simp; omega) _⟩

set_option maxHeartbeats 1000000 in
theorem rest_any (g s t v p : Int) (w : World) : Calls Try.prog 11 #[.agg #[.int .i32 g, .int .i32 s, .int .i32 t, .int .i32 v], .int .i32 p] w fun e w' => e = .returned (.agg #[.int .i32 p, .int .i32 0, .int .i32 0, .int .i32 0]) ∧ Below w.heap.size w w' := by
  go_enter Try.func11, Try.ntmps11
  go_wp2_with fail
  go_returns
  exact ⟨rfl, two_boxes _ _ _⟩

set_option maxHeartbeats 1000000 in
theorem srvStep_bad (r m P I D lo hi g s t v x p : Int) (w : World) (h : ¬ (OkV r m ∧ lo ≤ s ∧ s ≤ hi)) : Calls Try.prog 9 #[.agg #[.int .i32 r, .int .i64 m, .int .i32 P, .int .i32 I, .int .i32 D, .int .i32 lo, .int .i32 hi], .agg #[.int .i32 g, .int .i32 s, .int .i32 t, .int .i32 v], .int .i32 x, .int .i32 p] w fun e w' => e = .returned (.tuple #[.agg #[.int .i32 0, .int .i32 0, .int .i32 0, .int .i32 0], .int .i32 0, .int .i64 1]) ∧ Below w.heap.size w w' := by
  have B0 : Hid (_) := sa_new w r m P I D lo hi g s t v 27 31 31
  have C1 : Hid (_) := fun W => srvCheck_bad r m P I D lo hi g s t v W h
  clear h
  go_enter Try.func9, Try.ntmps9
  go_wp2_with fail
  refine (C1.out _).mono ?_
  rintro e w1 ⟨rfl, hb⟩
  have B1 : Hid (_) := B0.out.step hb
  clear hb B0 C1
  obtain ⟨l2, ⟨r0, r1, r2, r3⟩, f0, f1, f2, f3⟩ := B1.out.answer
  go_wp2_with fail
  obtain ⟨w3, hw3, y0, y1, y2, y3, b3⟩ := B1.out.put 0 0 0 0
  rw [hw3]
  refine bodyPost_ret (by simp [results, Try.results9, go_sem, y0, y1, y2, y3]; try rfl) rfl ?_
  exact ⟨rfl, b3⟩

end Go.Proofs.Ytbpenfjnfoljoaa
