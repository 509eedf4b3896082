/-
  Whatever is handed in, the law EvenBounds returns true: offsets stay in their bounds; a lane that is not active comes to none, step by step. No condition.
-/
import Derived.Test.YtfbokeekkbdblaaEven
import Derived.Test.YtfbokeekkbdblaaAgrEq
import Derived.Test.YtfbokeekkbdblaaKeep
import Derived.Test.YtfbokeekkbdblaaOpenZ
import Derived.Laws.StructEq
import Derived.ProofKit
namespace Go.Proofs.Ytfbokeekkbdblaa.evenBounds
open Go.ChangeShapes Go.WideShapes Go.ChangeAt Go.RowKit
set_option linter.unusedVariables false

theorem own : ownKnob Try.prog.godebug = none := by kernel_rfl
theorem laidOut : laidOutB Try.prog = true := by kernel_rfl

theorem list4 {l : List Value} (h : l.length = 4) : ∃ c0 c1 c2 c3, l = [c0, c1, c2, c3] := by
  match l, h with
  | [c0, c1, c2, c3], _ => exact ⟨c0, c1, c2, c3, rfl⟩

theorem open22 {H : Type} {enc : TypeId × Value → H} {w : World} {base : Nat} {spare : Nat → Bool} {held : Bool} {fuel : Nat} {cs : List Value} {x : DataW H × List MemPlace} (h : DataW.trod enc Try.prog w base spare held fuel 22 cs = some x) (hz : Light Try.prog 22 x.1) :
    ∃ v0 : Int, ∃ v1 : Int, ∃ v2 : Int, ∃ v3 : Int, cs = [.int .i32 v0, .int .i32 v1, .int .i32 v2, .int .i32 v3] ∧ (Lit.int .i32 v0).wf = true ∧ (Lit.int .i32 v1).wf = true ∧ (Lit.int .i32 v2).wf = true ∧ (Lit.int .i32 v3).wf = true := by
  obtain ⟨hl, hf⟩ := trod_elem_z Try.underlying22 h hz
  rw [show Try.prog.cellsOf 22 = 4 from by kernel_rfl] at hl
  obtain ⟨c0, c1, c2, c3, rfl⟩ := list4 hl
  obtain ⟨n0, y0, h0, z0⟩ := hf 0 (by decide)
  replace h0 : DataW.trod enc Try.prog w base spare held n0 21 (([c0, c1, c2, c3] : List Value).drop (0 * Try.prog.cellsOf 21) |>.take (Try.prog.cellsOf 21)) = some y0 := h0
  rw [show Try.prog.cellsOf 21 = 1 from by kernel_rfl] at h0
  replace h0 : DataW.trod enc Try.prog w base spare held n0 21 [c0] = some y0 := h0
  obtain ⟨n1, y1, h1, z1⟩ := hf 1 (by decide)
  replace h1 : DataW.trod enc Try.prog w base spare held n1 21 (([c0, c1, c2, c3] : List Value).drop (1 * Try.prog.cellsOf 21) |>.take (Try.prog.cellsOf 21)) = some y1 := h1
  rw [show Try.prog.cellsOf 21 = 1 from by kernel_rfl] at h1
  replace h1 : DataW.trod enc Try.prog w base spare held n1 21 [c1] = some y1 := h1
  obtain ⟨n2, y2, h2, z2⟩ := hf 2 (by decide)
  replace h2 : DataW.trod enc Try.prog w base spare held n2 21 (([c0, c1, c2, c3] : List Value).drop (2 * Try.prog.cellsOf 21) |>.take (Try.prog.cellsOf 21)) = some y2 := h2
  rw [show Try.prog.cellsOf 21 = 1 from by kernel_rfl] at h2
  replace h2 : DataW.trod enc Try.prog w base spare held n2 21 [c2] = some y2 := h2
  obtain ⟨n3, y3, h3, z3⟩ := hf 3 (by decide)
  replace h3 : DataW.trod enc Try.prog w base spare held n3 21 (([c0, c1, c2, c3] : List Value).drop (3 * Try.prog.cellsOf 21) |>.take (Try.prog.cellsOf 21)) = some y3 := h3
  rw [show Try.prog.cellsOf 21 = 1 from by kernel_rfl] at h3
  replace h3 : DataW.trod enc Try.prog w base spare held n3 21 [c3] = some y3 := h3
  obtain ⟨x0, e0, _, f0_0⟩ := DataW.trod_int Try.underlying21 h0
  simp only [List.cons.injEq, and_true] at e0
  obtain rfl := e0
  obtain ⟨x1, e1, _, f1_0⟩ := DataW.trod_int Try.underlying21 h1
  simp only [List.cons.injEq, and_true] at e1
  obtain rfl := e1
  obtain ⟨x2, e2, _, f2_0⟩ := DataW.trod_int Try.underlying21 h2
  simp only [List.cons.injEq, and_true] at e2
  obtain rfl := e2
  obtain ⟨x3, e3, _, f3_0⟩ := DataW.trod_int Try.underlying21 h3
  simp only [List.cons.injEq, and_true] at e3
  obtain rfl := e3
  exact ⟨x0, x1, x2, x3, rfl, f0_0, f1_0, f2_0, f3_0⟩

theorem open23 {H : Type} {enc : TypeId × Value → H} {w : World} {base : Nat} {spare : Nat → Bool} {held : Bool} {fuel : Nat} {cs : List Value} {x : DataW H × List MemPlace} (h : DataW.trod enc Try.prog w base spare held fuel 23 cs = some x) (hz : Light Try.prog 23 x.1) :
    ∃ v0 : Int, ∃ v1 : Int, ∃ v2 : Int, ∃ v3 : Int, cs = [.int .i64 v0, .int .i64 v1, .int .i64 v2, .int .i64 v3] ∧ (Lit.int .i64 v0).wf = true ∧ (Lit.int .i64 v1).wf = true ∧ (Lit.int .i64 v2).wf = true ∧ (Lit.int .i64 v3).wf = true := by
  obtain ⟨hl, hf⟩ := trod_elem_z Try.underlying23 h hz
  rw [show Try.prog.cellsOf 23 = 4 from by kernel_rfl] at hl
  obtain ⟨c0, c1, c2, c3, rfl⟩ := list4 hl
  obtain ⟨n0, y0, h0, z0⟩ := hf 0 (by decide)
  replace h0 : DataW.trod enc Try.prog w base spare held n0 3 (([c0, c1, c2, c3] : List Value).drop (0 * Try.prog.cellsOf 3) |>.take (Try.prog.cellsOf 3)) = some y0 := h0
  rw [show Try.prog.cellsOf 3 = 1 from by kernel_rfl] at h0
  replace h0 : DataW.trod enc Try.prog w base spare held n0 3 [c0] = some y0 := h0
  obtain ⟨n1, y1, h1, z1⟩ := hf 1 (by decide)
  replace h1 : DataW.trod enc Try.prog w base spare held n1 3 (([c0, c1, c2, c3] : List Value).drop (1 * Try.prog.cellsOf 3) |>.take (Try.prog.cellsOf 3)) = some y1 := h1
  rw [show Try.prog.cellsOf 3 = 1 from by kernel_rfl] at h1
  replace h1 : DataW.trod enc Try.prog w base spare held n1 3 [c1] = some y1 := h1
  obtain ⟨n2, y2, h2, z2⟩ := hf 2 (by decide)
  replace h2 : DataW.trod enc Try.prog w base spare held n2 3 (([c0, c1, c2, c3] : List Value).drop (2 * Try.prog.cellsOf 3) |>.take (Try.prog.cellsOf 3)) = some y2 := h2
  rw [show Try.prog.cellsOf 3 = 1 from by kernel_rfl] at h2
  replace h2 : DataW.trod enc Try.prog w base spare held n2 3 [c2] = some y2 := h2
  obtain ⟨n3, y3, h3, z3⟩ := hf 3 (by decide)
  replace h3 : DataW.trod enc Try.prog w base spare held n3 3 (([c0, c1, c2, c3] : List Value).drop (3 * Try.prog.cellsOf 3) |>.take (Try.prog.cellsOf 3)) = some y3 := h3
  rw [show Try.prog.cellsOf 3 = 1 from by kernel_rfl] at h3
  replace h3 : DataW.trod enc Try.prog w base spare held n3 3 [c3] = some y3 := h3
  obtain ⟨x0, e0, _, f0_0⟩ := DataW.trod_int Try.underlying3 h0
  simp only [List.cons.injEq, and_true] at e0
  obtain rfl := e0
  obtain ⟨x1, e1, _, f1_0⟩ := DataW.trod_int Try.underlying3 h1
  simp only [List.cons.injEq, and_true] at e1
  obtain rfl := e1
  obtain ⟨x2, e2, _, f2_0⟩ := DataW.trod_int Try.underlying3 h2
  simp only [List.cons.injEq, and_true] at e2
  obtain rfl := e2
  obtain ⟨x3, e3, _, f3_0⟩ := DataW.trod_int Try.underlying3 h3
  simp only [List.cons.injEq, and_true] at e3
  obtain rfl := e3
  exact ⟨x0, x1, x2, x3, rfl, f0_0, f1_0, f2_0, f3_0⟩


theorem bxs_three (w : World) (a b c : Array Value) (t1 t2 t3 : TypeId) : Bxs w [(w.heap.size, a.toList), (w.heap.size + 1, b.toList), (w.heap.size + 1 + 1, c.toList)] (((w.alloc (.cells a t1)).alloc (.cells b t2)).alloc (.cells c t3)) := by
  have := (((bxs_nil w).push a t1).push b t2).push c t3
  simp only [lay_size] at this
  exact this

theorem first (W : World) : Calls Try.prog 7 #[.agg #[.int .i32 0, .int .i32 0, .int .i32 0, .int .i32 0], .agg #[.int .i32 8, .int .i32 (-8), .int .i32 0, .int .i32 0], .agg #[.int .i64 1, .int .i64 1, .int .i64 0, .int .i64 0], .int .i64 1, .int .i32 3] W fun r w' => r = .returned (.tuple #[.agg #[.int .i32 (-3), .int .i32 3, .int .i32 0, .int .i32 0], .int .i64 0]) ∧ Below W.heap.size W w' :=
  evStep_ok 0 0 0 0 8 (-8) 0 0 1 1 0 0 3 1 W ⟨⟨by decide, by decide⟩, by decide, ⟨⟨by decide, by decide⟩, ⟨by decide, by decide⟩, ⟨by decide, by decide⟩, ⟨by decide, by decide⟩⟩, ⟨by decide, by decide⟩, ⟨by decide, by decide⟩, ⟨by decide, by decide⟩, ⟨by decide, by decide⟩⟩ ⟨by decide, by decide⟩ ⟨⟨by decide, by decide⟩, ⟨by decide, by decide⟩, ⟨by decide, by decide⟩, ⟨by decide, by decide⟩⟩ ⟨⟨by decide, by decide⟩, ⟨by decide, by decide⟩, ⟨by decide, by decide⟩, ⟨by decide, by decide⟩⟩

/-- what is asked of a lane: x is its next offset -/
def Asked (a o f x : Int) : Prop :=
  ((a == 1) = false ∧ (a != 1) = true ∧ ((o != 0) = false ∨ ((o != 0) = true ∧ ¬ absI (o - 0) ≤ absI (x - 0)))) ∨
  ((a == 1) = true ∧ (a != 1) = false ∧ ((0 < f ∧ ¬ f < 0 ∧ ¬ o < x) ∨ (¬ 0 < f ∧ f < 0 ∧ ¬ x < o) ∨ (¬ 0 < f ∧ ¬ f < 0)))
/-- the same over a letter for how far a number is from 0 -/
def AskedA (A : Int → Int) (a o f x : Int) : Prop :=
  ((a == 1) = false ∧ (a != 1) = true ∧ ((o != 0) = false ∨ ((o != 0) = true ∧ ¬ A o ≤ A x))) ∨
  ((a == 1) = true ∧ (a != 1) = false ∧ ((0 < f ∧ ¬ f < 0 ∧ ¬ o < x) ∨ (¬ 0 < f ∧ f < 0 ∧ ¬ x < o) ∨ (¬ 0 < f ∧ ¬ f < 0)))
theorem askedA_of {A : Int → Int} (hA : ∀ x, absI (x - 0) = A x) {a o f x : Int} (h : Asked a o f x) : AskedA A a o f x := by
  unfold Asked at h
  rw [hA, hA] at h
  exact h
theorem evI_in {o f m : Int} {n : Nat} (m0 : 0 ≤ m) : -m ≤ evI o f n m ∧ evI o f n m ≤ m := clampI_in (by omega)
theorem evI_down {o f m : Int} {n : Nat} (m0 : 0 ≤ m) (ho : InE o m) (hi : I32 o) (h : 0 < f) : evI o f n m ≤ o := by
  unfold evI
  have q : 0 ≤ f.tdiv (2 ^ n) := Int.tdiv_nonneg (by omega) (by have := pow2_pos n; omega)
  generalize f.tdiv (2 ^ n) = A at q
  have s := s32_in (o - A)
  rw [clampI_eq_le (by omega)]
  obtain ⟨o1, o2⟩ := ho
  obtain ⟨i1, i2⟩ := hi
  unfold bnd
  split
  · omega
  · split <;> omega
theorem evI_up {o f m : Int} {n : Nat} (m0 : 0 ≤ m) (ho : InE o m) (hi : I32 o) (h : f < 0) : o ≤ evI o f n m := by
  unfold evI
  have q : f.tdiv (2 ^ n) ≤ 0 := by
    have : 0 ≤ (-f).tdiv (2 ^ n) := Int.tdiv_nonneg (by omega) (by have := pow2_pos n; omega)
    rw [Int.neg_tdiv] at this
    omega
  generalize f.tdiv (2 ^ n) = A at q
  have s := s32_in (o - A)
  rw [clampI_eq_le (by omega)]
  obtain ⟨o1, o2⟩ := ho
  obtain ⟨i1, i2⟩ := hi
  unfold bnd
  split
  · omega
  · split <;> omega
theorem asked_any {a o f m : Int} {n : Nat} (m0 : 0 ≤ m) (hm : I32 m) (ho : InE o m) (hi : I32 o) : Asked a o f (evN a o f n m) ∧ InE (evN a o f n m) m := by
  unfold evN
  by_cases h : a = 1
  · rw [if_pos h]
    refine ⟨Or.inr ⟨by simpa using h, by simpa using h, ?_⟩, evI_in m0⟩
    rcases Int.lt_trichotomy f 0 with q | q | q
    · exact Or.inr (Or.inl ⟨by omega, q, by have := evI_up (n := n) m0 ho hi q; omega⟩)
    · exact Or.inr (Or.inr ⟨by omega, by omega⟩)
    · exact Or.inl ⟨q, by omega, by have := evI_down (n := n) m0 ho hi q; omega⟩
  · rw [if_neg h]
    have s := step_in (d := 0 - o) (pow2_pos n)
    unfold lowI
    generalize stepI (0 - o) (2 ^ n) = t at s
    refine ⟨Or.inl ⟨by simpa using h, by simpa using h, ?_⟩, ?_⟩
    · by_cases e : o = 0
      · exact Or.inl (by simp [e])
      · refine Or.inr ⟨by simpa using e, ?_⟩
        unfold absI
        repeat' split
        all_goals omega
    · obtain ⟨o1, o2⟩ := ho
      exact ⟨by omega, by omega⟩

set_option maxHeartbeats 4000000 in
set_option maxRecDepth 100000 in
theorem walk_bad (o0 o1 o2 o3 p0 p1 p2 p3 a b c d n m : Int) (w : World)
    (CS : Hid (∀ W, Calls Try.prog 7 #[.agg #[.int .i32 o0, .int .i32 o1, .int .i32 o2, .int .i32 o3], .agg #[.int .i32 p0, .int .i32 p1, .int .i32 p2, .int .i32 p3], .agg #[.int .i64 a, .int .i64 b, .int .i64 c, .int .i64 d], .int .i64 n, .int .i32 m] W fun r w' => r = .returned (.tuple #[.agg #[.int .i32 0, .int .i32 0, .int .i32 0, .int .i32 0], .int .i64 1]) ∧ Below W.heap.size W w')) :
    Calls Try.prog 4 #[.agg #[.int .i32 o0, .int .i32 o1, .int .i32 o2, .int .i32 o3], .agg #[.int .i32 p0, .int .i32 p1, .int .i32 p2, .int .i32 p3], .agg #[.int .i64 a, .int .i64 b, .int .i64 c, .int .i64 d], .int .i64 n, .int .i32 m] w fun e w' => e = .returned (.bool true) ∧ Below w.heap.size w w' := by
  have B0 : Hid (_) := bxs_three w #[.int .i32 o0, .int .i32 o1, .int .i32 o2, .int .i32 o3] #[.int .i32 p0, .int .i32 p1, .int .i32 p2, .int .i32 p3] #[.int .i64 a, .int .i64 b, .int .i64 c, .int .i64 d] 22 22 23
  have Q1 : Hid (_) := fun W => eq4i (-3) 3 0 0 W
  have Q2 : Hid (_) := fun W => eq4i 0 0 0 0 W
  go_enter Try.func4, Try.ntmps4
  go_wp2_with fail
  refine (first _).mono ?_
  rintro r w1 ⟨rfl, hb⟩
  have B1 : Hid (_) := B0.out.step hb
  clear hb B0
  have hq := Q1.out
  have c_l := (B1.out.box 0 _ _ rfl).lt
  have c_0 := (B1.out.box 0 _ _ rfl).cell 0 _ rfl
  have c_1 := (B1.out.box 0 _ _ rfl).cell 1 _ rfl
  have c_2 := (B1.out.box 0 _ _ rfl).cell 2 _ rfl
  have c_3 := (B1.out.box 0 _ _ rfl).cell 3 _ rfl
  have d_l := (B1.out.box 1 _ _ rfl).lt
  have d_0 := (B1.out.box 1 _ _ rfl).cell 0 _ rfl
  have d_1 := (B1.out.box 1 _ _ rfl).cell 1 _ rfl
  have d_2 := (B1.out.box 1 _ _ rfl).cell 2 _ rfl
  have d_3 := (B1.out.box 1 _ _ rfl).cell 3 _ rfl
  have e_l := (B1.out.box 2 _ _ rfl).lt
  have e_0 := (B1.out.box 2 _ _ rfl).cell 0 _ rfl
  have e_1 := (B1.out.box 2 _ _ rfl).cell 1 _ rfl
  have e_2 := (B1.out.box 2 _ _ rfl).cell 2 _ rfl
  have e_3 := (B1.out.box 2 _ _ rfl).cell 3 _ rfl
  go_wp2_with fail
  refine (CS.out _).mono ?_
  rintro r w2 ⟨rfl, hb⟩
  have B2 : Hid (_) := (B1.out.alloc (.cells #[.int .i32 (-3), .int .i32 3, .int .i32 0, .int .i32 0] 22)).step hb
  clear hb hq B1 CS
  have hq := Q2.out
  go_wp2_with fail
  go_ret
  exact ⟨rfl, (B2.out.alloc _).bel⟩

set_option maxHeartbeats 16000000 in
set_option maxRecDepth 100000 in
theorem walk_ok (O F M X : Nat → Int) (n m : Int) (w : World) (m0 : 0 ≤ m) (m1 : m ≤ 2147483647)
    (HA : Hid (∀ j, j < 4 → Asked (M j) (O j) (F j) (X j) ∧ InE (X j) m ∧ I32 (O j) ∧ I32 (X j)))
    (CS : Hid (∀ W, Calls Try.prog 7 #[.agg #[.int .i32 (O 0), .int .i32 (O 1), .int .i32 (O 2), .int .i32 (O 3)], .agg #[.int .i32 (F 0), .int .i32 (F 1), .int .i32 (F 2), .int .i32 (F 3)], .agg #[.int .i64 (M 0), .int .i64 (M 1), .int .i64 (M 2), .int .i64 (M 3)], .int .i64 n, .int .i32 m] W fun r w' => r = .returned (.tuple #[.agg #[.int .i32 (X 0), .int .i32 (X 1), .int .i32 (X 2), .int .i32 (X 3)], .int .i64 0]) ∧ Below W.heap.size W w'))
    (CK : Hid (∀ W, Calls Try.prog 8 #[.agg #[.int .i32 (X 0), .int .i32 (X 1), .int .i32 (X 2), .int .i32 (X 3)], .agg #[.int .i64 (M 0), .int .i64 (M 1), .int .i64 (M 2), .int .i64 (M 3)], .int .i64 n, .int .i32 m] W fun r w' => r = .returned (.int .i64 0) ∧ Below W.heap.size W w')) :
    Calls Try.prog 4 #[.agg #[.int .i32 (O 0), .int .i32 (O 1), .int .i32 (O 2), .int .i32 (O 3)], .agg #[.int .i32 (F 0), .int .i32 (F 1), .int .i32 (F 2), .int .i32 (F 3)], .agg #[.int .i64 (M 0), .int .i64 (M 1), .int .i64 (M 2), .int .i64 (M 3)], .int .i64 n, .int .i32 m] w fun e w' => e = .returned (.bool true) ∧ Below w.heap.size w w' := by
  have B0 : Hid (_) := bxs_three w #[.int .i32 (O 0), .int .i32 (O 1), .int .i32 (O 2), .int .i32 (O 3)] #[.int .i32 (F 0), .int .i32 (F 1), .int .i32 (F 2), .int .i32 (F 3)] #[.int .i64 (M 0), .int .i64 (M 1), .int .i64 (M 2), .int .i64 (M 3)] 22 22 23
  have Q1 : Hid (_) := fun W => eq4i (-3) 3 0 0 W
  obtain ⟨A, hA⟩ : ∃ A : Int → Int, ∀ x, absI (x - 0) = A x := ⟨fun x => absI (x - 0), fun _ => rfl⟩
  have C4 : Hid (∀ x W, I32 x → Calls Try.prog 12 #[.int .i32 x, .int .i32 0] W fun r w' => r = .returned (.int .i64 (A x)) ∧ w' = W) := fun x W hx => by
    rw [← hA]
    exact apart_any _ _ hx.1 hx.2 (by decide) (by decide) W
  have HA : Hid (∀ j, j < 4 → AskedA A (M j) (O j) (F j) (X j) ∧ InE (X j) m ∧ I32 (O j) ∧ I32 (X j)) := fun j hj => ⟨askedA_of hA (HA.out j hj).1, (HA.out j hj).2⟩
  clear hA
  go_enter Try.func4, Try.ntmps4
  go_wp2_with fail
  refine (first _).mono ?_
  rintro r w1 ⟨rfl, hb⟩
  have B1 : Hid (_) := B0.out.step hb
  clear hb B0
  have hq := Q1.out
  have c_l := (B1.out.box 0 _ _ rfl).lt
  have c_0 := (B1.out.box 0 _ _ rfl).cell 0 _ rfl
  have c_1 := (B1.out.box 0 _ _ rfl).cell 1 _ rfl
  have c_2 := (B1.out.box 0 _ _ rfl).cell 2 _ rfl
  have c_3 := (B1.out.box 0 _ _ rfl).cell 3 _ rfl
  have d_l := (B1.out.box 1 _ _ rfl).lt
  have d_0 := (B1.out.box 1 _ _ rfl).cell 0 _ rfl
  have d_1 := (B1.out.box 1 _ _ rfl).cell 1 _ rfl
  have d_2 := (B1.out.box 1 _ _ rfl).cell 2 _ rfl
  have d_3 := (B1.out.box 1 _ _ rfl).cell 3 _ rfl
  have e_l := (B1.out.box 2 _ _ rfl).lt
  have e_0 := (B1.out.box 2 _ _ rfl).cell 0 _ rfl
  have e_1 := (B1.out.box 2 _ _ rfl).cell 1 _ rfl
  have e_2 := (B1.out.box 2 _ _ rfl).cell 2 _ rfl
  have e_3 := (B1.out.box 2 _ _ rfl).cell 3 _ rfl
  go_wp2_with fail
  refine (CS.out _).mono ?_
  rintro r w2 ⟨rfl, hb⟩
  have B2 : Hid (_) := (B1.out.alloc (.cells #[.int .i32 (-3), .int .i32 3, .int .i32 0, .int .i32 0] 22)).step hb
  clear hb hq B1 CS Q1
  clear c_l c_0 c_1 c_2 c_3
  clear d_l d_0 d_1 d_2 d_3
  clear e_l e_0 e_1 e_2 e_3
  go_wp2_with fail
  obtain ⟨N, W3, hW3, hN3, B3', Z3⟩ := B2.out.new #[.int .i32 (X 0), .int .i32 (X 1), .int .i32 (X 2), .int .i32 (X 3)] 22
  rw [hW3, hN3]
  have B3 : Hid (_) := B3'
  clear hW3 hN3 B3' B2 Z3
  go_loopg [44] (5) (fun g s wr => ∃ j : Nat, s = .int .i64 j ∧ 4 - j < g ∧ j ≤ 4 ∧ Hid (Bxs w [(w.heap.size, [.int .i32 (O 0), .int .i32 (O 1), .int .i32 (O 2), .int .i32 (O 3)]), (w.heap.size + 1, [.int .i32 (F 0), .int .i32 (F 1), .int .i32 (F 2), .int .i32 (F 3)]), (w.heap.size + 1 + 1, [.int .i64 (M 0), .int .i64 (M 1), .int .i64 (M 2), .int .i64 (M 3)]), (N, [.int .i32 (X 0), .int .i32 (X 1), .int .i32 (X 2), .int .i32 (X 3)])] wr))
  case atStart => exact ⟨0, rfl, by omega, by omega, B3⟩
  case round =>
    obtain ⟨j, rfl, hg, hj, HB⟩ := hrel
    clear B3
    by_cases hlt : j < 4
    · obtain rfl | rfl | rfl | rfl := cases4 hlt
      · obtain ⟨h, ⟨x1, x2⟩, hO, hX⟩ := HA.out 0 (by omega)
        have z1 : ¬ X 0 < -m := by omega
        have z2 : ¬ m < X 0 := by omega
        have QO : Hid (_) := hO
        have QX : Hid (_) := hX
        clear x1 x2 hO hX
        rcases h with ⟨h1, h2, h3 | ⟨h3, h4⟩⟩ | ⟨h1, h2, ⟨h3, h4, h5⟩ | ⟨h3, h4, h5⟩ | ⟨h3, h4⟩⟩
        · skip
          have c_l := (HB.out.box 0 _ _ rfl).lt
          have c_0 := (HB.out.box 0 _ _ rfl).cell 0 _ rfl
          have c_1 := (HB.out.box 0 _ _ rfl).cell 1 _ rfl
          have c_2 := (HB.out.box 0 _ _ rfl).cell 2 _ rfl
          have c_3 := (HB.out.box 0 _ _ rfl).cell 3 _ rfl
          have d_l := (HB.out.box 1 _ _ rfl).lt
          have d_0 := (HB.out.box 1 _ _ rfl).cell 0 _ rfl
          have d_1 := (HB.out.box 1 _ _ rfl).cell 1 _ rfl
          have d_2 := (HB.out.box 1 _ _ rfl).cell 2 _ rfl
          have d_3 := (HB.out.box 1 _ _ rfl).cell 3 _ rfl
          have e_l := (HB.out.box 2 _ _ rfl).lt
          have e_0 := (HB.out.box 2 _ _ rfl).cell 0 _ rfl
          have e_1 := (HB.out.box 2 _ _ rfl).cell 1 _ rfl
          have e_2 := (HB.out.box 2 _ _ rfl).cell 2 _ rfl
          have e_3 := (HB.out.box 2 _ _ rfl).cell 3 _ rfl
          have x_l := (HB.out.box 3 _ _ rfl).lt
          have x_0 := (HB.out.box 3 _ _ rfl).cell 0 _ rfl
          have x_1 := (HB.out.box 3 _ _ rfl).cell 1 _ rfl
          have x_2 := (HB.out.box 3 _ _ rfl).cell 2 _ rfl
          have x_3 := (HB.out.box 3 _ _ rfl).cell 3 _ rfl
          go_wp2_with fail
          go_big_quiet (fail)
          have HB5 : Hid (Bxs w _ (wr.drewN nq)) := HB.out.step ⟨rfl, rfl, rfl, Nat.le_refl _, fun _ _ => rfl⟩
          clear c_l c_0 c_1 c_2 c_3
          clear d_l d_0 d_1 d_2 d_3
          clear e_l e_0 e_1 e_2 e_3
          clear x_l x_0 x_1 x_2 x_3
          clear HB
          generalize wr.drewN nq = W5 at *
          have c_l := (HB5.out.box 0 _ _ rfl).lt
          have c_0 := (HB5.out.box 0 _ _ rfl).cell 0 _ rfl
          have c_1 := (HB5.out.box 0 _ _ rfl).cell 1 _ rfl
          have c_2 := (HB5.out.box 0 _ _ rfl).cell 2 _ rfl
          have c_3 := (HB5.out.box 0 _ _ rfl).cell 3 _ rfl
          have d_l := (HB5.out.box 1 _ _ rfl).lt
          have d_0 := (HB5.out.box 1 _ _ rfl).cell 0 _ rfl
          have d_1 := (HB5.out.box 1 _ _ rfl).cell 1 _ rfl
          have d_2 := (HB5.out.box 1 _ _ rfl).cell 2 _ rfl
          have d_3 := (HB5.out.box 1 _ _ rfl).cell 3 _ rfl
          have e_l := (HB5.out.box 2 _ _ rfl).lt
          have e_0 := (HB5.out.box 2 _ _ rfl).cell 0 _ rfl
          have e_1 := (HB5.out.box 2 _ _ rfl).cell 1 _ rfl
          have e_2 := (HB5.out.box 2 _ _ rfl).cell 2 _ rfl
          have e_3 := (HB5.out.box 2 _ _ rfl).cell 3 _ rfl
          have x_l := (HB5.out.box 3 _ _ rfl).lt
          have x_0 := (HB5.out.box 3 _ _ rfl).cell 0 _ rfl
          have x_1 := (HB5.out.box 3 _ _ rfl).cell 1 _ rfl
          have x_2 := (HB5.out.box 3 _ _ rfl).cell 2 _ rfl
          have x_3 := (HB5.out.box 3 _ _ rfl).cell 3 _ rfl
          clear nq
          go_wp2_with fail
          go_big_quiet (fail)
          go_wp2_with fail
          go_roundg (4 - (0 + 1) + 1)
          case measure => omega
          case rel => exact ⟨1, rfl, by omega, by omega, HB5.out.step ⟨rfl, rfl, rfl, Nat.le_refl _, fun _ _ => rfl⟩⟩
        · skip
          have c_l := (HB.out.box 0 _ _ rfl).lt
          have c_0 := (HB.out.box 0 _ _ rfl).cell 0 _ rfl
          have c_1 := (HB.out.box 0 _ _ rfl).cell 1 _ rfl
          have c_2 := (HB.out.box 0 _ _ rfl).cell 2 _ rfl
          have c_3 := (HB.out.box 0 _ _ rfl).cell 3 _ rfl
          have d_l := (HB.out.box 1 _ _ rfl).lt
          have d_0 := (HB.out.box 1 _ _ rfl).cell 0 _ rfl
          have d_1 := (HB.out.box 1 _ _ rfl).cell 1 _ rfl
          have d_2 := (HB.out.box 1 _ _ rfl).cell 2 _ rfl
          have d_3 := (HB.out.box 1 _ _ rfl).cell 3 _ rfl
          have e_l := (HB.out.box 2 _ _ rfl).lt
          have e_0 := (HB.out.box 2 _ _ rfl).cell 0 _ rfl
          have e_1 := (HB.out.box 2 _ _ rfl).cell 1 _ rfl
          have e_2 := (HB.out.box 2 _ _ rfl).cell 2 _ rfl
          have e_3 := (HB.out.box 2 _ _ rfl).cell 3 _ rfl
          have x_l := (HB.out.box 3 _ _ rfl).lt
          have x_0 := (HB.out.box 3 _ _ rfl).cell 0 _ rfl
          have x_1 := (HB.out.box 3 _ _ rfl).cell 1 _ rfl
          have x_2 := (HB.out.box 3 _ _ rfl).cell 2 _ rfl
          have x_3 := (HB.out.box 3 _ _ rfl).cell 3 _ rfl
          go_wp2_with fail
          go_big_quiet (first | (go_at_call 12; exact Calls.quiet_of_same (C4.out _ _ (by first | exact QX.out | exact QO.out))))
          have HB5 : Hid (Bxs w _ (wr.drewN nq)) := HB.out.step ⟨rfl, rfl, rfl, Nat.le_refl _, fun _ _ => rfl⟩
          clear c_l c_0 c_1 c_2 c_3
          clear d_l d_0 d_1 d_2 d_3
          clear e_l e_0 e_1 e_2 e_3
          clear x_l x_0 x_1 x_2 x_3
          clear HB
          generalize wr.drewN nq = W5 at *
          have c_l := (HB5.out.box 0 _ _ rfl).lt
          have c_0 := (HB5.out.box 0 _ _ rfl).cell 0 _ rfl
          have c_1 := (HB5.out.box 0 _ _ rfl).cell 1 _ rfl
          have c_2 := (HB5.out.box 0 _ _ rfl).cell 2 _ rfl
          have c_3 := (HB5.out.box 0 _ _ rfl).cell 3 _ rfl
          have d_l := (HB5.out.box 1 _ _ rfl).lt
          have d_0 := (HB5.out.box 1 _ _ rfl).cell 0 _ rfl
          have d_1 := (HB5.out.box 1 _ _ rfl).cell 1 _ rfl
          have d_2 := (HB5.out.box 1 _ _ rfl).cell 2 _ rfl
          have d_3 := (HB5.out.box 1 _ _ rfl).cell 3 _ rfl
          have e_l := (HB5.out.box 2 _ _ rfl).lt
          have e_0 := (HB5.out.box 2 _ _ rfl).cell 0 _ rfl
          have e_1 := (HB5.out.box 2 _ _ rfl).cell 1 _ rfl
          have e_2 := (HB5.out.box 2 _ _ rfl).cell 2 _ rfl
          have e_3 := (HB5.out.box 2 _ _ rfl).cell 3 _ rfl
          have x_l := (HB5.out.box 3 _ _ rfl).lt
          have x_0 := (HB5.out.box 3 _ _ rfl).cell 0 _ rfl
          have x_1 := (HB5.out.box 3 _ _ rfl).cell 1 _ rfl
          have x_2 := (HB5.out.box 3 _ _ rfl).cell 2 _ rfl
          have x_3 := (HB5.out.box 3 _ _ rfl).cell 3 _ rfl
          clear nq
          go_wp2_with fail
          go_big_quiet (fail)
          go_wp2_with fail
          go_roundg (4 - (0 + 1) + 1)
          case measure => omega
          case rel => exact ⟨1, rfl, by omega, by omega, HB5.out.step ⟨rfl, rfl, rfl, Nat.le_refl _, fun _ _ => rfl⟩⟩
        · have HH : Hid (_) := (show _ ∧ _ from ⟨h3, show _ ∧ _ from ⟨h4, h5⟩⟩)
          clear h3 h4 h5
          have c_l := (HB.out.box 0 _ _ rfl).lt
          have c_0 := (HB.out.box 0 _ _ rfl).cell 0 _ rfl
          have c_1 := (HB.out.box 0 _ _ rfl).cell 1 _ rfl
          have c_2 := (HB.out.box 0 _ _ rfl).cell 2 _ rfl
          have c_3 := (HB.out.box 0 _ _ rfl).cell 3 _ rfl
          have d_l := (HB.out.box 1 _ _ rfl).lt
          have d_0 := (HB.out.box 1 _ _ rfl).cell 0 _ rfl
          have d_1 := (HB.out.box 1 _ _ rfl).cell 1 _ rfl
          have d_2 := (HB.out.box 1 _ _ rfl).cell 2 _ rfl
          have d_3 := (HB.out.box 1 _ _ rfl).cell 3 _ rfl
          have e_l := (HB.out.box 2 _ _ rfl).lt
          have e_0 := (HB.out.box 2 _ _ rfl).cell 0 _ rfl
          have e_1 := (HB.out.box 2 _ _ rfl).cell 1 _ rfl
          have e_2 := (HB.out.box 2 _ _ rfl).cell 2 _ rfl
          have e_3 := (HB.out.box 2 _ _ rfl).cell 3 _ rfl
          have x_l := (HB.out.box 3 _ _ rfl).lt
          have x_0 := (HB.out.box 3 _ _ rfl).cell 0 _ rfl
          have x_1 := (HB.out.box 3 _ _ rfl).cell 1 _ rfl
          have x_2 := (HB.out.box 3 _ _ rfl).cell 2 _ rfl
          have x_3 := (HB.out.box 3 _ _ rfl).cell 3 _ rfl
          go_wp2_with fail
          go_big_quiet (fail)
          have HB5 : Hid (Bxs w _ (wr.drewN nq)) := HB.out.step ⟨rfl, rfl, rfl, Nat.le_refl _, fun _ _ => rfl⟩
          clear c_l c_0 c_1 c_2 c_3
          clear d_l d_0 d_1 d_2 d_3
          clear e_l e_0 e_1 e_2 e_3
          clear x_l x_0 x_1 x_2 x_3
          clear HB
          generalize wr.drewN nq = W5 at *
          have c_l := (HB5.out.box 0 _ _ rfl).lt
          have c_0 := (HB5.out.box 0 _ _ rfl).cell 0 _ rfl
          have c_1 := (HB5.out.box 0 _ _ rfl).cell 1 _ rfl
          have c_2 := (HB5.out.box 0 _ _ rfl).cell 2 _ rfl
          have c_3 := (HB5.out.box 0 _ _ rfl).cell 3 _ rfl
          have d_l := (HB5.out.box 1 _ _ rfl).lt
          have d_0 := (HB5.out.box 1 _ _ rfl).cell 0 _ rfl
          have d_1 := (HB5.out.box 1 _ _ rfl).cell 1 _ rfl
          have d_2 := (HB5.out.box 1 _ _ rfl).cell 2 _ rfl
          have d_3 := (HB5.out.box 1 _ _ rfl).cell 3 _ rfl
          have e_l := (HB5.out.box 2 _ _ rfl).lt
          have e_0 := (HB5.out.box 2 _ _ rfl).cell 0 _ rfl
          have e_1 := (HB5.out.box 2 _ _ rfl).cell 1 _ rfl
          have e_2 := (HB5.out.box 2 _ _ rfl).cell 2 _ rfl
          have e_3 := (HB5.out.box 2 _ _ rfl).cell 3 _ rfl
          have x_l := (HB5.out.box 3 _ _ rfl).lt
          have x_0 := (HB5.out.box 3 _ _ rfl).cell 0 _ rfl
          have x_1 := (HB5.out.box 3 _ _ rfl).cell 1 _ rfl
          have x_2 := (HB5.out.box 3 _ _ rfl).cell 2 _ rfl
          have x_3 := (HB5.out.box 3 _ _ rfl).cell 3 _ rfl
          clear nq
          go_wp2_with fail
          have g1 : decide (0 < F 0) = true := decide_eq_true (by have := HH.out; omega)
          have g2 : decide (F 0 < 0) = false := decide_eq_false (by have := HH.out; omega)
          have g3 : decide (O 0 < X 0) = false := decide_eq_false (by have := HH.out; omega)
          go_big_quiet (fail)
          go_wp2_with fail
          go_roundg (4 - (0 + 1) + 1)
          case measure => omega
          case rel => exact ⟨1, rfl, by omega, by omega, HB5.out.step ⟨rfl, rfl, rfl, Nat.le_refl _, fun _ _ => rfl⟩⟩
        · have HH : Hid (_) := (show _ ∧ _ from ⟨h3, show _ ∧ _ from ⟨h4, h5⟩⟩)
          clear h3 h4 h5
          have c_l := (HB.out.box 0 _ _ rfl).lt
          have c_0 := (HB.out.box 0 _ _ rfl).cell 0 _ rfl
          have c_1 := (HB.out.box 0 _ _ rfl).cell 1 _ rfl
          have c_2 := (HB.out.box 0 _ _ rfl).cell 2 _ rfl
          have c_3 := (HB.out.box 0 _ _ rfl).cell 3 _ rfl
          have d_l := (HB.out.box 1 _ _ rfl).lt
          have d_0 := (HB.out.box 1 _ _ rfl).cell 0 _ rfl
          have d_1 := (HB.out.box 1 _ _ rfl).cell 1 _ rfl
          have d_2 := (HB.out.box 1 _ _ rfl).cell 2 _ rfl
          have d_3 := (HB.out.box 1 _ _ rfl).cell 3 _ rfl
          have e_l := (HB.out.box 2 _ _ rfl).lt
          have e_0 := (HB.out.box 2 _ _ rfl).cell 0 _ rfl
          have e_1 := (HB.out.box 2 _ _ rfl).cell 1 _ rfl
          have e_2 := (HB.out.box 2 _ _ rfl).cell 2 _ rfl
          have e_3 := (HB.out.box 2 _ _ rfl).cell 3 _ rfl
          have x_l := (HB.out.box 3 _ _ rfl).lt
          have x_0 := (HB.out.box 3 _ _ rfl).cell 0 _ rfl
          have x_1 := (HB.out.box 3 _ _ rfl).cell 1 _ rfl
          have x_2 := (HB.out.box 3 _ _ rfl).cell 2 _ rfl
          have x_3 := (HB.out.box 3 _ _ rfl).cell 3 _ rfl
          go_wp2_with fail
          go_big_quiet (fail)
          have HB5 : Hid (Bxs w _ (wr.drewN nq)) := HB.out.step ⟨rfl, rfl, rfl, Nat.le_refl _, fun _ _ => rfl⟩
          clear c_l c_0 c_1 c_2 c_3
          clear d_l d_0 d_1 d_2 d_3
          clear e_l e_0 e_1 e_2 e_3
          clear x_l x_0 x_1 x_2 x_3
          clear HB
          generalize wr.drewN nq = W5 at *
          have c_l := (HB5.out.box 0 _ _ rfl).lt
          have c_0 := (HB5.out.box 0 _ _ rfl).cell 0 _ rfl
          have c_1 := (HB5.out.box 0 _ _ rfl).cell 1 _ rfl
          have c_2 := (HB5.out.box 0 _ _ rfl).cell 2 _ rfl
          have c_3 := (HB5.out.box 0 _ _ rfl).cell 3 _ rfl
          have d_l := (HB5.out.box 1 _ _ rfl).lt
          have d_0 := (HB5.out.box 1 _ _ rfl).cell 0 _ rfl
          have d_1 := (HB5.out.box 1 _ _ rfl).cell 1 _ rfl
          have d_2 := (HB5.out.box 1 _ _ rfl).cell 2 _ rfl
          have d_3 := (HB5.out.box 1 _ _ rfl).cell 3 _ rfl
          have e_l := (HB5.out.box 2 _ _ rfl).lt
          have e_0 := (HB5.out.box 2 _ _ rfl).cell 0 _ rfl
          have e_1 := (HB5.out.box 2 _ _ rfl).cell 1 _ rfl
          have e_2 := (HB5.out.box 2 _ _ rfl).cell 2 _ rfl
          have e_3 := (HB5.out.box 2 _ _ rfl).cell 3 _ rfl
          have x_l := (HB5.out.box 3 _ _ rfl).lt
          have x_0 := (HB5.out.box 3 _ _ rfl).cell 0 _ rfl
          have x_1 := (HB5.out.box 3 _ _ rfl).cell 1 _ rfl
          have x_2 := (HB5.out.box 3 _ _ rfl).cell 2 _ rfl
          have x_3 := (HB5.out.box 3 _ _ rfl).cell 3 _ rfl
          clear nq
          go_wp2_with fail
          have g1 : decide (0 < F 0) = false := decide_eq_false (by have := HH.out; omega)
          have g2 : decide (F 0 < 0) = true := decide_eq_true (by have := HH.out; omega)
          have g3 : decide (X 0 < O 0) = false := decide_eq_false (by have := HH.out; omega)
          go_big_quiet (fail)
          go_wp2_with fail
          go_roundg (4 - (0 + 1) + 1)
          case measure => omega
          case rel => exact ⟨1, rfl, by omega, by omega, HB5.out.step ⟨rfl, rfl, rfl, Nat.le_refl _, fun _ _ => rfl⟩⟩
        · have HH : Hid (_) := (show _ ∧ _ from ⟨h3, h4⟩)
          clear h3 h4
          have c_l := (HB.out.box 0 _ _ rfl).lt
          have c_0 := (HB.out.box 0 _ _ rfl).cell 0 _ rfl
          have c_1 := (HB.out.box 0 _ _ rfl).cell 1 _ rfl
          have c_2 := (HB.out.box 0 _ _ rfl).cell 2 _ rfl
          have c_3 := (HB.out.box 0 _ _ rfl).cell 3 _ rfl
          have d_l := (HB.out.box 1 _ _ rfl).lt
          have d_0 := (HB.out.box 1 _ _ rfl).cell 0 _ rfl
          have d_1 := (HB.out.box 1 _ _ rfl).cell 1 _ rfl
          have d_2 := (HB.out.box 1 _ _ rfl).cell 2 _ rfl
          have d_3 := (HB.out.box 1 _ _ rfl).cell 3 _ rfl
          have e_l := (HB.out.box 2 _ _ rfl).lt
          have e_0 := (HB.out.box 2 _ _ rfl).cell 0 _ rfl
          have e_1 := (HB.out.box 2 _ _ rfl).cell 1 _ rfl
          have e_2 := (HB.out.box 2 _ _ rfl).cell 2 _ rfl
          have e_3 := (HB.out.box 2 _ _ rfl).cell 3 _ rfl
          have x_l := (HB.out.box 3 _ _ rfl).lt
          have x_0 := (HB.out.box 3 _ _ rfl).cell 0 _ rfl
          have x_1 := (HB.out.box 3 _ _ rfl).cell 1 _ rfl
          have x_2 := (HB.out.box 3 _ _ rfl).cell 2 _ rfl
          have x_3 := (HB.out.box 3 _ _ rfl).cell 3 _ rfl
          go_wp2_with fail
          go_big_quiet (fail)
          have HB5 : Hid (Bxs w _ (wr.drewN nq)) := HB.out.step ⟨rfl, rfl, rfl, Nat.le_refl _, fun _ _ => rfl⟩
          clear c_l c_0 c_1 c_2 c_3
          clear d_l d_0 d_1 d_2 d_3
          clear e_l e_0 e_1 e_2 e_3
          clear x_l x_0 x_1 x_2 x_3
          clear HB
          generalize wr.drewN nq = W5 at *
          have c_l := (HB5.out.box 0 _ _ rfl).lt
          have c_0 := (HB5.out.box 0 _ _ rfl).cell 0 _ rfl
          have c_1 := (HB5.out.box 0 _ _ rfl).cell 1 _ rfl
          have c_2 := (HB5.out.box 0 _ _ rfl).cell 2 _ rfl
          have c_3 := (HB5.out.box 0 _ _ rfl).cell 3 _ rfl
          have d_l := (HB5.out.box 1 _ _ rfl).lt
          have d_0 := (HB5.out.box 1 _ _ rfl).cell 0 _ rfl
          have d_1 := (HB5.out.box 1 _ _ rfl).cell 1 _ rfl
          have d_2 := (HB5.out.box 1 _ _ rfl).cell 2 _ rfl
          have d_3 := (HB5.out.box 1 _ _ rfl).cell 3 _ rfl
          have e_l := (HB5.out.box 2 _ _ rfl).lt
          have e_0 := (HB5.out.box 2 _ _ rfl).cell 0 _ rfl
          have e_1 := (HB5.out.box 2 _ _ rfl).cell 1 _ rfl
          have e_2 := (HB5.out.box 2 _ _ rfl).cell 2 _ rfl
          have e_3 := (HB5.out.box 2 _ _ rfl).cell 3 _ rfl
          have x_l := (HB5.out.box 3 _ _ rfl).lt
          have x_0 := (HB5.out.box 3 _ _ rfl).cell 0 _ rfl
          have x_1 := (HB5.out.box 3 _ _ rfl).cell 1 _ rfl
          have x_2 := (HB5.out.box 3 _ _ rfl).cell 2 _ rfl
          have x_3 := (HB5.out.box 3 _ _ rfl).cell 3 _ rfl
          clear nq
          go_wp2_with fail
          have g1 : decide (0 < F 0) = false := decide_eq_false (by have := HH.out; omega)
          have g2 : decide (F 0 < 0) = false := decide_eq_false (by have := HH.out; omega)
          go_big_quiet (fail)
          go_wp2_with fail
          go_roundg (4 - (0 + 1) + 1)
          case measure => omega
          case rel => exact ⟨1, rfl, by omega, by omega, HB5.out.step ⟨rfl, rfl, rfl, Nat.le_refl _, fun _ _ => rfl⟩⟩
      · obtain ⟨h, ⟨x1, x2⟩, hO, hX⟩ := HA.out 1 (by omega)
        have z1 : ¬ X 1 < -m := by omega
        have z2 : ¬ m < X 1 := by omega
        have QO : Hid (_) := hO
        have QX : Hid (_) := hX
        clear x1 x2 hO hX
        rcases h with ⟨h1, h2, h3 | ⟨h3, h4⟩⟩ | ⟨h1, h2, ⟨h3, h4, h5⟩ | ⟨h3, h4, h5⟩ | ⟨h3, h4⟩⟩
        · skip
          have c_l := (HB.out.box 0 _ _ rfl).lt
          have c_0 := (HB.out.box 0 _ _ rfl).cell 0 _ rfl
          have c_1 := (HB.out.box 0 _ _ rfl).cell 1 _ rfl
          have c_2 := (HB.out.box 0 _ _ rfl).cell 2 _ rfl
          have c_3 := (HB.out.box 0 _ _ rfl).cell 3 _ rfl
          have d_l := (HB.out.box 1 _ _ rfl).lt
          have d_0 := (HB.out.box 1 _ _ rfl).cell 0 _ rfl
          have d_1 := (HB.out.box 1 _ _ rfl).cell 1 _ rfl
          have d_2 := (HB.out.box 1 _ _ rfl).cell 2 _ rfl
          have d_3 := (HB.out.box 1 _ _ rfl).cell 3 _ rfl
          have e_l := (HB.out.box 2 _ _ rfl).lt
          have e_0 := (HB.out.box 2 _ _ rfl).cell 0 _ rfl
          have e_1 := (HB.out.box 2 _ _ rfl).cell 1 _ rfl
          have e_2 := (HB.out.box 2 _ _ rfl).cell 2 _ rfl
          have e_3 := (HB.out.box 2 _ _ rfl).cell 3 _ rfl
          have x_l := (HB.out.box 3 _ _ rfl).lt
          have x_0 := (HB.out.box 3 _ _ rfl).cell 0 _ rfl
          have x_1 := (HB.out.box 3 _ _ rfl).cell 1 _ rfl
          have x_2 := (HB.out.box 3 _ _ rfl).cell 2 _ rfl
          have x_3 := (HB.out.box 3 _ _ rfl).cell 3 _ rfl
          go_wp2_with fail
          go_big_quiet (fail)
          have HB5 : Hid (Bxs w _ (wr.drewN nq)) := HB.out.step ⟨rfl, rfl, rfl, Nat.le_refl _, fun _ _ => rfl⟩
          clear c_l c_0 c_1 c_2 c_3
          clear d_l d_0 d_1 d_2 d_3
          clear e_l e_0 e_1 e_2 e_3
          clear x_l x_0 x_1 x_2 x_3
          clear HB
          generalize wr.drewN nq = W5 at *
          have c_l := (HB5.out.box 0 _ _ rfl).lt
          have c_0 := (HB5.out.box 0 _ _ rfl).cell 0 _ rfl
          have c_1 := (HB5.out.box 0 _ _ rfl).cell 1 _ rfl
          have c_2 := (HB5.out.box 0 _ _ rfl).cell 2 _ rfl
          have c_3 := (HB5.out.box 0 _ _ rfl).cell 3 _ rfl
          have d_l := (HB5.out.box 1 _ _ rfl).lt
          have d_0 := (HB5.out.box 1 _ _ rfl).cell 0 _ rfl
          have d_1 := (HB5.out.box 1 _ _ rfl).cell 1 _ rfl
          have d_2 := (HB5.out.box 1 _ _ rfl).cell 2 _ rfl
          have d_3 := (HB5.out.box 1 _ _ rfl).cell 3 _ rfl
          have e_l := (HB5.out.box 2 _ _ rfl).lt
          have e_0 := (HB5.out.box 2 _ _ rfl).cell 0 _ rfl
          have e_1 := (HB5.out.box 2 _ _ rfl).cell 1 _ rfl
          have e_2 := (HB5.out.box 2 _ _ rfl).cell 2 _ rfl
          have e_3 := (HB5.out.box 2 _ _ rfl).cell 3 _ rfl
          have x_l := (HB5.out.box 3 _ _ rfl).lt
          have x_0 := (HB5.out.box 3 _ _ rfl).cell 0 _ rfl
          have x_1 := (HB5.out.box 3 _ _ rfl).cell 1 _ rfl
          have x_2 := (HB5.out.box 3 _ _ rfl).cell 2 _ rfl
          have x_3 := (HB5.out.box 3 _ _ rfl).cell 3 _ rfl
          clear nq
          go_wp2_with fail
          go_big_quiet (fail)
          go_wp2_with fail
          go_roundg (4 - (1 + 1) + 1)
          case measure => omega
          case rel => exact ⟨2, rfl, by omega, by omega, HB5.out.step ⟨rfl, rfl, rfl, Nat.le_refl _, fun _ _ => rfl⟩⟩
        · skip
          have c_l := (HB.out.box 0 _ _ rfl).lt
          have c_0 := (HB.out.box 0 _ _ rfl).cell 0 _ rfl
          have c_1 := (HB.out.box 0 _ _ rfl).cell 1 _ rfl
          have c_2 := (HB.out.box 0 _ _ rfl).cell 2 _ rfl
          have c_3 := (HB.out.box 0 _ _ rfl).cell 3 _ rfl
          have d_l := (HB.out.box 1 _ _ rfl).lt
          have d_0 := (HB.out.box 1 _ _ rfl).cell 0 _ rfl
          have d_1 := (HB.out.box 1 _ _ rfl).cell 1 _ rfl
          have d_2 := (HB.out.box 1 _ _ rfl).cell 2 _ rfl
          have d_3 := (HB.out.box 1 _ _ rfl).cell 3 _ rfl
          have e_l := (HB.out.box 2 _ _ rfl).lt
          have e_0 := (HB.out.box 2 _ _ rfl).cell 0 _ rfl
          have e_1 := (HB.out.box 2 _ _ rfl).cell 1 _ rfl
          have e_2 := (HB.out.box 2 _ _ rfl).cell 2 _ rfl
          have e_3 := (HB.out.box 2 _ _ rfl).cell 3 _ rfl
          have x_l := (HB.out.box 3 _ _ rfl).lt
          have x_0 := (HB.out.box 3 _ _ rfl).cell 0 _ rfl
          have x_1 := (HB.out.box 3 _ _ rfl).cell 1 _ rfl
          have x_2 := (HB.out.box 3 _ _ rfl).cell 2 _ rfl
          have x_3 := (HB.out.box 3 _ _ rfl).cell 3 _ rfl
          go_wp2_with fail
          go_big_quiet (first | (go_at_call 12; exact Calls.quiet_of_same (C4.out _ _ (by first | exact QX.out | exact QO.out))))
          have HB5 : Hid (Bxs w _ (wr.drewN nq)) := HB.out.step ⟨rfl, rfl, rfl, Nat.le_refl _, fun _ _ => rfl⟩
          clear c_l c_0 c_1 c_2 c_3
          clear d_l d_0 d_1 d_2 d_3
          clear e_l e_0 e_1 e_2 e_3
          clear x_l x_0 x_1 x_2 x_3
          clear HB
          generalize wr.drewN nq = W5 at *
          have c_l := (HB5.out.box 0 _ _ rfl).lt
          have c_0 := (HB5.out.box 0 _ _ rfl).cell 0 _ rfl
          have c_1 := (HB5.out.box 0 _ _ rfl).cell 1 _ rfl
          have c_2 := (HB5.out.box 0 _ _ rfl).cell 2 _ rfl
          have c_3 := (HB5.out.box 0 _ _ rfl).cell 3 _ rfl
          have d_l := (HB5.out.box 1 _ _ rfl).lt
          have d_0 := (HB5.out.box 1 _ _ rfl).cell 0 _ rfl
          have d_1 := (HB5.out.box 1 _ _ rfl).cell 1 _ rfl
          have d_2 := (HB5.out.box 1 _ _ rfl).cell 2 _ rfl
          have d_3 := (HB5.out.box 1 _ _ rfl).cell 3 _ rfl
          have e_l := (HB5.out.box 2 _ _ rfl).lt
          have e_0 := (HB5.out.box 2 _ _ rfl).cell 0 _ rfl
          have e_1 := (HB5.out.box 2 _ _ rfl).cell 1 _ rfl
          have e_2 := (HB5.out.box 2 _ _ rfl).cell 2 _ rfl
          have e_3 := (HB5.out.box 2 _ _ rfl).cell 3 _ rfl
          have x_l := (HB5.out.box 3 _ _ rfl).lt
          have x_0 := (HB5.out.box 3 _ _ rfl).cell 0 _ rfl
          have x_1 := (HB5.out.box 3 _ _ rfl).cell 1 _ rfl
          have x_2 := (HB5.out.box 3 _ _ rfl).cell 2 _ rfl
          have x_3 := (HB5.out.box 3 _ _ rfl).cell 3 _ rfl
          clear nq
          go_wp2_with fail
          go_big_quiet (fail)
          go_wp2_with fail
          go_roundg (4 - (1 + 1) + 1)
          case measure => omega
          case rel => exact ⟨2, rfl, by omega, by omega, HB5.out.step ⟨rfl, rfl, rfl, Nat.le_refl _, fun _ _ => rfl⟩⟩
        · have HH : Hid (_) := (show _ ∧ _ from ⟨h3, show _ ∧ _ from ⟨h4, h5⟩⟩)
          clear h3 h4 h5
          have c_l := (HB.out.box 0 _ _ rfl).lt
          have c_0 := (HB.out.box 0 _ _ rfl).cell 0 _ rfl
          have c_1 := (HB.out.box 0 _ _ rfl).cell 1 _ rfl
          have c_2 := (HB.out.box 0 _ _ rfl).cell 2 _ rfl
          have c_3 := (HB.out.box 0 _ _ rfl).cell 3 _ rfl
          have d_l := (HB.out.box 1 _ _ rfl).lt
          have d_0 := (HB.out.box 1 _ _ rfl).cell 0 _ rfl
          have d_1 := (HB.out.box 1 _ _ rfl).cell 1 _ rfl
          have d_2 := (HB.out.box 1 _ _ rfl).cell 2 _ rfl
          have d_3 := (HB.out.box 1 _ _ rfl).cell 3 _ rfl
          have e_l := (HB.out.box 2 _ _ rfl).lt
          have e_0 := (HB.out.box 2 _ _ rfl).cell 0 _ rfl
          have e_1 := (HB.out.box 2 _ _ rfl).cell 1 _ rfl
          have e_2 := (HB.out.box 2 _ _ rfl).cell 2 _ rfl
          have e_3 := (HB.out.box 2 _ _ rfl).cell 3 _ rfl
          have x_l := (HB.out.box 3 _ _ rfl).lt
          have x_0 := (HB.out.box 3 _ _ rfl).cell 0 _ rfl
          have x_1 := (HB.out.box 3 _ _ rfl).cell 1 _ rfl
          have x_2 := (HB.out.box 3 _ _ rfl).cell 2 _ rfl
          have x_3 := (HB.out.box 3 _ _ rfl).cell 3 _ rfl
          go_wp2_with fail
          go_big_quiet (fail)
          have HB5 : Hid (Bxs w _ (wr.drewN nq)) := HB.out.step ⟨rfl, rfl, rfl, Nat.le_refl _, fun _ _ => rfl⟩
          clear c_l c_0 c_1 c_2 c_3
          clear d_l d_0 d_1 d_2 d_3
          clear e_l e_0 e_1 e_2 e_3
          clear x_l x_0 x_1 x_2 x_3
          clear HB
          generalize wr.drewN nq = W5 at *
          have c_l := (HB5.out.box 0 _ _ rfl).lt
          have c_0 := (HB5.out.box 0 _ _ rfl).cell 0 _ rfl
          have c_1 := (HB5.out.box 0 _ _ rfl).cell 1 _ rfl
          have c_2 := (HB5.out.box 0 _ _ rfl).cell 2 _ rfl
          have c_3 := (HB5.out.box 0 _ _ rfl).cell 3 _ rfl
          have d_l := (HB5.out.box 1 _ _ rfl).lt
          have d_0 := (HB5.out.box 1 _ _ rfl).cell 0 _ rfl
          have d_1 := (HB5.out.box 1 _ _ rfl).cell 1 _ rfl
          have d_2 := (HB5.out.box 1 _ _ rfl).cell 2 _ rfl
          have d_3 := (HB5.out.box 1 _ _ rfl).cell 3 _ rfl
          have e_l := (HB5.out.box 2 _ _ rfl).lt
          have e_0 := (HB5.out.box 2 _ _ rfl).cell 0 _ rfl
          have e_1 := (HB5.out.box 2 _ _ rfl).cell 1 _ rfl
          have e_2 := (HB5.out.box 2 _ _ rfl).cell 2 _ rfl
          have e_3 := (HB5.out.box 2 _ _ rfl).cell 3 _ rfl
          have x_l := (HB5.out.box 3 _ _ rfl).lt
          have x_0 := (HB5.out.box 3 _ _ rfl).cell 0 _ rfl
          have x_1 := (HB5.out.box 3 _ _ rfl).cell 1 _ rfl
          have x_2 := (HB5.out.box 3 _ _ rfl).cell 2 _ rfl
          have x_3 := (HB5.out.box 3 _ _ rfl).cell 3 _ rfl
          clear nq
          go_wp2_with fail
          have g1 : decide (0 < F 1) = true := decide_eq_true (by have := HH.out; omega)
          have g2 : decide (F 1 < 0) = false := decide_eq_false (by have := HH.out; omega)
          have g3 : decide (O 1 < X 1) = false := decide_eq_false (by have := HH.out; omega)
          go_big_quiet (fail)
          go_wp2_with fail
          go_roundg (4 - (1 + 1) + 1)
          case measure => omega
          case rel => exact ⟨2, rfl, by omega, by omega, HB5.out.step ⟨rfl, rfl, rfl, Nat.le_refl _, fun _ _ => rfl⟩⟩
        · have HH : Hid (_) := (show _ ∧ _ from ⟨h3, show _ ∧ _ from ⟨h4, h5⟩⟩)
          clear h3 h4 h5
          have c_l := (HB.out.box 0 _ _ rfl).lt
          have c_0 := (HB.out.box 0 _ _ rfl).cell 0 _ rfl
          have c_1 := (HB.out.box 0 _ _ rfl).cell 1 _ rfl
          have c_2 := (HB.out.box 0 _ _ rfl).cell 2 _ rfl
          have c_3 := (HB.out.box 0 _ _ rfl).cell 3 _ rfl
          have d_l := (HB.out.box 1 _ _ rfl).lt
          have d_0 := (HB.out.box 1 _ _ rfl).cell 0 _ rfl
          have d_1 := (HB.out.box 1 _ _ rfl).cell 1 _ rfl
          have d_2 := (HB.out.box 1 _ _ rfl).cell 2 _ rfl
          have d_3 := (HB.out.box 1 _ _ rfl).cell 3 _ rfl
          have e_l := (HB.out.box 2 _ _ rfl).lt
          have e_0 := (HB.out.box 2 _ _ rfl).cell 0 _ rfl
          have e_1 := (HB.out.box 2 _ _ rfl).cell 1 _ rfl
          have e_2 := (HB.out.box 2 _ _ rfl).cell 2 _ rfl
          have e_3 := (HB.out.box 2 _ _ rfl).cell 3 _ rfl
          have x_l := (HB.out.box 3 _ _ rfl).lt
          have x_0 := (HB.out.box 3 _ _ rfl).cell 0 _ rfl
          have x_1 := (HB.out.box 3 _ _ rfl).cell 1 _ rfl
          have x_2 := (HB.out.box 3 _ _ rfl).cell 2 _ rfl
          have x_3 := (HB.out.box 3 _ _ rfl).cell 3 _ rfl
          go_wp2_with fail
          go_big_quiet (fail)
          have HB5 : Hid (Bxs w _ (wr.drewN nq)) := HB.out.step ⟨rfl, rfl, rfl, Nat.le_refl _, fun _ _ => rfl⟩
          clear c_l c_0 c_1 c_2 c_3
          clear d_l d_0 d_1 d_2 d_3
          clear e_l e_0 e_1 e_2 e_3
          clear x_l x_0 x_1 x_2 x_3
          clear HB
          generalize wr.drewN nq = W5 at *
          have c_l := (HB5.out.box 0 _ _ rfl).lt
          have c_0 := (HB5.out.box 0 _ _ rfl).cell 0 _ rfl
          have c_1 := (HB5.out.box 0 _ _ rfl).cell 1 _ rfl
          have c_2 := (HB5.out.box 0 _ _ rfl).cell 2 _ rfl
          have c_3 := (HB5.out.box 0 _ _ rfl).cell 3 _ rfl
          have d_l := (HB5.out.box 1 _ _ rfl).lt
          have d_0 := (HB5.out.box 1 _ _ rfl).cell 0 _ rfl
          have d_1 := (HB5.out.box 1 _ _ rfl).cell 1 _ rfl
          have d_2 := (HB5.out.box 1 _ _ rfl).cell 2 _ rfl
          have d_3 := (HB5.out.box 1 _ _ rfl).cell 3 _ rfl
          have e_l := (HB5.out.box 2 _ _ rfl).lt
          have e_0 := (HB5.out.box 2 _ _ rfl).cell 0 _ rfl
          have e_1 := (HB5.out.box 2 _ _ rfl).cell 1 _ rfl
          have e_2 := (HB5.out.box 2 _ _ rfl).cell 2 _ rfl
          have e_3 := (HB5.out.box 2 _ _ rfl).cell 3 _ rfl
          have x_l := (HB5.out.box 3 _ _ rfl).lt
          have x_0 := (HB5.out.box 3 _ _ rfl).cell 0 _ rfl
          have x_1 := (HB5.out.box 3 _ _ rfl).cell 1 _ rfl
          have x_2 := (HB5.out.box 3 _ _ rfl).cell 2 _ rfl
          have x_3 := (HB5.out.box 3 _ _ rfl).cell 3 _ rfl
          clear nq
          go_wp2_with fail
          have g1 : decide (0 < F 1) = false := decide_eq_false (by have := HH.out; omega)
          have g2 : decide (F 1 < 0) = true := decide_eq_true (by have := HH.out; omega)
          have g3 : decide (X 1 < O 1) = false := decide_eq_false (by have := HH.out; omega)
          go_big_quiet (fail)
          go_wp2_with fail
          go_roundg (4 - (1 + 1) + 1)
          case measure => omega
          case rel => exact ⟨2, rfl, by omega, by omega, HB5.out.step ⟨rfl, rfl, rfl, Nat.le_refl _, fun _ _ => rfl⟩⟩
        · have HH : Hid (_) := (show _ ∧ _ from ⟨h3, h4⟩)
          clear h3 h4
          have c_l := (HB.out.box 0 _ _ rfl).lt
          have c_0 := (HB.out.box 0 _ _ rfl).cell 0 _ rfl
          have c_1 := (HB.out.box 0 _ _ rfl).cell 1 _ rfl
          have c_2 := (HB.out.box 0 _ _ rfl).cell 2 _ rfl
          have c_3 := (HB.out.box 0 _ _ rfl).cell 3 _ rfl
          have d_l := (HB.out.box 1 _ _ rfl).lt
          have d_0 := (HB.out.box 1 _ _ rfl).cell 0 _ rfl
          have d_1 := (HB.out.box 1 _ _ rfl).cell 1 _ rfl
          have d_2 := (HB.out.box 1 _ _ rfl).cell 2 _ rfl
          have d_3 := (HB.out.box 1 _ _ rfl).cell 3 _ rfl
          have e_l := (HB.out.box 2 _ _ rfl).lt
          have e_0 := (HB.out.box 2 _ _ rfl).cell 0 _ rfl
          have e_1 := (HB.out.box 2 _ _ rfl).cell 1 _ rfl
          have e_2 := (HB.out.box 2 _ _ rfl).cell 2 _ rfl
          have e_3 := (HB.out.box 2 _ _ rfl).cell 3 _ rfl
          have x_l := (HB.out.box 3 _ _ rfl).lt
          have x_0 := (HB.out.box 3 _ _ rfl).cell 0 _ rfl
          have x_1 := (HB.out.box 3 _ _ rfl).cell 1 _ rfl
          have x_2 := (HB.out.box 3 _ _ rfl).cell 2 _ rfl
          have x_3 := (HB.out.box 3 _ _ rfl).cell 3 _ rfl
          go_wp2_with fail
          go_big_quiet (fail)
          have HB5 : Hid (Bxs w _ (wr.drewN nq)) := HB.out.step ⟨rfl, rfl, rfl, Nat.le_refl _, fun _ _ => rfl⟩
          clear c_l c_0 c_1 c_2 c_3
          clear d_l d_0 d_1 d_2 d_3
          clear e_l e_0 e_1 e_2 e_3
          clear x_l x_0 x_1 x_2 x_3
          clear HB
          generalize wr.drewN nq = W5 at *
          have c_l := (HB5.out.box 0 _ _ rfl).lt
          have c_0 := (HB5.out.box 0 _ _ rfl).cell 0 _ rfl
          have c_1 := (HB5.out.box 0 _ _ rfl).cell 1 _ rfl
          have c_2 := (HB5.out.box 0 _ _ rfl).cell 2 _ rfl
          have c_3 := (HB5.out.box 0 _ _ rfl).cell 3 _ rfl
          have d_l := (HB5.out.box 1 _ _ rfl).lt
          have d_0 := (HB5.out.box 1 _ _ rfl).cell 0 _ rfl
          have d_1 := (HB5.out.box 1 _ _ rfl).cell 1 _ rfl
          have d_2 := (HB5.out.box 1 _ _ rfl).cell 2 _ rfl
          have d_3 := (HB5.out.box 1 _ _ rfl).cell 3 _ rfl
          have e_l := (HB5.out.box 2 _ _ rfl).lt
          have e_0 := (HB5.out.box 2 _ _ rfl).cell 0 _ rfl
          have e_1 := (HB5.out.box 2 _ _ rfl).cell 1 _ rfl
          have e_2 := (HB5.out.box 2 _ _ rfl).cell 2 _ rfl
          have e_3 := (HB5.out.box 2 _ _ rfl).cell 3 _ rfl
          have x_l := (HB5.out.box 3 _ _ rfl).lt
          have x_0 := (HB5.out.box 3 _ _ rfl).cell 0 _ rfl
          have x_1 := (HB5.out.box 3 _ _ rfl).cell 1 _ rfl
          have x_2 := (HB5.out.box 3 _ _ rfl).cell 2 _ rfl
          have x_3 := (HB5.out.box 3 _ _ rfl).cell 3 _ rfl
          clear nq
          go_wp2_with fail
          have g1 : decide (0 < F 1) = false := decide_eq_false (by have := HH.out; omega)
          have g2 : decide (F 1 < 0) = false := decide_eq_false (by have := HH.out; omega)
          go_big_quiet (fail)
          go_wp2_with fail
          go_roundg (4 - (1 + 1) + 1)
          case measure => omega
          case rel => exact ⟨2, rfl, by omega, by omega, HB5.out.step ⟨rfl, rfl, rfl, Nat.le_refl _, fun _ _ => rfl⟩⟩
      · obtain ⟨h, ⟨x1, x2⟩, hO, hX⟩ := HA.out 2 (by omega)
        have z1 : ¬ X 2 < -m := by omega
        have z2 : ¬ m < X 2 := by omega
        have QO : Hid (_) := hO
        have QX : Hid (_) := hX
        clear x1 x2 hO hX
        rcases h with ⟨h1, h2, h3 | ⟨h3, h4⟩⟩ | ⟨h1, h2, ⟨h3, h4, h5⟩ | ⟨h3, h4, h5⟩ | ⟨h3, h4⟩⟩
        · skip
          have c_l := (HB.out.box 0 _ _ rfl).lt
          have c_0 := (HB.out.box 0 _ _ rfl).cell 0 _ rfl
          have c_1 := (HB.out.box 0 _ _ rfl).cell 1 _ rfl
          have c_2 := (HB.out.box 0 _ _ rfl).cell 2 _ rfl
          have c_3 := (HB.out.box 0 _ _ rfl).cell 3 _ rfl
          have d_l := (HB.out.box 1 _ _ rfl).lt
          have d_0 := (HB.out.box 1 _ _ rfl).cell 0 _ rfl
          have d_1 := (HB.out.box 1 _ _ rfl).cell 1 _ rfl
          have d_2 := (HB.out.box 1 _ _ rfl).cell 2 _ rfl
          have d_3 := (HB.out.box 1 _ _ rfl).cell 3 _ rfl
          have e_l := (HB.out.box 2 _ _ rfl).lt
          have e_0 := (HB.out.box 2 _ _ rfl).cell 0 _ rfl
          have e_1 := (HB.out.box 2 _ _ rfl).cell 1 _ rfl
          have e_2 := (HB.out.box 2 _ _ rfl).cell 2 _ rfl
          have e_3 := (HB.out.box 2 _ _ rfl).cell 3 _ rfl
          have x_l := (HB.out.box 3 _ _ rfl).lt
          have x_0 := (HB.out.box 3 _ _ rfl).cell 0 _ rfl
          have x_1 := (HB.out.box 3 _ _ rfl).cell 1 _ rfl
          have x_2 := (HB.out.box 3 _ _ rfl).cell 2 _ rfl
          have x_3 := (HB.out.box 3 _ _ rfl).cell 3 _ rfl
          go_wp2_with fail
          go_big_quiet (fail)
          have HB5 : Hid (Bxs w _ (wr.drewN nq)) := HB.out.step ⟨rfl, rfl, rfl, Nat.le_refl _, fun _ _ => rfl⟩
          clear c_l c_0 c_1 c_2 c_3
          clear d_l d_0 d_1 d_2 d_3
          clear e_l e_0 e_1 e_2 e_3
          clear x_l x_0 x_1 x_2 x_3
          clear HB
          generalize wr.drewN nq = W5 at *
          have c_l := (HB5.out.box 0 _ _ rfl).lt
          have c_0 := (HB5.out.box 0 _ _ rfl).cell 0 _ rfl
          have c_1 := (HB5.out.box 0 _ _ rfl).cell 1 _ rfl
          have c_2 := (HB5.out.box 0 _ _ rfl).cell 2 _ rfl
          have c_3 := (HB5.out.box 0 _ _ rfl).cell 3 _ rfl
          have d_l := (HB5.out.box 1 _ _ rfl).lt
          have d_0 := (HB5.out.box 1 _ _ rfl).cell 0 _ rfl
          have d_1 := (HB5.out.box 1 _ _ rfl).cell 1 _ rfl
          have d_2 := (HB5.out.box 1 _ _ rfl).cell 2 _ rfl
          have d_3 := (HB5.out.box 1 _ _ rfl).cell 3 _ rfl
          have e_l := (HB5.out.box 2 _ _ rfl).lt
          have e_0 := (HB5.out.box 2 _ _ rfl).cell 0 _ rfl
          have e_1 := (HB5.out.box 2 _ _ rfl).cell 1 _ rfl
          have e_2 := (HB5.out.box 2 _ _ rfl).cell 2 _ rfl
          have e_3 := (HB5.out.box 2 _ _ rfl).cell 3 _ rfl
          have x_l := (HB5.out.box 3 _ _ rfl).lt
          have x_0 := (HB5.out.box 3 _ _ rfl).cell 0 _ rfl
          have x_1 := (HB5.out.box 3 _ _ rfl).cell 1 _ rfl
          have x_2 := (HB5.out.box 3 _ _ rfl).cell 2 _ rfl
          have x_3 := (HB5.out.box 3 _ _ rfl).cell 3 _ rfl
          clear nq
          go_wp2_with fail
          go_big_quiet (fail)
          go_wp2_with fail
          go_roundg (4 - (2 + 1) + 1)
          case measure => omega
          case rel => exact ⟨3, rfl, by omega, by omega, HB5.out.step ⟨rfl, rfl, rfl, Nat.le_refl _, fun _ _ => rfl⟩⟩
        · skip
          have c_l := (HB.out.box 0 _ _ rfl).lt
          have c_0 := (HB.out.box 0 _ _ rfl).cell 0 _ rfl
          have c_1 := (HB.out.box 0 _ _ rfl).cell 1 _ rfl
          have c_2 := (HB.out.box 0 _ _ rfl).cell 2 _ rfl
          have c_3 := (HB.out.box 0 _ _ rfl).cell 3 _ rfl
          have d_l := (HB.out.box 1 _ _ rfl).lt
          have d_0 := (HB.out.box 1 _ _ rfl).cell 0 _ rfl
          have d_1 := (HB.out.box 1 _ _ rfl).cell 1 _ rfl
          have d_2 := (HB.out.box 1 _ _ rfl).cell 2 _ rfl
          have d_3 := (HB.out.box 1 _ _ rfl).cell 3 _ rfl
          have e_l := (HB.out.box 2 _ _ rfl).lt
          have e_0 := (HB.out.box 2 _ _ rfl).cell 0 _ rfl
          have e_1 := (HB.out.box 2 _ _ rfl).cell 1 _ rfl
          have e_2 := (HB.out.box 2 _ _ rfl).cell 2 _ rfl
          have e_3 := (HB.out.box 2 _ _ rfl).cell 3 _ rfl
          have x_l := (HB.out.box 3 _ _ rfl).lt
          have x_0 := (HB.out.box 3 _ _ rfl).cell 0 _ rfl
          have x_1 := (HB.out.box 3 _ _ rfl).cell 1 _ rfl
          have x_2 := (HB.out.box 3 _ _ rfl).cell 2 _ rfl
          have x_3 := (HB.out.box 3 _ _ rfl).cell 3 _ rfl
          go_wp2_with fail
          go_big_quiet (first | (go_at_call 12; exact Calls.quiet_of_same (C4.out _ _ (by first | exact QX.out | exact QO.out))))
          have HB5 : Hid (Bxs w _ (wr.drewN nq)) := HB.out.step ⟨rfl, rfl, rfl, Nat.le_refl _, fun _ _ => rfl⟩
          clear c_l c_0 c_1 c_2 c_3
          clear d_l d_0 d_1 d_2 d_3
          clear e_l e_0 e_1 e_2 e_3
          clear x_l x_0 x_1 x_2 x_3
          clear HB
          generalize wr.drewN nq = W5 at *
          have c_l := (HB5.out.box 0 _ _ rfl).lt
          have c_0 := (HB5.out.box 0 _ _ rfl).cell 0 _ rfl
          have c_1 := (HB5.out.box 0 _ _ rfl).cell 1 _ rfl
          have c_2 := (HB5.out.box 0 _ _ rfl).cell 2 _ rfl
          have c_3 := (HB5.out.box 0 _ _ rfl).cell 3 _ rfl
          have d_l := (HB5.out.box 1 _ _ rfl).lt
          have d_0 := (HB5.out.box 1 _ _ rfl).cell 0 _ rfl
          have d_1 := (HB5.out.box 1 _ _ rfl).cell 1 _ rfl
          have d_2 := (HB5.out.box 1 _ _ rfl).cell 2 _ rfl
          have d_3 := (HB5.out.box 1 _ _ rfl).cell 3 _ rfl
          have e_l := (HB5.out.box 2 _ _ rfl).lt
          have e_0 := (HB5.out.box 2 _ _ rfl).cell 0 _ rfl
          have e_1 := (HB5.out.box 2 _ _ rfl).cell 1 _ rfl
          have e_2 := (HB5.out.box 2 _ _ rfl).cell 2 _ rfl
          have e_3 := (HB5.out.box 2 _ _ rfl).cell 3 _ rfl
          have x_l := (HB5.out.box 3 _ _ rfl).lt
          have x_0 := (HB5.out.box 3 _ _ rfl).cell 0 _ rfl
          have x_1 := (HB5.out.box 3 _ _ rfl).cell 1 _ rfl
          have x_2 := (HB5.out.box 3 _ _ rfl).cell 2 _ rfl
          have x_3 := (HB5.out.box 3 _ _ rfl).cell 3 _ rfl
          clear nq
          go_wp2_with fail
          go_big_quiet (fail)
          go_wp2_with fail
          go_roundg (4 - (2 + 1) + 1)
          case measure => omega
          case rel => exact ⟨3, rfl, by omega, by omega, HB5.out.step ⟨rfl, rfl, rfl, Nat.le_refl _, fun _ _ => rfl⟩⟩
        · have HH : Hid (_) := (show _ ∧ _ from ⟨h3, show _ ∧ _ from ⟨h4, h5⟩⟩)
          clear h3 h4 h5
          have c_l := (HB.out.box 0 _ _ rfl).lt
          have c_0 := (HB.out.box 0 _ _ rfl).cell 0 _ rfl
          have c_1 := (HB.out.box 0 _ _ rfl).cell 1 _ rfl
          have c_2 := (HB.out.box 0 _ _ rfl).cell 2 _ rfl
          have c_3 := (HB.out.box 0 _ _ rfl).cell 3 _ rfl
          have d_l := (HB.out.box 1 _ _ rfl).lt
          have d_0 := (HB.out.box 1 _ _ rfl).cell 0 _ rfl
          have d_1 := (HB.out.box 1 _ _ rfl).cell 1 _ rfl
          have d_2 := (HB.out.box 1 _ _ rfl).cell 2 _ rfl
          have d_3 := (HB.out.box 1 _ _ rfl).cell 3 _ rfl
          have e_l := (HB.out.box 2 _ _ rfl).lt
          have e_0 := (HB.out.box 2 _ _ rfl).cell 0 _ rfl
          have e_1 := (HB.out.box 2 _ _ rfl).cell 1 _ rfl
          have e_2 := (HB.out.box 2 _ _ rfl).cell 2 _ rfl
          have e_3 := (HB.out.box 2 _ _ rfl).cell 3 _ rfl
          have x_l := (HB.out.box 3 _ _ rfl).lt
          have x_0 := (HB.out.box 3 _ _ rfl).cell 0 _ rfl
          have x_1 := (HB.out.box 3 _ _ rfl).cell 1 _ rfl
          have x_2 := (HB.out.box 3 _ _ rfl).cell 2 _ rfl
          have x_3 := (HB.out.box 3 _ _ rfl).cell 3 _ rfl
          go_wp2_with fail
          go_big_quiet (fail)
          have HB5 : Hid (Bxs w _ (wr.drewN nq)) := HB.out.step ⟨rfl, rfl, rfl, Nat.le_refl _, fun _ _ => rfl⟩
          clear c_l c_0 c_1 c_2 c_3
          clear d_l d_0 d_1 d_2 d_3
          clear e_l e_0 e_1 e_2 e_3
          clear x_l x_0 x_1 x_2 x_3
          clear HB
          generalize wr.drewN nq = W5 at *
          have c_l := (HB5.out.box 0 _ _ rfl).lt
          have c_0 := (HB5.out.box 0 _ _ rfl).cell 0 _ rfl
          have c_1 := (HB5.out.box 0 _ _ rfl).cell 1 _ rfl
          have c_2 := (HB5.out.box 0 _ _ rfl).cell 2 _ rfl
          have c_3 := (HB5.out.box 0 _ _ rfl).cell 3 _ rfl
          have d_l := (HB5.out.box 1 _ _ rfl).lt
          have d_0 := (HB5.out.box 1 _ _ rfl).cell 0 _ rfl
          have d_1 := (HB5.out.box 1 _ _ rfl).cell 1 _ rfl
          have d_2 := (HB5.out.box 1 _ _ rfl).cell 2 _ rfl
          have d_3 := (HB5.out.box 1 _ _ rfl).cell 3 _ rfl
          have e_l := (HB5.out.box 2 _ _ rfl).lt
          have e_0 := (HB5.out.box 2 _ _ rfl).cell 0 _ rfl
          have e_1 := (HB5.out.box 2 _ _ rfl).cell 1 _ rfl
          have e_2 := (HB5.out.box 2 _ _ rfl).cell 2 _ rfl
          have e_3 := (HB5.out.box 2 _ _ rfl).cell 3 _ rfl
          have x_l := (HB5.out.box 3 _ _ rfl).lt
          have x_0 := (HB5.out.box 3 _ _ rfl).cell 0 _ rfl
          have x_1 := (HB5.out.box 3 _ _ rfl).cell 1 _ rfl
          have x_2 := (HB5.out.box 3 _ _ rfl).cell 2 _ rfl
          have x_3 := (HB5.out.box 3 _ _ rfl).cell 3 _ rfl
          clear nq
          go_wp2_with fail
          have g1 : decide (0 < F 2) = true := decide_eq_true (by have := HH.out; omega)
          have g2 : decide (F 2 < 0) = false := decide_eq_false (by have := HH.out; omega)
          have g3 : decide (O 2 < X 2) = false := decide_eq_false (by have := HH.out; omega)
          go_big_quiet (fail)
          go_wp2_with fail
          go_roundg (4 - (2 + 1) + 1)
          case measure => omega
          case rel => exact ⟨3, rfl, by omega, by omega, HB5.out.step ⟨rfl, rfl, rfl, Nat.le_refl _, fun _ _ => rfl⟩⟩
        · have HH : Hid (_) := (show _ ∧ _ from ⟨h3, show _ ∧ _ from ⟨h4, h5⟩⟩)
          clear h3 h4 h5
          have c_l := (HB.out.box 0 _ _ rfl).lt
          have c_0 := (HB.out.box 0 _ _ rfl).cell 0 _ rfl
          have c_1 := (HB.out.box 0 _ _ rfl).cell 1 _ rfl
          have c_2 := (HB.out.box 0 _ _ rfl).cell 2 _ rfl
          have c_3 := (HB.out.box 0 _ _ rfl).cell 3 _ rfl
          have d_l := (HB.out.box 1 _ _ rfl).lt
          have d_0 := (HB.out.box 1 _ _ rfl).cell 0 _ rfl
          have d_1 := (HB.out.box 1 _ _ rfl).cell 1 _ rfl
          have d_2 := (HB.out.box 1 _ _ rfl).cell 2 _ rfl
          have d_3 := (HB.out.box 1 _ _ rfl).cell 3 _ rfl
          have e_l := (HB.out.box 2 _ _ rfl).lt
          have e_0 := (HB.out.box 2 _ _ rfl).cell 0 _ rfl
          have e_1 := (HB.out.box 2 _ _ rfl).cell 1 _ rfl
          have e_2 := (HB.out.box 2 _ _ rfl).cell 2 _ rfl
          have e_3 := (HB.out.box 2 _ _ rfl).cell 3 _ rfl
          have x_l := (HB.out.box 3 _ _ rfl).lt
          have x_0 := (HB.out.box 3 _ _ rfl).cell 0 _ rfl
          have x_1 := (HB.out.box 3 _ _ rfl).cell 1 _ rfl
          have x_2 := (HB.out.box 3 _ _ rfl).cell 2 _ rfl
          have x_3 := (HB.out.box 3 _ _ rfl).cell 3 _ rfl
          go_wp2_with fail
          go_big_quiet (fail)
          have HB5 : Hid (Bxs w _ (wr.drewN nq)) := HB.out.step ⟨rfl, rfl, rfl, Nat.le_refl _, fun _ _ => rfl⟩
          clear c_l c_0 c_1 c_2 c_3
          clear d_l d_0 d_1 d_2 d_3
          clear e_l e_0 e_1 e_2 e_3
          clear x_l x_0 x_1 x_2 x_3
          clear HB
          generalize wr.drewN nq = W5 at *
          have c_l := (HB5.out.box 0 _ _ rfl).lt
          have c_0 := (HB5.out.box 0 _ _ rfl).cell 0 _ rfl
          have c_1 := (HB5.out.box 0 _ _ rfl).cell 1 _ rfl
          have c_2 := (HB5.out.box 0 _ _ rfl).cell 2 _ rfl
          have c_3 := (HB5.out.box 0 _ _ rfl).cell 3 _ rfl
          have d_l := (HB5.out.box 1 _ _ rfl).lt
          have d_0 := (HB5.out.box 1 _ _ rfl).cell 0 _ rfl
          have d_1 := (HB5.out.box 1 _ _ rfl).cell 1 _ rfl
          have d_2 := (HB5.out.box 1 _ _ rfl).cell 2 _ rfl
          have d_3 := (HB5.out.box 1 _ _ rfl).cell 3 _ rfl
          have e_l := (HB5.out.box 2 _ _ rfl).lt
          have e_0 := (HB5.out.box 2 _ _ rfl).cell 0 _ rfl
          have e_1 := (HB5.out.box 2 _ _ rfl).cell 1 _ rfl
          have e_2 := (HB5.out.box 2 _ _ rfl).cell 2 _ rfl
          have e_3 := (HB5.out.box 2 _ _ rfl).cell 3 _ rfl
          have x_l := (HB5.out.box 3 _ _ rfl).lt
          have x_0 := (HB5.out.box 3 _ _ rfl).cell 0 _ rfl
          have x_1 := (HB5.out.box 3 _ _ rfl).cell 1 _ rfl
          have x_2 := (HB5.out.box 3 _ _ rfl).cell 2 _ rfl
          have x_3 := (HB5.out.box 3 _ _ rfl).cell 3 _ rfl
          clear nq
          go_wp2_with fail
          have g1 : decide (0 < F 2) = false := decide_eq_false (by have := HH.out; omega)
          have g2 : decide (F 2 < 0) = true := decide_eq_true (by have := HH.out; omega)
          have g3 : decide (X 2 < O 2) = false := decide_eq_false (by have := HH.out; omega)
          go_big_quiet (fail)
          go_wp2_with fail
          go_roundg (4 - (2 + 1) + 1)
          case measure => omega
          case rel => exact ⟨3, rfl, by omega, by omega, HB5.out.step ⟨rfl, rfl, rfl, Nat.le_refl _, fun _ _ => rfl⟩⟩
        · have HH : Hid (_) := (show _ ∧ _ from ⟨h3, h4⟩)
          clear h3 h4
          have c_l := (HB.out.box 0 _ _ rfl).lt
          have c_0 := (HB.out.box 0 _ _ rfl).cell 0 _ rfl
          have c_1 := (HB.out.box 0 _ _ rfl).cell 1 _ rfl
          have c_2 := (HB.out.box 0 _ _ rfl).cell 2 _ rfl
          have c_3 := (HB.out.box 0 _ _ rfl).cell 3 _ rfl
          have d_l := (HB.out.box 1 _ _ rfl).lt
          have d_0 := (HB.out.box 1 _ _ rfl).cell 0 _ rfl
          have d_1 := (HB.out.box 1 _ _ rfl).cell 1 _ rfl
          have d_2 := (HB.out.box 1 _ _ rfl).cell 2 _ rfl
          have d_3 := (HB.out.box 1 _ _ rfl).cell 3 _ rfl
          have e_l := (HB.out.box 2 _ _ rfl).lt
          have e_0 := (HB.out.box 2 _ _ rfl).cell 0 _ rfl
          have e_1 := (HB.out.box 2 _ _ rfl).cell 1 _ rfl
          have e_2 := (HB.out.box 2 _ _ rfl).cell 2 _ rfl
          have e_3 := (HB.out.box 2 _ _ rfl).cell 3 _ rfl
          have x_l := (HB.out.box 3 _ _ rfl).lt
          have x_0 := (HB.out.box 3 _ _ rfl).cell 0 _ rfl
          have x_1 := (HB.out.box 3 _ _ rfl).cell 1 _ rfl
          have x_2 := (HB.out.box 3 _ _ rfl).cell 2 _ rfl
          have x_3 := (HB.out.box 3 _ _ rfl).cell 3 _ rfl
          go_wp2_with fail
          go_big_quiet (fail)
          have HB5 : Hid (Bxs w _ (wr.drewN nq)) := HB.out.step ⟨rfl, rfl, rfl, Nat.le_refl _, fun _ _ => rfl⟩
          clear c_l c_0 c_1 c_2 c_3
          clear d_l d_0 d_1 d_2 d_3
          clear e_l e_0 e_1 e_2 e_3
          clear x_l x_0 x_1 x_2 x_3
          clear HB
          generalize wr.drewN nq = W5 at *
          have c_l := (HB5.out.box 0 _ _ rfl).lt
          have c_0 := (HB5.out.box 0 _ _ rfl).cell 0 _ rfl
          have c_1 := (HB5.out.box 0 _ _ rfl).cell 1 _ rfl
          have c_2 := (HB5.out.box 0 _ _ rfl).cell 2 _ rfl
          have c_3 := (HB5.out.box 0 _ _ rfl).cell 3 _ rfl
          have d_l := (HB5.out.box 1 _ _ rfl).lt
          have d_0 := (HB5.out.box 1 _ _ rfl).cell 0 _ rfl
          have d_1 := (HB5.out.box 1 _ _ rfl).cell 1 _ rfl
          have d_2 := (HB5.out.box 1 _ _ rfl).cell 2 _ rfl
          have d_3 := (HB5.out.box 1 _ _ rfl).cell 3 _ rfl
          have e_l := (HB5.out.box 2 _ _ rfl).lt
          have e_0 := (HB5.out.box 2 _ _ rfl).cell 0 _ rfl
          have e_1 := (HB5.out.box 2 _ _ rfl).cell 1 _ rfl
          have e_2 := (HB5.out.box 2 _ _ rfl).cell 2 _ rfl
          have e_3 := (HB5.out.box 2 _ _ rfl).cell 3 _ rfl
          have x_l := (HB5.out.box 3 _ _ rfl).lt
          have x_0 := (HB5.out.box 3 _ _ rfl).cell 0 _ rfl
          have x_1 := (HB5.out.box 3 _ _ rfl).cell 1 _ rfl
          have x_2 := (HB5.out.box 3 _ _ rfl).cell 2 _ rfl
          have x_3 := (HB5.out.box 3 _ _ rfl).cell 3 _ rfl
          clear nq
          go_wp2_with fail
          have g1 : decide (0 < F 2) = false := decide_eq_false (by have := HH.out; omega)
          have g2 : decide (F 2 < 0) = false := decide_eq_false (by have := HH.out; omega)
          go_big_quiet (fail)
          go_wp2_with fail
          go_roundg (4 - (2 + 1) + 1)
          case measure => omega
          case rel => exact ⟨3, rfl, by omega, by omega, HB5.out.step ⟨rfl, rfl, rfl, Nat.le_refl _, fun _ _ => rfl⟩⟩
      · obtain ⟨h, ⟨x1, x2⟩, hO, hX⟩ := HA.out 3 (by omega)
        have z1 : ¬ X 3 < -m := by omega
        have z2 : ¬ m < X 3 := by omega
        have QO : Hid (_) := hO
        have QX : Hid (_) := hX
        clear x1 x2 hO hX
        rcases h with ⟨h1, h2, h3 | ⟨h3, h4⟩⟩ | ⟨h1, h2, ⟨h3, h4, h5⟩ | ⟨h3, h4, h5⟩ | ⟨h3, h4⟩⟩
        · skip
          have c_l := (HB.out.box 0 _ _ rfl).lt
          have c_0 := (HB.out.box 0 _ _ rfl).cell 0 _ rfl
          have c_1 := (HB.out.box 0 _ _ rfl).cell 1 _ rfl
          have c_2 := (HB.out.box 0 _ _ rfl).cell 2 _ rfl
          have c_3 := (HB.out.box 0 _ _ rfl).cell 3 _ rfl
          have d_l := (HB.out.box 1 _ _ rfl).lt
          have d_0 := (HB.out.box 1 _ _ rfl).cell 0 _ rfl
          have d_1 := (HB.out.box 1 _ _ rfl).cell 1 _ rfl
          have d_2 := (HB.out.box 1 _ _ rfl).cell 2 _ rfl
          have d_3 := (HB.out.box 1 _ _ rfl).cell 3 _ rfl
          have e_l := (HB.out.box 2 _ _ rfl).lt
          have e_0 := (HB.out.box 2 _ _ rfl).cell 0 _ rfl
          have e_1 := (HB.out.box 2 _ _ rfl).cell 1 _ rfl
          have e_2 := (HB.out.box 2 _ _ rfl).cell 2 _ rfl
          have e_3 := (HB.out.box 2 _ _ rfl).cell 3 _ rfl
          have x_l := (HB.out.box 3 _ _ rfl).lt
          have x_0 := (HB.out.box 3 _ _ rfl).cell 0 _ rfl
          have x_1 := (HB.out.box 3 _ _ rfl).cell 1 _ rfl
          have x_2 := (HB.out.box 3 _ _ rfl).cell 2 _ rfl
          have x_3 := (HB.out.box 3 _ _ rfl).cell 3 _ rfl
          go_wp2_with fail
          go_big_quiet (fail)
          have HB5 : Hid (Bxs w _ (wr.drewN nq)) := HB.out.step ⟨rfl, rfl, rfl, Nat.le_refl _, fun _ _ => rfl⟩
          clear c_l c_0 c_1 c_2 c_3
          clear d_l d_0 d_1 d_2 d_3
          clear e_l e_0 e_1 e_2 e_3
          clear x_l x_0 x_1 x_2 x_3
          clear HB
          generalize wr.drewN nq = W5 at *
          have c_l := (HB5.out.box 0 _ _ rfl).lt
          have c_0 := (HB5.out.box 0 _ _ rfl).cell 0 _ rfl
          have c_1 := (HB5.out.box 0 _ _ rfl).cell 1 _ rfl
          have c_2 := (HB5.out.box 0 _ _ rfl).cell 2 _ rfl
          have c_3 := (HB5.out.box 0 _ _ rfl).cell 3 _ rfl
          have d_l := (HB5.out.box 1 _ _ rfl).lt
          have d_0 := (HB5.out.box 1 _ _ rfl).cell 0 _ rfl
          have d_1 := (HB5.out.box 1 _ _ rfl).cell 1 _ rfl
          have d_2 := (HB5.out.box 1 _ _ rfl).cell 2 _ rfl
          have d_3 := (HB5.out.box 1 _ _ rfl).cell 3 _ rfl
          have e_l := (HB5.out.box 2 _ _ rfl).lt
          have e_0 := (HB5.out.box 2 _ _ rfl).cell 0 _ rfl
          have e_1 := (HB5.out.box 2 _ _ rfl).cell 1 _ rfl
          have e_2 := (HB5.out.box 2 _ _ rfl).cell 2 _ rfl
          have e_3 := (HB5.out.box 2 _ _ rfl).cell 3 _ rfl
          have x_l := (HB5.out.box 3 _ _ rfl).lt
          have x_0 := (HB5.out.box 3 _ _ rfl).cell 0 _ rfl
          have x_1 := (HB5.out.box 3 _ _ rfl).cell 1 _ rfl
          have x_2 := (HB5.out.box 3 _ _ rfl).cell 2 _ rfl
          have x_3 := (HB5.out.box 3 _ _ rfl).cell 3 _ rfl
          clear nq
          go_wp2_with fail
          go_big_quiet (fail)
          go_wp2_with fail
          go_roundg (4 - (3 + 1) + 1)
          case measure => omega
          case rel => exact ⟨4, rfl, by omega, by omega, HB5.out.step ⟨rfl, rfl, rfl, Nat.le_refl _, fun _ _ => rfl⟩⟩
        · skip
          have c_l := (HB.out.box 0 _ _ rfl).lt
          have c_0 := (HB.out.box 0 _ _ rfl).cell 0 _ rfl
          have c_1 := (HB.out.box 0 _ _ rfl).cell 1 _ rfl
          have c_2 := (HB.out.box 0 _ _ rfl).cell 2 _ rfl
          have c_3 := (HB.out.box 0 _ _ rfl).cell 3 _ rfl
          have d_l := (HB.out.box 1 _ _ rfl).lt
          have d_0 := (HB.out.box 1 _ _ rfl).cell 0 _ rfl
          have d_1 := (HB.out.box 1 _ _ rfl).cell 1 _ rfl
          have d_2 := (HB.out.box 1 _ _ rfl).cell 2 _ rfl
          have d_3 := (HB.out.box 1 _ _ rfl).cell 3 _ rfl
          have e_l := (HB.out.box 2 _ _ rfl).lt
          have e_0 := (HB.out.box 2 _ _ rfl).cell 0 _ rfl
          have e_1 := (HB.out.box 2 _ _ rfl).cell 1 _ rfl
          have e_2 := (HB.out.box 2 _ _ rfl).cell 2 _ rfl
          have e_3 := (HB.out.box 2 _ _ rfl).cell 3 _ rfl
          have x_l := (HB.out.box 3 _ _ rfl).lt
          have x_0 := (HB.out.box 3 _ _ rfl).cell 0 _ rfl
          have x_1 := (HB.out.box 3 _ _ rfl).cell 1 _ rfl
          have x_2 := (HB.out.box 3 _ _ rfl).cell 2 _ rfl
          have x_3 := (HB.out.box 3 _ _ rfl).cell 3 _ rfl
          go_wp2_with fail
          go_big_quiet (first | (go_at_call 12; exact Calls.quiet_of_same (C4.out _ _ (by first | exact QX.out | exact QO.out))))
          have HB5 : Hid (Bxs w _ (wr.drewN nq)) := HB.out.step ⟨rfl, rfl, rfl, Nat.le_refl _, fun _ _ => rfl⟩
          clear c_l c_0 c_1 c_2 c_3
          clear d_l d_0 d_1 d_2 d_3
          clear e_l e_0 e_1 e_2 e_3
          clear x_l x_0 x_1 x_2 x_3
          clear HB
          generalize wr.drewN nq = W5 at *
          have c_l := (HB5.out.box 0 _ _ rfl).lt
          have c_0 := (HB5.out.box 0 _ _ rfl).cell 0 _ rfl
          have c_1 := (HB5.out.box 0 _ _ rfl).cell 1 _ rfl
          have c_2 := (HB5.out.box 0 _ _ rfl).cell 2 _ rfl
          have c_3 := (HB5.out.box 0 _ _ rfl).cell 3 _ rfl
          have d_l := (HB5.out.box 1 _ _ rfl).lt
          have d_0 := (HB5.out.box 1 _ _ rfl).cell 0 _ rfl
          have d_1 := (HB5.out.box 1 _ _ rfl).cell 1 _ rfl
          have d_2 := (HB5.out.box 1 _ _ rfl).cell 2 _ rfl
          have d_3 := (HB5.out.box 1 _ _ rfl).cell 3 _ rfl
          have e_l := (HB5.out.box 2 _ _ rfl).lt
          have e_0 := (HB5.out.box 2 _ _ rfl).cell 0 _ rfl
          have e_1 := (HB5.out.box 2 _ _ rfl).cell 1 _ rfl
          have e_2 := (HB5.out.box 2 _ _ rfl).cell 2 _ rfl
          have e_3 := (HB5.out.box 2 _ _ rfl).cell 3 _ rfl
          have x_l := (HB5.out.box 3 _ _ rfl).lt
          have x_0 := (HB5.out.box 3 _ _ rfl).cell 0 _ rfl
          have x_1 := (HB5.out.box 3 _ _ rfl).cell 1 _ rfl
          have x_2 := (HB5.out.box 3 _ _ rfl).cell 2 _ rfl
          have x_3 := (HB5.out.box 3 _ _ rfl).cell 3 _ rfl
          clear nq
          go_wp2_with fail
          go_big_quiet (fail)
          go_wp2_with fail
          go_roundg (4 - (3 + 1) + 1)
          case measure => omega
          case rel => exact ⟨4, rfl, by omega, by omega, HB5.out.step ⟨rfl, rfl, rfl, Nat.le_refl _, fun _ _ => rfl⟩⟩
        · have HH : Hid (_) := (show _ ∧ _ from ⟨h3, show _ ∧ _ from ⟨h4, h5⟩⟩)
          clear h3 h4 h5
          have c_l := (HB.out.box 0 _ _ rfl).lt
          have c_0 := (HB.out.box 0 _ _ rfl).cell 0 _ rfl
          have c_1 := (HB.out.box 0 _ _ rfl).cell 1 _ rfl
          have c_2 := (HB.out.box 0 _ _ rfl).cell 2 _ rfl
          have c_3 := (HB.out.box 0 _ _ rfl).cell 3 _ rfl
          have d_l := (HB.out.box 1 _ _ rfl).lt
          have d_0 := (HB.out.box 1 _ _ rfl).cell 0 _ rfl
          have d_1 := (HB.out.box 1 _ _ rfl).cell 1 _ rfl
          have d_2 := (HB.out.box 1 _ _ rfl).cell 2 _ rfl
          have d_3 := (HB.out.box 1 _ _ rfl).cell 3 _ rfl
          have e_l := (HB.out.box 2 _ _ rfl).lt
          have e_0 := (HB.out.box 2 _ _ rfl).cell 0 _ rfl
          have e_1 := (HB.out.box 2 _ _ rfl).cell 1 _ rfl
          have e_2 := (HB.out.box 2 _ _ rfl).cell 2 _ rfl
          have e_3 := (HB.out.box 2 _ _ rfl).cell 3 _ rfl
          have x_l := (HB.out.box 3 _ _ rfl).lt
          have x_0 := (HB.out.box 3 _ _ rfl).cell 0 _ rfl
          have x_1 := (HB.out.box 3 _ _ rfl).cell 1 _ rfl
          have x_2 := (HB.out.box 3 _ _ rfl).cell 2 _ rfl
          have x_3 := (HB.out.box 3 _ _ rfl).cell 3 _ rfl
          go_wp2_with fail
          go_big_quiet (fail)
          have HB5 : Hid (Bxs w _ (wr.drewN nq)) := HB.out.step ⟨rfl, rfl, rfl, Nat.le_refl _, fun _ _ => rfl⟩
          clear c_l c_0 c_1 c_2 c_3
          clear d_l d_0 d_1 d_2 d_3
          clear e_l e_0 e_1 e_2 e_3
          clear x_l x_0 x_1 x_2 x_3
          clear HB
          generalize wr.drewN nq = W5 at *
          have c_l := (HB5.out.box 0 _ _ rfl).lt
          have c_0 := (HB5.out.box 0 _ _ rfl).cell 0 _ rfl
          have c_1 := (HB5.out.box 0 _ _ rfl).cell 1 _ rfl
          have c_2 := (HB5.out.box 0 _ _ rfl).cell 2 _ rfl
          have c_3 := (HB5.out.box 0 _ _ rfl).cell 3 _ rfl
          have d_l := (HB5.out.box 1 _ _ rfl).lt
          have d_0 := (HB5.out.box 1 _ _ rfl).cell 0 _ rfl
          have d_1 := (HB5.out.box 1 _ _ rfl).cell 1 _ rfl
          have d_2 := (HB5.out.box 1 _ _ rfl).cell 2 _ rfl
          have d_3 := (HB5.out.box 1 _ _ rfl).cell 3 _ rfl
          have e_l := (HB5.out.box 2 _ _ rfl).lt
          have e_0 := (HB5.out.box 2 _ _ rfl).cell 0 _ rfl
          have e_1 := (HB5.out.box 2 _ _ rfl).cell 1 _ rfl
          have e_2 := (HB5.out.box 2 _ _ rfl).cell 2 _ rfl
          have e_3 := (HB5.out.box 2 _ _ rfl).cell 3 _ rfl
          have x_l := (HB5.out.box 3 _ _ rfl).lt
          have x_0 := (HB5.out.box 3 _ _ rfl).cell 0 _ rfl
          have x_1 := (HB5.out.box 3 _ _ rfl).cell 1 _ rfl
          have x_2 := (HB5.out.box 3 _ _ rfl).cell 2 _ rfl
          have x_3 := (HB5.out.box 3 _ _ rfl).cell 3 _ rfl
          clear nq
          go_wp2_with fail
          have g1 : decide (0 < F 3) = true := decide_eq_true (by have := HH.out; omega)
          have g2 : decide (F 3 < 0) = false := decide_eq_false (by have := HH.out; omega)
          have g3 : decide (O 3 < X 3) = false := decide_eq_false (by have := HH.out; omega)
          go_big_quiet (fail)
          go_wp2_with fail
          go_roundg (4 - (3 + 1) + 1)
          case measure => omega
          case rel => exact ⟨4, rfl, by omega, by omega, HB5.out.step ⟨rfl, rfl, rfl, Nat.le_refl _, fun _ _ => rfl⟩⟩
        · have HH : Hid (_) := (show _ ∧ _ from ⟨h3, show _ ∧ _ from ⟨h4, h5⟩⟩)
          clear h3 h4 h5
          have c_l := (HB.out.box 0 _ _ rfl).lt
          have c_0 := (HB.out.box 0 _ _ rfl).cell 0 _ rfl
          have c_1 := (HB.out.box 0 _ _ rfl).cell 1 _ rfl
          have c_2 := (HB.out.box 0 _ _ rfl).cell 2 _ rfl
          have c_3 := (HB.out.box 0 _ _ rfl).cell 3 _ rfl
          have d_l := (HB.out.box 1 _ _ rfl).lt
          have d_0 := (HB.out.box 1 _ _ rfl).cell 0 _ rfl
          have d_1 := (HB.out.box 1 _ _ rfl).cell 1 _ rfl
          have d_2 := (HB.out.box 1 _ _ rfl).cell 2 _ rfl
          have d_3 := (HB.out.box 1 _ _ rfl).cell 3 _ rfl
          have e_l := (HB.out.box 2 _ _ rfl).lt
          have e_0 := (HB.out.box 2 _ _ rfl).cell 0 _ rfl
          have e_1 := (HB.out.box 2 _ _ rfl).cell 1 _ rfl
          have e_2 := (HB.out.box 2 _ _ rfl).cell 2 _ rfl
          have e_3 := (HB.out.box 2 _ _ rfl).cell 3 _ rfl
          have x_l := (HB.out.box 3 _ _ rfl).lt
          have x_0 := (HB.out.box 3 _ _ rfl).cell 0 _ rfl
          have x_1 := (HB.out.box 3 _ _ rfl).cell 1 _ rfl
          have x_2 := (HB.out.box 3 _ _ rfl).cell 2 _ rfl
          have x_3 := (HB.out.box 3 _ _ rfl).cell 3 _ rfl
          go_wp2_with fail
          go_big_quiet (fail)
          have HB5 : Hid (Bxs w _ (wr.drewN nq)) := HB.out.step ⟨rfl, rfl, rfl, Nat.le_refl _, fun _ _ => rfl⟩
          clear c_l c_0 c_1 c_2 c_3
          clear d_l d_0 d_1 d_2 d_3
          clear e_l e_0 e_1 e_2 e_3
          clear x_l x_0 x_1 x_2 x_3
          clear HB
          generalize wr.drewN nq = W5 at *
          have c_l := (HB5.out.box 0 _ _ rfl).lt
          have c_0 := (HB5.out.box 0 _ _ rfl).cell 0 _ rfl
          have c_1 := (HB5.out.box 0 _ _ rfl).cell 1 _ rfl
          have c_2 := (HB5.out.box 0 _ _ rfl).cell 2 _ rfl
          have c_3 := (HB5.out.box 0 _ _ rfl).cell 3 _ rfl
          have d_l := (HB5.out.box 1 _ _ rfl).lt
          have d_0 := (HB5.out.box 1 _ _ rfl).cell 0 _ rfl
          have d_1 := (HB5.out.box 1 _ _ rfl).cell 1 _ rfl
          have d_2 := (HB5.out.box 1 _ _ rfl).cell 2 _ rfl
          have d_3 := (HB5.out.box 1 _ _ rfl).cell 3 _ rfl
          have e_l := (HB5.out.box 2 _ _ rfl).lt
          have e_0 := (HB5.out.box 2 _ _ rfl).cell 0 _ rfl
          have e_1 := (HB5.out.box 2 _ _ rfl).cell 1 _ rfl
          have e_2 := (HB5.out.box 2 _ _ rfl).cell 2 _ rfl
          have e_3 := (HB5.out.box 2 _ _ rfl).cell 3 _ rfl
          have x_l := (HB5.out.box 3 _ _ rfl).lt
          have x_0 := (HB5.out.box 3 _ _ rfl).cell 0 _ rfl
          have x_1 := (HB5.out.box 3 _ _ rfl).cell 1 _ rfl
          have x_2 := (HB5.out.box 3 _ _ rfl).cell 2 _ rfl
          have x_3 := (HB5.out.box 3 _ _ rfl).cell 3 _ rfl
          clear nq
          go_wp2_with fail
          have g1 : decide (0 < F 3) = false := decide_eq_false (by have := HH.out; omega)
          have g2 : decide (F 3 < 0) = true := decide_eq_true (by have := HH.out; omega)
          have g3 : decide (X 3 < O 3) = false := decide_eq_false (by have := HH.out; omega)
          go_big_quiet (fail)
          go_wp2_with fail
          go_roundg (4 - (3 + 1) + 1)
          case measure => omega
          case rel => exact ⟨4, rfl, by omega, by omega, HB5.out.step ⟨rfl, rfl, rfl, Nat.le_refl _, fun _ _ => rfl⟩⟩
        · have HH : Hid (_) := (show _ ∧ _ from ⟨h3, h4⟩)
          clear h3 h4
          have c_l := (HB.out.box 0 _ _ rfl).lt
          have c_0 := (HB.out.box 0 _ _ rfl).cell 0 _ rfl
          have c_1 := (HB.out.box 0 _ _ rfl).cell 1 _ rfl
          have c_2 := (HB.out.box 0 _ _ rfl).cell 2 _ rfl
          have c_3 := (HB.out.box 0 _ _ rfl).cell 3 _ rfl
          have d_l := (HB.out.box 1 _ _ rfl).lt
          have d_0 := (HB.out.box 1 _ _ rfl).cell 0 _ rfl
          have d_1 := (HB.out.box 1 _ _ rfl).cell 1 _ rfl
          have d_2 := (HB.out.box 1 _ _ rfl).cell 2 _ rfl
          have d_3 := (HB.out.box 1 _ _ rfl).cell 3 _ rfl
          have e_l := (HB.out.box 2 _ _ rfl).lt
          have e_0 := (HB.out.box 2 _ _ rfl).cell 0 _ rfl
          have e_1 := (HB.out.box 2 _ _ rfl).cell 1 _ rfl
          have e_2 := (HB.out.box 2 _ _ rfl).cell 2 _ rfl
          have e_3 := (HB.out.box 2 _ _ rfl).cell 3 _ rfl
          have x_l := (HB.out.box 3 _ _ rfl).lt
          have x_0 := (HB.out.box 3 _ _ rfl).cell 0 _ rfl
          have x_1 := (HB.out.box 3 _ _ rfl).cell 1 _ rfl
          have x_2 := (HB.out.box 3 _ _ rfl).cell 2 _ rfl
          have x_3 := (HB.out.box 3 _ _ rfl).cell 3 _ rfl
          go_wp2_with fail
          go_big_quiet (fail)
          have HB5 : Hid (Bxs w _ (wr.drewN nq)) := HB.out.step ⟨rfl, rfl, rfl, Nat.le_refl _, fun _ _ => rfl⟩
          clear c_l c_0 c_1 c_2 c_3
          clear d_l d_0 d_1 d_2 d_3
          clear e_l e_0 e_1 e_2 e_3
          clear x_l x_0 x_1 x_2 x_3
          clear HB
          generalize wr.drewN nq = W5 at *
          have c_l := (HB5.out.box 0 _ _ rfl).lt
          have c_0 := (HB5.out.box 0 _ _ rfl).cell 0 _ rfl
          have c_1 := (HB5.out.box 0 _ _ rfl).cell 1 _ rfl
          have c_2 := (HB5.out.box 0 _ _ rfl).cell 2 _ rfl
          have c_3 := (HB5.out.box 0 _ _ rfl).cell 3 _ rfl
          have d_l := (HB5.out.box 1 _ _ rfl).lt
          have d_0 := (HB5.out.box 1 _ _ rfl).cell 0 _ rfl
          have d_1 := (HB5.out.box 1 _ _ rfl).cell 1 _ rfl
          have d_2 := (HB5.out.box 1 _ _ rfl).cell 2 _ rfl
          have d_3 := (HB5.out.box 1 _ _ rfl).cell 3 _ rfl
          have e_l := (HB5.out.box 2 _ _ rfl).lt
          have e_0 := (HB5.out.box 2 _ _ rfl).cell 0 _ rfl
          have e_1 := (HB5.out.box 2 _ _ rfl).cell 1 _ rfl
          have e_2 := (HB5.out.box 2 _ _ rfl).cell 2 _ rfl
          have e_3 := (HB5.out.box 2 _ _ rfl).cell 3 _ rfl
          have x_l := (HB5.out.box 3 _ _ rfl).lt
          have x_0 := (HB5.out.box 3 _ _ rfl).cell 0 _ rfl
          have x_1 := (HB5.out.box 3 _ _ rfl).cell 1 _ rfl
          have x_2 := (HB5.out.box 3 _ _ rfl).cell 2 _ rfl
          have x_3 := (HB5.out.box 3 _ _ rfl).cell 3 _ rfl
          clear nq
          go_wp2_with fail
          have g1 : decide (0 < F 3) = false := decide_eq_false (by have := HH.out; omega)
          have g2 : decide (F 3 < 0) = false := decide_eq_false (by have := HH.out; omega)
          go_big_quiet (fail)
          go_wp2_with fail
          go_roundg (4 - (3 + 1) + 1)
          case measure => omega
          case rel => exact ⟨4, rfl, by omega, by omega, HB5.out.step ⟨rfl, rfl, rfl, Nat.le_refl _, fun _ _ => rfl⟩⟩
    · obtain rfl : j = 4 := by omega
      have c_l := (HB.out.box 2 _ _ rfl).lt
      have c_0 := (HB.out.box 2 _ _ rfl).cell 0 _ rfl
      have c_1 := (HB.out.box 2 _ _ rfl).cell 1 _ rfl
      have c_2 := (HB.out.box 2 _ _ rfl).cell 2 _ rfl
      have c_3 := (HB.out.box 2 _ _ rfl).cell 3 _ rfl
      have x_l := (HB.out.box 3 _ _ rfl).lt
      have x_0 := (HB.out.box 3 _ _ rfl).cell 0 _ rfl
      have x_1 := (HB.out.box 3 _ _ rfl).cell 1 _ rfl
      have x_2 := (HB.out.box 3 _ _ rfl).cell 2 _ rfl
      have x_3 := (HB.out.box 3 _ _ rfl).cell 3 _ rfl
      go_wp2_with fail
      refine (CK.out _).mono ?_
      rintro r w5 ⟨rfl, hb⟩
      have B5 : Hid (_) := HB.out.step hb
      clear hb
      go_wp2_with fail
      go_ret
      exact ⟨rfl, B5.out.bel⟩

set_option maxRecDepth 100000 in
theorem walk (off0 : Int) (off1 : Int) (off2 : Int) (off3 : Int) (fight0 : Int) (fight1 : Int) (fight2 : Int) (fight3 : Int) (modes0 : Int) (modes1 : Int) (modes2 : Int) (modes3 : Int) (n : Int) (m : Int) (w : World) (h_off0 : (Lit.int .i32 off0).wf = true) (h_off1 : (Lit.int .i32 off1).wf = true) (h_off2 : (Lit.int .i32 off2).wf = true) (h_off3 : (Lit.int .i32 off3).wf = true) (h_fight0 : (Lit.int .i32 fight0).wf = true) (h_fight1 : (Lit.int .i32 fight1).wf = true) (h_fight2 : (Lit.int .i32 fight2).wf = true) (h_fight3 : (Lit.int .i32 fight3).wf = true) (h_modes0 : (Lit.int .i64 modes0).wf = true) (h_modes1 : (Lit.int .i64 modes1).wf = true) (h_modes2 : (Lit.int .i64 modes2).wf = true) (h_modes3 : (Lit.int .i64 modes3).wf = true) (h_n : (Lit.int .i64 n).wf = true) (h_m : (Lit.int .i32 m).wf = true) :
    Calls Try.prog 4 #[.agg #[.int .i32 off0, .int .i32 off1, .int .i32 off2, .int .i32 off3], .agg #[.int .i32 fight0, .int .i32 fight1, .int .i32 fight2, .int .i32 fight3], .agg #[.int .i64 modes0, .int .i64 modes1, .int .i64 modes2, .int .i64 modes3], .int .i64 n, .int .i32 m] w fun e w' => e = .returned (.bool true) ∧ Below w.heap.size w w' := by
  have ho : Q4 off0 off1 off2 off3 := ⟨i32_of h_off0, i32_of h_off1, i32_of h_off2, i32_of h_off3⟩
  have hp : Q4 fight0 fight1 fight2 fight3 := ⟨i32_of h_fight0, i32_of h_fight1, i32_of h_fight2, i32_of h_fight3⟩
  have hm : I32 m := i32_of h_m
  by_cases h : OkE off0 off1 off2 off3 modes0 modes1 modes2 modes3 n m
  · obtain ⟨k, rfl⟩ : ∃ k : Nat, n = (k : Int) := ⟨n.toNat, by have := h.1.1; omega⟩
    have m0 := h.2.1
    have in32 : ∀ x, InE x m → I32 x := fun x hx => ⟨by have := hx.1; have := hm.2; omega, by have := hx.2; have := hm.2; omega⟩
    have h0 := asked_any (a := modes0) (f := fight0) (n := k) m0 hm h.2.2.2.1 ho.a
    have h1 := asked_any (a := modes1) (f := fight1) (n := k) m0 hm h.2.2.2.2.1 ho.b
    have h2 := asked_any (a := modes2) (f := fight2) (n := k) m0 hm h.2.2.2.2.2.1 ho.c
    have h3 := asked_any (a := modes3) (f := fight3) (n := k) m0 hm h.2.2.2.2.2.2 ho.d
    exact walk_ok (q4 off0 off1 off2 off3) (q4 fight0 fight1 fight2 fight3) (q4 modes0 modes1 modes2 modes3) (q4 (evN modes0 off0 fight0 k m) (evN modes1 off1 fight1 k m) (evN modes2 off2 fight2 k m) (evN modes3 off3 fight3 k m)) k m w m0 hm.2 (fun j hj => by
      obtain rfl | rfl | rfl | rfl := cases4 hj
      · exact ⟨h0.1, h0.2, ho.a, in32 _ h0.2⟩
      · exact ⟨h1.1, h1.2, ho.b, in32 _ h1.2⟩
      · exact ⟨h2.1, h2.2, ho.c, in32 _ h2.2⟩
      · exact ⟨h3.1, h3.2, ho.d, in32 _ h3.2⟩) (fun W => evStep_ok _ _ _ _ _ _ _ _ _ _ _ _ _ _ W h hm ho hp) (fun W => evCheck_ok _ _ _ _ _ _ _ _ _ _ W ⟨h.1, m0, h.2.2.1, h0.2, h1.2, h2.2, h3.2⟩ hm.2)
  · exact walk_bad _ _ _ _ _ _ _ _ _ _ _ _ _ _ w (fun W => evStep_bad _ _ _ _ _ _ _ _ _ _ _ _ _ _ W h hm.2)

/-! ### THE ROW's STEP -/
set_option maxRecDepth 100000 in
theorem lifted (os : Os) (started : os.Started) (H : Type) (enc : TypeId × Value → H) :
    ReturnsInHanded {} Try.checked os 4 .any (Rows.evenBoundsSpec.pre6 enc Try.prog Try.f4 Rows.evenBoundsRow.domain false) (Rows.evenBoundsSpec.post enc Try.prog Try.f4 false true false false) := by
  refine returnsInHanded_of_change_sized (C := Try.checked) own started (by kernel_rfl) Try.func4
    (ChangeSpec.witness6 (enc := enc) (C := Try.checked) false ⟨#[], #[.agg #[.int .i32 0, .int .i32 0, .int .i32 0, .int .i32 0], .agg #[.int .i32 0, .int .i32 0, .int .i32 0, .int .i32 0], .agg #[.int .i64 0, .int .i64 0, .int .i64 0, .int .i64 0], .int .i64 0, .int .i32 0], []⟩ 8 (by kernel_rfl) (by kernel_rfl) (by kernel_rfl) (by kernel_rfl)) ?_
  intro W base args ds gs before hval0 hW hcnd hsz0 _
  have hval : ∀ (j : Nat) t v, Try.f4.params[j]? = some t → args[j]? = some v → Value.okWide Try.prog W .any base t v := hval0
  have hW' := hW
  obtain ⟨p, q, hA0, hV, rfl, hfz, hnd⟩ := hW
  have hA : DataW.TrodAll enc Try.prog W 0 (fun _ => true) true Try.f4.params.toList args.toList ds p := hA0
  rw [Try.params4] at hA hval
  obtain ⟨v_0, vs_0, d_0, ds_0, p_0, q_0, hargs, rfl, rfl, h_0, r_0⟩ := trodAll_cons hA
  obtain ⟨v_1, vs_1, d_1, ds_1, p_1, q_1, rfl, rfl, rfl, h_1, r_1⟩ := trodAll_cons r_0
  obtain ⟨v_2, vs_2, d_2, ds_2, p_2, q_2, rfl, rfl, rfl, h_2, r_2⟩ := trodAll_cons r_1
  obtain ⟨v_3, vs_3, d_3, ds_3, p_3, q_3, rfl, rfl, rfl, h_3, r_3⟩ := trodAll_cons r_2
  obtain ⟨v_4, vs_4, d_4, ds_4, p_4, q_4, rfl, rfl, rfl, h_4, r_4⟩ := trodAll_cons r_3
  obtain ⟨rfl, rfl, rfl⟩ := trodAll_nil r_4
  obtain rfl : args = #[v_0, v_1, v_2, v_3, v_4] := by cases args; simp_all
  obtain ⟨rfl, rfl⟩ := trodVars_none hV
  have hz_0 : Light Try.prog 22 d_0 := light_of hsz0 (j := 0) (by first | rfl | (rw [Try.params4]; rfl)) rfl
  have k_0 := h_0
  have lt_0 : ∀ x ∈ p_0, x.block < W.heap.size := by obtain ⟨m, hm⟩ := k_0; exact DataW.trod_lt m _ _ _ hm
  obtain ⟨cs_0, rfl, _⟩ := okWide_array Try.underlying22 (hval 0 22 v_0 rfl rfl)
  obtain ⟨off0, off1, off2, off3, e_0, h_off0, h_off1, h_off2, h_off3⟩ := (by obtain ⟨fuel, hf⟩ := h_0; exact open22 hf hz_0 : ∃ off0 : Int, ∃ off1 : Int, ∃ off2 : Int, ∃ off3 : Int, cs_0.toList = [.int .i32 off0, .int .i32 off1, .int .i32 off2, .int .i32 off3] ∧ (Lit.int .i32 off0).wf = true ∧ (Lit.int .i32 off1).wf = true ∧ (Lit.int .i32 off2).wf = true ∧ (Lit.int .i32 off3).wf = true)
  obtain rfl : cs_0 = #[.int .i32 off0, .int .i32 off1, .int .i32 off2, .int .i32 off3] := by cases cs_0; simp_all
  clear e_0
  have hz_1 : Light Try.prog 22 d_1 := light_of hsz0 (j := 1) (by first | rfl | (rw [Try.params4]; rfl)) rfl
  have k_1 := h_1
  have lt_1 : ∀ x ∈ p_1, x.block < W.heap.size := by obtain ⟨m, hm⟩ := k_1; exact DataW.trod_lt m _ _ _ hm
  obtain ⟨cs_1, rfl, _⟩ := okWide_array Try.underlying22 (hval 1 22 v_1 rfl rfl)
  obtain ⟨fight0, fight1, fight2, fight3, e_1, h_fight0, h_fight1, h_fight2, h_fight3⟩ := (by obtain ⟨fuel, hf⟩ := h_1; exact open22 hf hz_1 : ∃ fight0 : Int, ∃ fight1 : Int, ∃ fight2 : Int, ∃ fight3 : Int, cs_1.toList = [.int .i32 fight0, .int .i32 fight1, .int .i32 fight2, .int .i32 fight3] ∧ (Lit.int .i32 fight0).wf = true ∧ (Lit.int .i32 fight1).wf = true ∧ (Lit.int .i32 fight2).wf = true ∧ (Lit.int .i32 fight3).wf = true)
  obtain rfl : cs_1 = #[.int .i32 fight0, .int .i32 fight1, .int .i32 fight2, .int .i32 fight3] := by cases cs_1; simp_all
  clear e_1
  have hz_2 : Light Try.prog 23 d_2 := light_of hsz0 (j := 2) (by first | rfl | (rw [Try.params4]; rfl)) rfl
  have k_2 := h_2
  have lt_2 : ∀ x ∈ p_2, x.block < W.heap.size := by obtain ⟨m, hm⟩ := k_2; exact DataW.trod_lt m _ _ _ hm
  obtain ⟨cs_2, rfl, _⟩ := okWide_array Try.underlying23 (hval 2 23 v_2 rfl rfl)
  obtain ⟨modes0, modes1, modes2, modes3, e_2, h_modes0, h_modes1, h_modes2, h_modes3⟩ := (by obtain ⟨fuel, hf⟩ := h_2; exact open23 hf hz_2 : ∃ modes0 : Int, ∃ modes1 : Int, ∃ modes2 : Int, ∃ modes3 : Int, cs_2.toList = [.int .i64 modes0, .int .i64 modes1, .int .i64 modes2, .int .i64 modes3] ∧ (Lit.int .i64 modes0).wf = true ∧ (Lit.int .i64 modes1).wf = true ∧ (Lit.int .i64 modes2).wf = true ∧ (Lit.int .i64 modes3).wf = true)
  obtain rfl : cs_2 = #[.int .i64 modes0, .int .i64 modes1, .int .i64 modes2, .int .i64 modes3] := by cases cs_2; simp_all
  clear e_2
  have hz_3 : Light Try.prog 3 d_3 := light_of hsz0 (j := 3) (by first | rfl | (rw [Try.params4]; rfl)) rfl
  have k_3 := h_3
  have lt_3 : ∀ x ∈ p_3, x.block < W.heap.size := by obtain ⟨m, hm⟩ := k_3; exact DataW.trod_lt m _ _ _ hm
  obtain ⟨n, rfl, rfl, rfl, h_n⟩ := open_int Try.underlying3 (hval 3 3 v_3 rfl rfl) h_3
  have hz_4 : Light Try.prog 21 d_4 := light_of hsz0 (j := 4) (by first | rfl | (rw [Try.params4]; rfl)) rfl
  have k_4 := h_4
  have lt_4 : ∀ x ∈ p_4, x.block < W.heap.size := by obtain ⟨m, hm⟩ := k_4; exact DataW.trod_lt m _ _ _ hm
  obtain ⟨m, rfl, rfl, rfl, h_m⟩ := open_int Try.underlying21 (hval 4 21 v_4 rfl rfl) h_4
  clear hA0 hval0
  refine (walk off0 off1 off2 off3 fight0 fight1 fight2 fight3 modes0 modes1 modes2 modes3 n m W h_off0 h_off1 h_off2 h_off3 h_fight0 h_fight1 h_fight2 h_fight3 h_modes0 h_modes1 h_modes2 h_modes3 h_n h_m).mono fun e W' ⟨he, bel⟩ => ?_
  subst he
  exact ⟨_, rfl, _, _, _, [], _, [], hW', trodAll_mk1 (shut_bool Try.underlying4 _), (trodAll_cons_mk (Below.trod laidOut (by kernel_rfl) (of_decide_eq_true (by kernel_rfl)) k_0 bel lt_0) (trodAll_cons_mk (Below.trod laidOut (by kernel_rfl) (of_decide_eq_true (by kernel_rfl)) k_1 bel lt_1) (trodAll_cons_mk (Below.trod laidOut (by kernel_rfl) (of_decide_eq_true (by kernel_rfl)) k_2 bel lt_2) (trodAll_cons_mk (Below.trod laidOut (by kernel_rfl) (of_decide_eq_true (by kernel_rfl)) k_3 bel lt_3) (trodAll_cons_mk (Below.trod laidOut (by kernel_rfl) (of_decide_eq_true (by kernel_rfl)) k_4 bel lt_4) trodAll_mk0))))), rfl, bel.frame _, fun h => by cases h⟩

theorem over : Rows.evenBoundsRow.holds Try.pinned (OpenSpec.ofChange Rows.evenBoundsSpec) :=
  OpenClaim.holds_of_wide 4 Try.f4 rfl rfl rfl rfl rfl rfl rfl ⟨rfl, rfl, rfl, rfl, rfl⟩ rfl rfl rfl rfl rfl (by kernel_rfl) Try.func4 (by kernel_rfl)
    (of_decide_eq_true (by kernel_rfl)) (by unfold Func.isWrapper; first | (rw [if_pos (by decide +kernel)]; kernel_rfl) | (rw [if_neg (by decide +kernel)]; exact ⟨rfl, rfl⟩))
    (fun os started H enc _ => lifted os started H enc)


end Go.Proofs.Ytfbokeekkbdblaa.evenBounds
namespace Go.Proofs.Ytfbokeekkbdblaa
/-- THE STATEMENT -/
theorem evenBounds_holds : Rows.EvenBoundsSaid := evenBounds.over
#print axioms evenBounds_holds
end Go.Proofs.Ytfbokeekkbdblaa
