/-
  Contracts of package lane: isMode, isEvent, Check, after; the document's LaneErr.
-/
import Derived.Test.YtnomceopmjlbhaaLanMap
import Derived.WalkSpells
import Derived.WalkLawsBesides
import Derived.Handy
namespace Go.Proofs.Ytnomceopmjlbhaa
open Go.RowKit
set_option linter.unusedVariables false

/-- what is wrong with a state -/
def lE (m : Int) (b : Bool) (n : Int) : Int := if (0 ≤ m ∧ m ≤ 3) ∧ 0 ≤ n ∧ n ≤ 10000 then (if (b = true ∧ m < 2) ∨ (b = false ∧ m = 2) then 4 else 0) else 1
theorem lE_arg {m : Int} (b : Bool) {n : Int} (h : ¬ ((0 ≤ m ∧ m ≤ 3) ∧ 0 ≤ n ∧ n ≤ 10000)) : lE m b n = 1 := by unfold lE; rw [if_neg h]
theorem lE_in {m : Int} (b : Bool) {n : Int} (h1 : 0 ≤ m ∧ m ≤ 3) (h2 : 0 ≤ n ∧ n ≤ 10000) : lE m b n = if (b = true ∧ m < 2) ∨ (b = false ∧ m = 2) then 4 else 0 := by unfold lE; rw [if_pos ⟨h1, h2⟩]
/-- the mode that comes of an event, whether it has failed then, and how long it has been so -/
def nM (m : Int) (b : Bool) (e : Int) : Int :=
  if e = 1 ∧ m = 0 then 1 else if (e = 2 ∨ e = 4) ∧ m = 1 then 0 else if e = 3 ∧ m < 2 then 2 else if e = 5 then 3 else if e = 6 ∧ m = 3 ∧ b = true then 2 else if e = 6 ∧ m = 3 then 0 else if e = 7 ∧ 1 < m then 0 else m
def nB (b : Bool) (e : Int) : Bool := if e = 3 then true else if e = 7 then false else b
def nF (m k n : Int) : Int := if k = m then n else 0

theorem lbox1 (w : World) (x : Obj) : Below w.heap.size w (w.alloc x) := (Below.refl _ w).alloc (Nat.le_refl _) _

set_option maxHeartbeats 400000 in
theorem isMode_in (m : Int) (w : World) (h1 : 0 ≤ m) (h2 : m ≤ 3) : Calls Try.prog 27 #[.int .i64 m] w fun e w' => e = .returned (.bool true) ∧ w' = w := by
  go_enter Try.func27, Try.ntmps27
  go_wp2_with fail
  go_ret
  exact ⟨rfl, rfl⟩

set_option maxHeartbeats 400000 in
theorem isMode_out (m : Int) (w : World) (h : m < 0 ∨ 3 < m) : Calls Try.prog 27 #[.int .i64 m] w fun e w' => e = .returned (.bool false) ∧ w' = w := by
  rcases Int.lt_or_le m 0 with h1 | h1
  · have h2 : ¬ 0 ≤ m := by omega
    go_enter Try.func27, Try.ntmps27
    go_wp2_with fail
    go_ret
    exact ⟨rfl, rfl⟩
  · have h2 : ¬ m ≤ 3 := by omega
    go_enter Try.func27, Try.ntmps27
    go_wp2_with fail
    go_ret
    exact ⟨rfl, rfl⟩

set_option maxHeartbeats 400000 in
theorem isEvent_in (m : Int) (w : World) (h1 : 1 ≤ m) (h2 : m ≤ 7) : Calls Try.prog 29 #[.int .i64 m] w fun e w' => e = .returned (.bool true) ∧ w' = w := by
  go_enter Try.func29, Try.ntmps29
  go_wp2_with fail
  go_ret
  exact ⟨rfl, rfl⟩

set_option maxHeartbeats 400000 in
theorem isEvent_out (m : Int) (w : World) (h : m < 1 ∨ 7 < m) : Calls Try.prog 29 #[.int .i64 m] w fun e w' => e = .returned (.bool false) ∧ w' = w := by
  rcases Int.lt_or_le m 1 with h1 | h1
  · have h2 : ¬ 1 ≤ m := by omega
    go_enter Try.func29, Try.ntmps29
    go_wp2_with fail
    go_ret
    exact ⟨rfl, rfl⟩
  · have h2 : ¬ m ≤ 7 := by omega
    go_enter Try.func29, Try.ntmps29
    go_wp2_with fail
    go_ret
    exact ⟨rfl, rfl⟩

theorem modes4 {m : Int} (h1 : 0 ≤ m) (h2 : m ≤ 3) : m = 0 ∨ m = 1 ∨ m = 2 ∨ m = 3 := by omega

set_option maxHeartbeats 4000000 in
theorem lcheck_any (m : Int) (b : Bool) (n : Int) (w : World) : Calls Try.prog 17 #[.agg #[.int .i64 m, .bool b, .int .i64 n]] w fun e w' => e = .returned (.int .i64 (lE m b n)) ∧ Below w.heap.size w w' := by
  by_cases h : 0 ≤ m ∧ m ≤ 3
  · by_cases h0 : n < 0
    · rw [lE_arg b (by omega)]
      go_enter Try.func17, Try.ntmps17
      go_wp2_with fail
      refine (isMode_in m _ h.1 h.2).mono ?_
      rintro e w1 ⟨rfl, rfl⟩
      go_wp2_with fail
      go_ret
      exact ⟨rfl, lbox1 _ _⟩
    · by_cases h1 : 10000 < n
      · rw [lE_arg b (by omega)]
        go_enter Try.func17, Try.ntmps17
        go_wp2_with fail
        refine (isMode_in m _ h.1 h.2).mono ?_
        rintro e w1 ⟨rfl, rfl⟩
        go_wp2_with fail
        go_ret
        exact ⟨rfl, lbox1 _ _⟩
      · rw [lE_in b h (by omega)]
        obtain ⟨h2, h3⟩ := h
        rcases modes4 h2 h3 with rfl | rfl | rfl | rfl <;> cases b
        all_goals
          simp only [Bool.false_eq_true, false_and, or_self, or_false, false_or, if_false, if_true, reduceCtorEq, Int.reduceLT, Int.reduceEq, and_self, and_false]
          go_enter Try.func17, Try.ntmps17
          go_wp2_with fail
          refine (isMode_in _ _ h2 h3).mono ?_
          rintro e w1 ⟨rfl, rfl⟩
          go_wp2_with fail
          go_ret
          exact ⟨rfl, lbox1 _ _⟩
  · rw [lE_arg b (by omega)]
    go_enter Try.func17, Try.ntmps17
    go_wp2_with fail
    refine (isMode_out m _ (by omega)).mono ?_
    rintro e w1 ⟨rfl, rfl⟩
    go_wp2_with fail
    go_ret
    exact ⟨rfl, lbox1 _ _⟩

set_option maxHeartbeats 4000000 in
theorem rlerr_any (m : Int) (b : Bool) (n : Int) (w : World) : Calls Try.prog 19 #[.agg #[.int .i64 m, .bool b, .int .i64 n]] w fun e w' => e = .returned (.int .i64 (lE m b n)) ∧ Below w.heap.size w w' := by
  by_cases h : 0 ≤ m ∧ m ≤ 3
  · by_cases h0 : n < 0
    · rw [lE_arg b (by omega)]
      go_enter Try.func19, Try.ntmps19
      go_wp2_with fail
      go_ret
      exact ⟨rfl, lbox1 _ _⟩
    · by_cases h1 : 10000 < n
      · rw [lE_arg b (by omega)]
        go_enter Try.func19, Try.ntmps19
        go_wp2_with fail
        go_ret
        exact ⟨rfl, lbox1 _ _⟩
      · rw [lE_in b h (by omega)]
        obtain ⟨h2, h3⟩ := h
        rcases modes4 h2 h3 with rfl | rfl | rfl | rfl <;> cases b
        all_goals
          simp only [Bool.false_eq_true, false_and, or_self, or_false, false_or, if_false, if_true, reduceCtorEq, Int.reduceLT, Int.reduceEq, and_self, and_false]
          go_enter Try.func19, Try.ntmps19
          go_wp2_with fail
          go_ret
          exact ⟨rfl, lbox1 _ _⟩
  · rcases Int.lt_or_le m 0 with h1 | h1
    · rw [lE_arg b (by omega)]
      go_enter Try.func19, Try.ntmps19
      go_wp2_with fail
      go_ret
      exact ⟨rfl, lbox1 _ _⟩
    · have h2 : 3 < m := by omega
      rw [lE_arg b (by omega)]
      go_enter Try.func19, Try.ntmps19
      go_wp2_with fail
      go_ret
      exact ⟨rfl, lbox1 _ _⟩

end Go.Proofs.Ytnomceopmjlbhaa
