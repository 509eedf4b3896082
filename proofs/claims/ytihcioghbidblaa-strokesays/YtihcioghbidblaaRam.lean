/-
  Contracts of package ram: Check, areModes, howMany, ofActive, force. Of the memory that was there nothing turns.
-/
import Derived.Test.YtihcioghbidblaaFix
import Derived.Test.YtihcioghbidblaaBoxes
namespace Go.Proofs.Ytihcioghbidblaa
open Go.RowKit
set_option linter.unusedVariables false

/-- a body and a ram are right -/
def OkB (g d lo hi p : Int) : Prop := lo ≤ p ∧ p ≤ hi ∧ 0 ≤ g ∧ 0 ≤ d ∧ d ≤ 8
/-- a mode is one of the four -/
def OkM (m : Int) : Prop := 0 ≤ m ∧ m ≤ 3
/-- what an Active lane pushes, and nothing of any other -/
def act (m p : Int) : Int := if m = 1 then p else 0
/-- one, if it is the mode asked for -/
def isM (m k : Int) : Int := if m = k then 1 else 0
theorem act_yes (p : Int) : act 1 p = p := if_pos rfl
theorem act_no {m : Int} (h : ¬ m = 1) (p : Int) : act m p = 0 := if_neg h
theorem isM_yes (k : Int) : isM k k = 1 := if_pos rfl
theorem isM_no {m k : Int} (h : ¬ m = k) : isM m k = 0 := if_neg h
theorem isM_bd (m k : Int) : 0 ≤ isM m k ∧ isM m k ≤ 1 := by unfold isM; split <;> omega

set_option maxHeartbeats 1000000 in
theorem ramCheck_ok (g d lo hi p v : Int) (w : World) (h : OkB g d lo hi p) : Calls Try.prog 26 #[.agg #[.int .i32 g, .int .i64 d, .int .i32 lo, .int .i32 hi], .agg #[.int .i32 p, .int .i32 v]] w fun e w' => e = .returned (.int .i64 0) ∧ Below w.heap.size w w' := by
  obtain ⟨h1, h2, h3, h4, h5⟩ := h
  have q1 : ¬ g < 0 := by omega
  have q2 : ¬ d < 0 := by omega
  have q3 : ¬ 8 < d := by omega
  clear h3 h4 h5
  go_enter Try.func26, Try.ntmps26
  go_wp2_with fail
  go_ret
  exact ⟨rfl, ((Below.refl _ w).alloc (Nat.le_refl _) _).alloc (by simp) _⟩

set_option maxHeartbeats 2000000 in
theorem ramCheck_bad (g d lo hi p v : Int) (w : World) (h : ¬ OkB g d lo hi p) : Calls Try.prog 26 #[.agg #[.int .i32 g, .int .i64 d, .int .i32 lo, .int .i32 hi], .agg #[.int .i32 p, .int .i32 v]] w fun e w' => e = .returned (.int .i64 1) ∧ Below w.heap.size w w' := by
  by_cases h1 : lo ≤ p
  · by_cases h2 : p ≤ hi
    · by_cases h3 : g < 0
      · clear h
        go_enter Try.func26, Try.ntmps26
        go_wp2_with fail
        go_ret
        exact ⟨rfl, ((Below.refl _ w).alloc (Nat.le_refl _) _).alloc (by simp) _⟩
      · by_cases h4 : d < 0
        · clear h
          go_enter Try.func26, Try.ntmps26
          go_wp2_with fail
          go_ret
          exact ⟨rfl, ((Below.refl _ w).alloc (Nat.le_refl _) _).alloc (by simp) _⟩
        · have h5 : 8 < d := by
            by_cases q : 8 < d
            · exact q
            · exact absurd ⟨h1, h2, by omega, by omega, by omega⟩ h
          clear h
          go_enter Try.func26, Try.ntmps26
          go_wp2_with fail
          go_ret
          exact ⟨rfl, ((Below.refl _ w).alloc (Nat.le_refl _) _).alloc (by simp) _⟩
    · clear h
      go_enter Try.func26, Try.ntmps26
      go_wp2_with fail
      go_ret
      exact ⟨rfl, ((Below.refl _ w).alloc (Nat.le_refl _) _).alloc (by simp) _⟩
  · clear h
    go_enter Try.func26, Try.ntmps26
    go_wp2_with fail
    go_ret
    exact ⟨rfl, ((Below.refl _ w).alloc (Nat.le_refl _) _).alloc (by simp) _⟩

/-- reading an array of four by its place -/
theorem ixN (a b c d : Int) : (∀ w : World, (Instr.index 65 (.agg #[.int .i64 a, .int .i64 b, .int .i64 c, .int .i64 d]) (.int .i64 0)).run Try.prog w = .ok (.int .i64 a) w) ∧ (∀ w : World, (Instr.index 65 (.agg #[.int .i64 a, .int .i64 b, .int .i64 c, .int .i64 d]) (.int .i64 1)).run Try.prog w = .ok (.int .i64 b) w) ∧ (∀ w : World, (Instr.index 65 (.agg #[.int .i64 a, .int .i64 b, .int .i64 c, .int .i64 d]) (.int .i64 2)).run Try.prog w = .ok (.int .i64 c) w) ∧ (∀ w : World, (Instr.index 65 (.agg #[.int .i64 a, .int .i64 b, .int .i64 c, .int .i64 d]) (.int .i64 3)).run Try.prog w = .ok (.int .i64 d) w) :=
  ⟨fun _ => by kernel_rfl, fun _ => by kernel_rfl, fun _ => by kernel_rfl, fun _ => by kernel_rfl⟩
theorem ixI (a b c d : Int) : (∀ w : World, (Instr.index 64 (.agg #[.int .i32 a, .int .i32 b, .int .i32 c, .int .i32 d]) (.int .i64 0)).run Try.prog w = .ok (.int .i32 a) w) ∧ (∀ w : World, (Instr.index 64 (.agg #[.int .i32 a, .int .i32 b, .int .i32 c, .int .i32 d]) (.int .i64 1)).run Try.prog w = .ok (.int .i32 b) w) ∧ (∀ w : World, (Instr.index 64 (.agg #[.int .i32 a, .int .i32 b, .int .i32 c, .int .i32 d]) (.int .i64 2)).run Try.prog w = .ok (.int .i32 c) w) ∧ (∀ w : World, (Instr.index 64 (.agg #[.int .i32 a, .int .i32 b, .int .i32 c, .int .i32 d]) (.int .i64 3)).run Try.prog w = .ok (.int .i32 d) w) :=
  ⟨fun _ => by kernel_rfl, fun _ => by kernel_rfl, fun _ => by kernel_rfl, fun _ => by kernel_rfl⟩

set_option maxHeartbeats 2000000 in
theorem areModes_ok (a b c d : Int) (w : World) (ha : OkM a) (hb : OkM b) (hc : OkM c) (hd : OkM d) : Calls Try.prog 45 #[.agg #[.int .i64 a, .int .i64 b, .int .i64 c, .int .i64 d]] w fun e w' => e = .returned (.bool true) ∧ Below w.heap.size w w' := by
  have a1 : ¬ a < 0 := by have := ha.1; omega
  have a2 : ¬ 3 < a := by have := ha.2; omega
  have b1 : ¬ b < 0 := by have := hb.1; omega
  have b2 : ¬ 3 < b := by have := hb.2; omega
  have c1 : ¬ c < 0 := by have := hc.1; omega
  have c2 : ¬ 3 < c := by have := hc.2; omega
  have d1 : ¬ d < 0 := by have := hd.1; omega
  have d2 : ¬ 3 < d := by have := hd.2; omega
  clear ha hb hc hd
  obtain ⟨i0, i1, i2, i3⟩ := ixN a b c d
  go_enter Try.func45, Try.ntmps45
  go_wp2_with fail
  go_rounds 5
  go_returns
  exact ⟨rfl, by go_grown⟩

theorem okM_cases (m : Int) : m < 0 ∨ (¬ m < 0 ∧ 3 < m) ∨ (¬ m < 0 ∧ ¬ 3 < m) := by omega

set_option maxHeartbeats 8000000 in
theorem areModes_bad (a b c d : Int) (w : World) (h : ¬ (OkM a ∧ OkM b ∧ OkM c ∧ OkM d)) : Calls Try.prog 45 #[.agg #[.int .i64 a, .int .i64 b, .int .i64 c, .int .i64 d]] w fun e w' => e = .returned (.bool false) ∧ Below w.heap.size w w' := by
  rcases okM_cases a with a1 | ⟨a1, a2⟩ | ⟨a1, a2⟩
  · clear h
    obtain ⟨i0, i1, i2, i3⟩ := ixN a b c d
    go_enter Try.func45, Try.ntmps45
    go_wp2_with fail
    go_rounds 1
    go_returns
    exact ⟨rfl, by go_grown⟩
  · clear h
    obtain ⟨i0, i1, i2, i3⟩ := ixN a b c d
    go_enter Try.func45, Try.ntmps45
    go_wp2_with fail
    go_rounds 1
    go_returns
    exact ⟨rfl, by go_grown⟩
  · rcases okM_cases b with b1 | ⟨b1, b2⟩ | ⟨b1, b2⟩
    · clear h
      obtain ⟨i0, i1, i2, i3⟩ := ixN a b c d
      go_enter Try.func45, Try.ntmps45
      go_wp2_with fail
      go_rounds 2
      go_returns
      exact ⟨rfl, by go_grown⟩
    · clear h
      obtain ⟨i0, i1, i2, i3⟩ := ixN a b c d
      go_enter Try.func45, Try.ntmps45
      go_wp2_with fail
      go_rounds 2
      go_returns
      exact ⟨rfl, by go_grown⟩
    · rcases okM_cases c with c1 | ⟨c1, c2⟩ | ⟨c1, c2⟩
      · clear h
        obtain ⟨i0, i1, i2, i3⟩ := ixN a b c d
        go_enter Try.func45, Try.ntmps45
        go_wp2_with fail
        go_rounds 3
        go_returns
        exact ⟨rfl, by go_grown⟩
      · clear h
        obtain ⟨i0, i1, i2, i3⟩ := ixN a b c d
        go_enter Try.func45, Try.ntmps45
        go_wp2_with fail
        go_rounds 3
        go_returns
        exact ⟨rfl, by go_grown⟩
      · rcases okM_cases d with d1 | ⟨d1, d2⟩ | ⟨d1, d2⟩
        · clear h
          obtain ⟨i0, i1, i2, i3⟩ := ixN a b c d
          go_enter Try.func45, Try.ntmps45
          go_wp2_with fail
          go_rounds 4
          go_returns
          exact ⟨rfl, by go_grown⟩
        · clear h
          obtain ⟨i0, i1, i2, i3⟩ := ixN a b c d
          go_enter Try.func45, Try.ntmps45
          go_wp2_with fail
          go_rounds 4
          go_returns
          exact ⟨rfl, by go_grown⟩
        · exact absurd ⟨⟨by omega, by omega⟩, ⟨by omega, by omega⟩, ⟨by omega, by omega⟩, by omega, by omega⟩ h

theorem isM_cases (m k : Int) : (m == k) = true ∧ isM m k = 1 ∨ (m == k) = false ∧ isM m k = 0 := by
  by_cases h : m = k
  · left
    exact ⟨by simp [h], by rw [h]; exact isM_yes k⟩
  · right
    exact ⟨by simp [h], isM_no h⟩

set_option maxHeartbeats 8000000 in
theorem howMany_any (a b c d k : Int) (w : World) : Calls Try.prog 48 #[.agg #[.int .i64 a, .int .i64 b, .int .i64 c, .int .i64 d], .int .i64 k] w fun e w' => e = .returned (.int .i64 (isM a k + isM b k + isM c k + isM d k)) ∧ Below w.heap.size w w' := by
  obtain ⟨q1, e1⟩ | ⟨q1, e1⟩ := isM_cases a k <;> obtain ⟨q2, e2⟩ | ⟨q2, e2⟩ := isM_cases b k <;> obtain ⟨q3, e3⟩ | ⟨q3, e3⟩ := isM_cases c k <;> obtain ⟨q4, e4⟩ | ⟨q4, e4⟩ := isM_cases d k <;>
    (rw [e1, e2, e3, e4]
     clear e1 e2 e3 e4
     show Calls Try.prog 48 #[.agg #[.int .i64 a, .int .i64 b, .int .i64 c, .int .i64 d], .int .i64 k] w fun e w' => e = .returned (.int .i64 _) ∧ Below w.heap.size w w'
     obtain ⟨i0, i1, i2, i3⟩ := ixN a b c d
     go_enter Try.func48, Try.ntmps48
     go_wp2_with fail
     go_rounds 5
     go_returns
     exact ⟨rfl, by go_grown⟩)

theorem act_cases (m p : Int) : (m != 1) = false ∧ act m p = p ∨ (m != 1) = true ∧ act m p = 0 := by
  by_cases h : m = 1
  · left
    exact ⟨by simp [h], by rw [h]; exact act_yes p⟩
  · right
    exact ⟨by simp [h], act_no h p⟩

set_option maxHeartbeats 8000000 in
theorem ofActive_any (p0 p1 p2 p3 a b c d : Int) (w : World) : Calls Try.prog 46 #[.agg #[.int .i32 p0, .int .i32 p1, .int .i32 p2, .int .i32 p3], .agg #[.int .i64 a, .int .i64 b, .int .i64 c, .int .i64 d]] w fun e w' => e = .returned (.agg #[.int .i32 (act a p0), .int .i32 (act b p1), .int .i32 (act c p2), .int .i32 (act d p3)]) ∧ Below w.heap.size w w' := by
  obtain ⟨q1, e1⟩ | ⟨q1, e1⟩ := act_cases a p0 <;> obtain ⟨q2, e2⟩ | ⟨q2, e2⟩ := act_cases b p1 <;> obtain ⟨q3, e3⟩ | ⟨q3, e3⟩ := act_cases c p2 <;> obtain ⟨q4, e4⟩ | ⟨q4, e4⟩ := act_cases d p3 <;>
    (rw [e1, e2, e3, e4]
     clear e1 e2 e3 e4
     obtain ⟨i0, i1, i2, i3⟩ := ixN a b c d
     go_enter Try.func46, Try.ntmps46
     go_wp2_with fail
     go_rounds 5
     go_returns
     exact ⟨rfl, by go_grown⟩)

end Go.Proofs.Ytihcioghbidblaa
