/-
  slices.Equal of numbers.
-/
import Derived.Test.YtacophekhknbpaaSetEq
namespace Go.Proofs.Ytacophekhknbpaa
open Go.RowKit
set_option linter.unusedVariables false

set_option maxHeartbeats 1000000 in
theorem equalI_core (a1 a2 : Option Addr) (n c1 c2 : Nat) (l m : Nat → Int) (w : World) (hn : n ≤ 70368744177664) (hl : RowX .i64 w a1 n l) (hm : RowX .i64 w a2 n m) :
    Calls Try.prog 22 #[.slice a1 n c1, .slice a2 n c2] w fun e w' => e = .returned (.bool (eqX l m n)) ∧ ∃ d, w' = w.drewN d := by
  have HL : Hid (RowX .i64 w a1 n l) := hl
  have HM : Hid (RowX .i64 w a2 n m) := hm
  have HN : Hid (n ≤ 70368744177664) := hn
  clear hl hm hn
  go_enter Try.func22, Try.ntmps22
  go_wp2_with fail
  go_loopg [13] (n + 1) (fun g i wr => ∃ q d : Nat, i = .int .i64 q ∧ n - q < g ∧ q ≤ n ∧ wr = w.drewN d ∧ Hid (∀ k : Nat, k < q → l k = m k))
  case atStart => exact ⟨0, 0, rfl, by omega, by omega, rfl, fun k h => absurd h (by omega)⟩
  case round =>
    obtain ⟨j, d, rfl, hg, hj, rfl, S⟩ := hrel
    by_cases hlt : j < n
    · obtain ⟨b1, o1, rfl, h1, h2⟩ := HL.out (by omega)
      obtain ⟨b2, o2, rfl, h3, h4⟩ := HM.out (by omega)
      have x0 := h2 j hlt
      have x1 := h4 j hlt
      have j0 : (j : Int) < (n : Int) := by omega
      have j1 : (j : Int) < 70368744177664 := by have := HN.out; omega
      clear h2 h4
      by_cases e : l j = m j
      · have E : Hid (l j = m j) := e
        have q : (l j != m j) = false := by simpa using e
        clear e
        go_wp2_with fail
        go_quiet (fail)
        go_wp2_with fail
        go_roundg (n - (j + 1) + 1)
        case measure => omega
        case rel => exact ⟨j + 1, _, by go_num, by omega, by omega, rfl, fun k h => by
          by_cases e : k = j
          · subst e; exact E.out
          · exact S.out k (by omega)⟩
      · have R : Hid (eqX l m n = false) := eqX_no j hlt e
        have q : (l j != m j) = true := by simpa using e
        clear e
        go_wp2_with fail
        go_quiet (fail)
        go_wp2_with fail
        go_ret
        exact ⟨by rw [R.out]; rfl, _, World.drewN_drewN _ _ _⟩
    · have y1 : ¬ (j : Int) < (n : Int) := by omega
      have R : Hid (eqX l m n = true) := (eqX_iff l m n).2 (fun k h => S.out k (by omega))
      go_wp2_with fail
      go_ret
      exact ⟨by rw [R.out]; rfl, d, rfl⟩

set_option maxHeartbeats 400000 in
theorem equalI_len (a1 a2 : Option Addr) (n1 c1 n2 c2 : Nat) (w : World) (h : n1 ≠ n2) :
    Calls Try.prog 22 #[.slice a1 n1 c1, .slice a2 n2 c2] w fun e w' => e = .returned (.bool false) ∧ ∃ d, w' = w.drewN d := by
  go_enter Try.func22, Try.ntmps22
  go_wp2
  go_ret
  exact ⟨rfl, 0, rfl⟩
theorem equalI_any (a1 a2 : Option Addr) (n1 c1 n2 c2 : Nat) (l m : Nat → Int) (w : World) (hn : n1 ≤ 70368744177664) (hl : RowX .i64 w a1 n1 l) (hm : RowX .i64 w a2 n2 m) :
    Calls Try.prog 22 #[.slice a1 n1 c1, .slice a2 n2 c2] w fun e w' => e = .returned (.bool (decide (n1 = n2) && eqX l m n1)) ∧ Below w.heap.size w w' := by
  by_cases q : n1 = n2
  · subst q
    rw [decide_eq_true rfl, Bool.true_and]
    refine (equalI_core a1 a2 n1 c1 c2 l m w hn hl hm).mono ?_
    rintro e w' ⟨rfl, d, rfl⟩
    exact ⟨rfl, gbelow_drew (Below.refl _ _) d⟩
  · rw [decide_eq_false q, Bool.false_and]
    refine (equalI_len a1 a2 n1 c1 n2 c2 w q).mono ?_
    rintro e w' ⟨rfl, d, rfl⟩
    exact ⟨rfl, gbelow_drew (Below.refl _ _) d⟩

end Go.Proofs.Ytacophekhknbpaa
