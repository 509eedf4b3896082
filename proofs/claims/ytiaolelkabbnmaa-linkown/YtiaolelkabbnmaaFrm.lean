/-
  Contracts of frame.Check, word, words and the document's own FrameErr: memory that was there stays as it was.
-/
import Derived.Test.YtiaolelkabbnmaaCrcTell
import Derived.Test.YtiaolelkabbnmaaEqual
import Derived.OwnWalk
import Derived.Deep.AppendLies
import Derived.Deep.DeepCutAuto
namespace Go.Proofs.Ytiaolelkabbnmaa
open Go.RowKit
set_option linter.unusedVariables false

/-- what Check has against a frame -/
def frE (K L : Int) (n : Nat) : Int := if L < 0 ∨ 3 < L ∨ (K ≠ 1 ∧ K ≠ 2) then 1 else if 8 < n then 2 else 0
theorem frE_arg {K L : Int} {n : Nat} (h : L < 0 ∨ 3 < L ∨ (K ≠ 1 ∧ K ≠ 2)) : frE K L n = 1 := by unfold frE; rw [if_pos h]
theorem frE_large {K L : Int} {n : Nat} (h : 0 ≤ L ∧ L ≤ 3 ∧ (K = 1 ∨ K = 2)) (hn : 8 < n) : frE K L n = 2 := by unfold frE; rw [if_neg (by omega), if_pos hn]
theorem frE_ok {K L : Int} {n : Nat} (h : 0 ≤ L ∧ L ≤ 3 ∧ (K = 1 ∨ K = 2)) (hn : n ≤ 8) : frE K L n = 0 := by unfold frE; rw [if_neg (by omega), if_neg (by omega)]
theorem frE_cases (K L : Int) (n : Nat) : L < 0 ∨ (0 ≤ L ∧ 3 < L) ∨ (0 ≤ L ∧ L ≤ 3 ∧ K ≠ 1 ∧ K ≠ 2) ∨ (0 ≤ L ∧ L ≤ 3 ∧ K = 1 ∧ 8 < n) ∨ (0 ≤ L ∧ L ≤ 3 ∧ K = 1 ∧ n ≤ 8) ∨ (0 ≤ L ∧ L ≤ 3 ∧ K = 2 ∧ 8 < n) ∨ (0 ≤ L ∧ L ≤ 3 ∧ K = 2 ∧ n ≤ 8) := by omega
theorem frE_zero {K L : Int} {n : Nat} (h : frE K L n = 0) : (0 ≤ L ∧ L ≤ 3 ∧ (K = 1 ∨ K = 2)) ∧ n ≤ 8 := by
  rcases frE_cases K L n with g | g | g | g | g | g | g
  · rw [frE_arg (by omega)] at h; omega
  · rw [frE_arg (by omega)] at h; omega
  · rw [frE_arg (by omega)] at h; omega
  · rw [frE_large (by omega) (by omega)] at h; omega
  · omega
  · rw [frE_large (by omega) (by omega)] at h; omega
  · omega
theorem frE_mem (K L : Int) (n : Nat) : frE K L n = 0 ∨ frE K L n = 1 ∨ frE K L n = 2 := by
  unfold frE
  split
  · omega
  · split <;> omega

set_option maxHeartbeats 1000000 in
set_option maxRecDepth 100000 in
theorem check_any (K L S : Int) (a : Option Addr) (n c : Nat) (w : World) :
    Calls Try.prog 31 #[.agg #[.int .i64 K, .int .i64 L, .int .u8 S, .slice a n c]] w fun e w' => e = .returned (.int .i64 (frE K L n)) ∧ Below w.heap.size w w' := by
  go_enter Try.func31, Try.ntmps31
  rcases frE_cases K L n with g | g | ⟨g1, g2, g3, g4⟩ | ⟨g1, g2, rfl, g4⟩ | ⟨g1, g2, rfl, g4⟩ | ⟨g1, g2, rfl, g4⟩ | ⟨g1, g2, rfl, g4⟩
  · rw [frE_arg (by omega)]
    go_wp2
    go_ret
    exact ⟨rfl, (Below.refl _ w).alloc (Nat.le_refl _) _⟩
  · rw [frE_arg (by omega)]
    have q : L ≥ 4 := by omega
    have q0 : ¬ L < 0 := by omega
    go_wp2
    go_ret
    exact ⟨rfl, (Below.refl _ w).alloc (Nat.le_refl _) _⟩
  · rw [frE_arg (by omega)]
    have q : ¬ L ≥ 4 := by omega
    have q0 : ¬ L < 0 := by omega
    have q1 : (K != 1) = true := by simpa using g3
    have q2 : (K != 2) = true := by simpa using g4
    go_wp2
    go_ret
    exact ⟨rfl, (Below.refl _ w).alloc (Nat.le_refl _) _⟩
  · rw [frE_large (by omega) (by omega)]
    have q : ¬ L ≥ 4 := by omega
    have q0 : ¬ L < 0 := by omega
    have q1 : (8 : Int) < (n : Int) := by omega
    go_wp2
    go_ret
    exact ⟨rfl, (Below.refl _ w).alloc (Nat.le_refl _) _⟩
  · rw [frE_ok (by omega) (by omega)]
    have q : ¬ L ≥ 4 := by omega
    have q0 : ¬ L < 0 := by omega
    have q1 : ¬ (8 : Int) < (n : Int) := by omega
    go_wp2
    go_ret
    exact ⟨rfl, (Below.refl _ w).alloc (Nat.le_refl _) _⟩
  · rw [frE_large (by omega) (by omega)]
    have q : ¬ L ≥ 4 := by omega
    have q0 : ¬ L < 0 := by omega
    have q1 : (8 : Int) < (n : Int) := by omega
    go_wp2
    go_ret
    exact ⟨rfl, (Below.refl _ w).alloc (Nat.le_refl _) _⟩
  · rw [frE_ok (by omega) (by omega)]
    have q : ¬ L ≥ 4 := by omega
    have q0 : ¬ L < 0 := by omega
    have q1 : ¬ (8 : Int) < (n : Int) := by omega
    go_wp2
    go_ret
    exact ⟨rfl, (Below.refl _ w).alloc (Nat.le_refl _) _⟩

set_option maxHeartbeats 1000000 in
set_option maxRecDepth 100000 in
theorem rcheck_any (K L S : Int) (a : Option Addr) (n c : Nat) (w : World) :
    Calls Try.prog 26 #[.agg #[.int .i64 K, .int .i64 L, .int .u8 S, .slice a n c]] w fun e w' => e = .returned (.int .i64 (frE K L n)) ∧ Below w.heap.size w w' := by
  go_enter Try.func26, Try.ntmps26
  rcases frE_cases K L n with g | g | ⟨g1, g2, g3, g4⟩ | ⟨g1, g2, rfl, g4⟩ | ⟨g1, g2, rfl, g4⟩ | ⟨g1, g2, rfl, g4⟩ | ⟨g1, g2, rfl, g4⟩
  · rw [frE_arg (by omega)]
    go_wp2
    go_ret
    exact ⟨rfl, (Below.refl _ w).alloc (Nat.le_refl _) _⟩
  · rw [frE_arg (by omega)]
    have q : L > 3 := by omega
    have q0 : ¬ L < 0 := by omega
    go_wp2
    go_ret
    exact ⟨rfl, (Below.refl _ w).alloc (Nat.le_refl _) _⟩
  · rw [frE_arg (by omega)]
    have q : ¬ L > 3 := by omega
    have q0 : ¬ L < 0 := by omega
    have q1 : (K != 1) = true := by simpa using g3
    have q2 : (K != 2) = true := by simpa using g4
    go_wp2
    go_ret
    exact ⟨rfl, (Below.refl _ w).alloc (Nat.le_refl _) _⟩
  · rw [frE_large (by omega) (by omega)]
    have q : ¬ L > 3 := by omega
    have q0 : ¬ L < 0 := by omega
    have q1 : (8 : Int) < (n : Int) := by omega
    go_wp2
    go_ret
    exact ⟨rfl, (Below.refl _ w).alloc (Nat.le_refl _) _⟩
  · rw [frE_ok (by omega) (by omega)]
    have q : ¬ L > 3 := by omega
    have q0 : ¬ L < 0 := by omega
    have q1 : ¬ (8 : Int) < (n : Int) := by omega
    go_wp2
    go_ret
    exact ⟨rfl, (Below.refl _ w).alloc (Nat.le_refl _) _⟩
  · rw [frE_large (by omega) (by omega)]
    have q : ¬ L > 3 := by omega
    have q0 : ¬ L < 0 := by omega
    have q1 : (8 : Int) < (n : Int) := by omega
    go_wp2
    go_ret
    exact ⟨rfl, (Below.refl _ w).alloc (Nat.le_refl _) _⟩
  · rw [frE_ok (by omega) (by omega)]
    have q : ¬ L > 3 := by omega
    have q0 : ¬ L < 0 := by omega
    have q1 : ¬ (8 : Int) < (n : Int) := by omega
    go_wp2
    go_ret
    exact ⟨rfl, (Below.refl _ w).alloc (Nat.le_refl _) _⟩

end Go.Proofs.Ytiaolelkabbnmaa
