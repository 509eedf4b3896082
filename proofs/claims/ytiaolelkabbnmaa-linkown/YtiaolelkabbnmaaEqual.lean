/-
  Contract of slices.Equal on slices of numbers of 32 bits: as long as each other, and the same numbers.
-/
import Derived.Test.YtiaolelkabbnmaaTab
namespace Go.Proofs.Ytiaolelkabbnmaa
open Go.RowKit

def eqB (l m : Nat → Int) (n : Nat) : Bool := (List.range n).all fun k => decide (l k = m k)
theorem eqB_iff (l m : Nat → Int) (n : Nat) : eqB l m n = true ↔ ∀ k : Nat, k < n → l k = m k := by
  unfold eqB
  rw [List.all_eq_true]
  constructor
  · intro h k hk
    have := h k (List.mem_range.2 hk)
    simpa using this
  · intro h k hk
    simpa using h k (List.mem_range.1 hk)
theorem eqB_no {l m : Nat → Int} {n : Nat} (k : Nat) (hk : k < n) (h : l k ≠ m k) : eqB l m n = false := by
  rw [Bool.eq_false_iff]
  intro h'
  exact h ((eqB_iff l m n).1 h' k hk)

set_option maxHeartbeats 400000 in
theorem equal_len (a1 a2 : Option Addr) (n1 c1 n2 c2 : Nat) (w : World) (h : n1 ≠ n2) :
    Calls Try.prog 15 #[.slice a1 n1 c1, .slice a2 n2 c2] w fun e w' => e = .returned (.bool false) ∧ ∃ d, w' = w.drewN d := by
  go_enter Try.func15, Try.ntmps15
  go_wp2
  go_ret
  exact ⟨rfl, 0, rfl⟩

set_option maxHeartbeats 400000 in
theorem equal_none (a1 a2 : Option Addr) (c1 c2 : Nat) (w : World) :
    Calls Try.prog 15 #[.slice a1 0 c1, .slice a2 0 c2] w fun e w' => e = .returned (.bool true) ∧ ∃ d, w' = w.drewN d := by
  go_enter Try.func15, Try.ntmps15
  go_wp2
  refine wp_loop_rounds 1 ?_
  rw [rounds_succ]
  go_wp2
  go_ret
  exact ⟨rfl, 0, rfl⟩

set_option maxHeartbeats 400000 in
theorem equal_any (b1 o1 b2 o2 n c1 c2 : Nat) (l m : Nat → Int) (w : World) (hn : n ≤ 70368744177664) (hl : Row32 w b1 o1 n l) (hm : Row32 w b2 o2 n m) :
    Calls Try.prog 15 #[.slice (some ⟨b1, o1, none⟩) n c1, .slice (some ⟨b2, o2, none⟩) n c2] w fun e w' => e = .returned (.bool (eqB l m n)) ∧ ∃ d, w' = w.drewN d := by
  unfold Row32 at hl hm
  go_enter Try.func15, Try.ntmps15
  go_wp2
  go_loopw [13] (fun i wr => ∃ j d : Nat, j ≤ n ∧ i = .int .i64 j ∧ wr = w.drewN d ∧ ∀ k : Nat, k < j → l k = m k) (fun i _ => n - (intOf i).toNat)
  case atStart => exact ⟨0, 0, by omega, rfl, rfl, fun k h => absurd h (by omega)⟩
  case round =>
    obtain ⟨j, d, hj, rfl, rfl, hs⟩ := hrel
    have S : Hid (∀ k : Nat, k < j → l k = m k) := hs
    clear hs
    by_cases hlt : j < n
    · have x0 := hl j hlt
      have x1 := hm j hlt
      have j0 : (j : Int) < (n : Int) := by omega
      clear hl hm
      by_cases e : l j = m j
      · have E : Hid (l j = m j) := e
        have q : (l j != m j) = false := by simpa using e
        clear e
        go_wp2
        go_quiet (fail)
        go_wp2
        go_roundw
        case rel => exact ⟨j + 1, _, by omega, by go_num, rfl, fun k h => by
          by_cases e : k = j
          · subst e; exact E.out
          · exact S.out k (by omega)⟩
        case measure => simp [intOf]; omega
      · have R : Hid (eqB l m n = false) := eqB_no j hlt e
        have q : (l j != m j) = true := by simpa using e
        clear e
        go_wp2
        go_quiet (fail)
        go_wp2
        go_ret
        exact ⟨by rw [R.out]; rfl, _, World.drewN_drewN _ _ _⟩
    · have R : Hid (eqB l m n = true) := (eqB_iff l m n).2 (fun k h => S.out k (by omega))
      clear hl hm
      go_wp2
      go_ret
      exact ⟨by rw [R.out]; rfl, d, rfl⟩

end Go.Proofs.Ytiaolelkabbnmaa
