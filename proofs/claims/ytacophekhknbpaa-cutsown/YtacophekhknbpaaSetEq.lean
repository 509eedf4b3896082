/-
  slices.Equal of sets, and of numbers.
-/
import Derived.Test.YtacophekhknbpaaGat
import Derived.Test.YtacophekhknbpaaSetRow
namespace Go.Proofs.Ytacophekhknbpaa
open Go.RowKit
set_option linter.unusedVariables false

def eqX (l m : Nat → Int) (n : Nat) : Bool := (List.range n).all fun k => decide (l k = m k)
theorem eqX_iff (l m : Nat → Int) (n : Nat) : eqX l m n = true ↔ ∀ k : Nat, k < n → l k = m k := by
  unfold eqX
  rw [List.all_eq_true]
  constructor
  · intro h k hk
    have := h k (List.mem_range.2 hk)
    simpa using this
  · intro h k hk
    simpa using h k (List.mem_range.1 hk)
theorem eqX_no {l m : Nat → Int} {n : Nat} (k : Nat) (hk : k < n) (h : l k ≠ m k) : eqX l m n = false := by
  rw [Bool.eq_false_iff]
  intro h'
  exact h ((eqX_iff l m n).1 h' k hk)
/-- n numbers of a kind that lie one behind another in memory that is there, or none -/
def RowX (k : IntKind) (w : World) (a : Option Addr) (n : Nat) (f : Nat → Int) : Prop := 0 < n → ∃ b o, a = some ⟨b, o, none⟩ ∧ b < w.heap.size ∧ ∀ j, j < n → w.cell? ⟨b, o + j, none⟩ = some (.int k (f j))
theorem RS.x {w : World} {a : Option Addr} {n : Nat} {f : Nat → Nat} (h : RS w a n f) : RowX .u16 w a n (fun j => (f j : Nat)) := h
theorem RI.x {w : World} {a : Option Addr} {n : Nat} {f : Nat → Int} (h : RI w a n f) : RowX .i64 w a n f := h

set_option maxHeartbeats 1000000 in
theorem equalU_core (a1 a2 : Option Addr) (n c1 c2 : Nat) (l m : Nat → Int) (w : World) (hn : n ≤ 70368744177664) (hl : RowX .u16 w a1 n l) (hm : RowX .u16 w a2 n m) :
    Calls Try.prog 18 #[.slice a1 n c1, .slice a2 n c2] w fun e w' => e = .returned (.bool (eqX l m n)) ∧ ∃ d, w' = w.drewN d := by
  have HL : Hid (RowX .u16 w a1 n l) := hl
  have HM : Hid (RowX .u16 w a2 n m) := hm
  have HN : Hid (n ≤ 70368744177664) := hn
  clear hl hm hn
  go_enter Try.func18, Try.ntmps18
  go_wp2_with fail
  go_loopg [13] (n + 1) (fun g i wr => ∃ q d : Nat, i = .int .i64 q ∧ n - q < g ∧ q ≤ n ∧ wr = w.drewN d ∧ Hid (∀ k : Nat, k < q → l k = m k))
  case atStart => exact ⟨0, 0, rfl, by omega, by omega, rfl, fun k h => absurd h (by omega)⟩
  case round =>
    obtain ⟨j, d, rfl, hg, hj, rfl, S⟩ := hrel
    by_cases hlt : j < n
    · obtain ⟨b1, o1, rfl, h1, h2⟩ := HL.out (by omega)
      obtain ⟨b2, o2, rfl, h3, h4⟩ := HM.out (by omega)
      have x0 := h2 j hlt
      have x1 := h4 j hlt
      have j0 : (j : Int) < (n : Int) := by omega
      have j1 : (j : Int) < 70368744177664 := by have := HN.out; omega
      clear h2 h4
      by_cases e : l j = m j
      · have E : Hid (l j = m j) := e
        have q : (l j != m j) = false := by simpa using e
        clear e
        go_wp2_with fail
        go_quiet (fail)
        go_wp2_with fail
        go_roundg (n - (j + 1) + 1)
        case measure => omega
        case rel => exact ⟨j + 1, _, by go_num, by omega, by omega, rfl, fun k h => by
          by_cases e : k = j
          · subst e; exact E.out
          · exact S.out k (by omega)⟩
      · have R : Hid (eqX l m n = false) := eqX_no j hlt e
        have q : (l j != m j) = true := by simpa using e
        clear e
        go_wp2_with fail
        go_quiet (fail)
        go_wp2_with fail
        go_ret
        exact ⟨by rw [R.out]; rfl, _, World.drewN_drewN _ _ _⟩
    · have y1 : ¬ (j : Int) < (n : Int) := by omega
      have R : Hid (eqX l m n = true) := (eqX_iff l m n).2 (fun k h => S.out k (by omega))
      go_wp2_with fail
      go_ret
      exact ⟨by rw [R.out]; rfl, d, rfl⟩

set_option maxHeartbeats 400000 in
theorem equalU_len (a1 a2 : Option Addr) (n1 c1 n2 c2 : Nat) (w : World) (h : n1 ≠ n2) :
    Calls Try.prog 18 #[.slice a1 n1 c1, .slice a2 n2 c2] w fun e w' => e = .returned (.bool false) ∧ ∃ d, w' = w.drewN d := by
  go_enter Try.func18, Try.ntmps18
  go_wp2
  go_ret
  exact ⟨rfl, 0, rfl⟩
theorem equalU_any (a1 a2 : Option Addr) (n1 c1 n2 c2 : Nat) (l m : Nat → Int) (w : World) (hn : n1 ≤ 70368744177664) (hl : RowX .u16 w a1 n1 l) (hm : RowX .u16 w a2 n2 m) :
    Calls Try.prog 18 #[.slice a1 n1 c1, .slice a2 n2 c2] w fun e w' => e = .returned (.bool (decide (n1 = n2) && eqX l m n1)) ∧ Below w.heap.size w w' := by
  by_cases q : n1 = n2
  · subst q
    rw [decide_eq_true rfl, Bool.true_and]
    refine (equalU_core a1 a2 n1 c1 c2 l m w hn hl hm).mono ?_
    rintro e w' ⟨rfl, d, rfl⟩
    exact ⟨rfl, gbelow_drew (Below.refl _ _) d⟩
  · rw [decide_eq_false q, Bool.false_and]
    refine (equalU_len a1 a2 n1 c1 n2 c2 w q).mono ?_
    rintro e w' ⟨rfl, d, rfl⟩
    exact ⟨rfl, gbelow_drew (Below.refl _ _) d⟩

theorem eq_lists (l1 l2 : List Nat) : (decide (l1.length = l2.length) && eqX (fun j => ((l1.getD j 0 : Nat) : Int)) (fun j => ((l2.getD j 0 : Nat) : Int)) l1.length) = decide (l1 = l2) := by
  rw [Bool.eq_iff_iff, Bool.and_eq_true, decide_eq_true_iff, decide_eq_true_iff, eqX_iff]
  constructor
  · rintro ⟨h1, h2⟩
    apply List.ext_getElem h1
    intro i hi1 hi2
    have h3 : l1.getD i 0 = l2.getD i 0 := Int.ofNat.inj (h2 i hi1)
    rw [List.getD_eq_getElem?_getD, List.getElem?_eq_getElem hi1, List.getD_eq_getElem?_getD, List.getElem?_eq_getElem hi2] at h3
    exact h3
  · rintro rfl
    exact ⟨rfl, fun k _ => rfl⟩
/-- two rows of sets -/
theorem equalL_any (l1 l2 : List Nat) (a1 a2 : Option Addr) (c1 c2 : Nat) (w : World) (hn : l1.length ≤ 70368744177664) (h1 : RS w a1 l1.length (fun j => l1.getD j 0)) (h2 : RS w a2 l2.length (fun j => l2.getD j 0)) :
    Calls Try.prog 18 #[.slice a1 l1.length c1, .slice a2 l2.length c2] w fun e w' => e = .returned (.bool (decide (l1 = l2))) ∧ Below w.heap.size w w' := by
  have := equalU_any a1 a2 l1.length c1 l2.length c2 _ _ w hn h1.x h2.x
  rw [eq_lists] at this
  exact this

end Go.Proofs.Ytacophekhknbpaa
