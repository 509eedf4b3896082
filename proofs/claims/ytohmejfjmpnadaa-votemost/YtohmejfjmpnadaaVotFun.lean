/-
  The functions that the law VoteMost makes: how many are x; is y more than half; slices.ContainsFunc where it is so of none.
-/
import Derived.Test.YtohmejfjmpnadaaVotRow
namespace Go.Proofs.Ytohmejfjmpnadaa
open Go.RowKit
set_option linter.unusedVariables false

set_option maxHeartbeats 1000000 in
theorem have_any (B : Nat) (a : Option Addr) (n c : Nat) (l : Nat → Int) (x : Int) (w : World) (hn : n ≤ 64) (hB : w.cell? ⟨B, 0, none⟩ = some (.slice a n c)) (h : R32 w a n l) :
    Calls Try.prog 14 #[.int .i32 x, .pointer (some ⟨B, 0, none⟩)] w fun e w' => e = .returned (.int .i64 (cnt (eqI x) l n : Nat)) ∧ w' = w := by
  have HR : Hid (R32 w a n l) := h
  clear h
  go_enter Try.func14, Try.ntmps14
  go_wp2_with fail
  clear hB
  go_loopg [4, 9] (n + 1) (fun g s u wr => ∃ q : Nat, s = .int .i64 (cnt (eqI x) l q : Nat) ∧ u = .int .i64 q ∧ n - q < g ∧ q ≤ n ∧ wr = w)
  case atStart => exact ⟨0, rfl, rfl, by omega, by omega, rfl⟩
  case round =>
    obtain ⟨q, rfl, rfl, hg, hq, rfl⟩ := hrel
    have c1 := cnt_le (eqI x) l q
    by_cases hlt : q < n
    · have z1 : (q : Int) < (n : Int) := by omega
      obtain ⟨b, off, rfl, hb, hc⟩ := HR.out (by omega)
      have x0 := hc q hlt
      clear hc
      by_cases e : l q = x
      · have E1 : Hid (cnt (eqI x) l (q + 1) = cnt (eqI x) l q + 1) := eqI_yes (y := x) e
        have b1 : (x == l q) = true := by simpa using e.symm
        clear e
        generalize l q = y at x0 b1
        generalize cnt (eqI x) l q = A at c1 E1 ⊢
        go_wp2_with fail
        go_roundg (n - (q + 1) + 1)
        case measure => omega
        case rel => exact ⟨q + 1, by rw [E1.out]; go_num, by go_num, by omega, by omega, rfl⟩
      · have E1 : Hid (cnt (eqI x) l (q + 1) = cnt (eqI x) l q) := eqI_no e
        have b1 : (x == l q) = false := by simpa using fun h => e h.symm
        clear e
        generalize l q = y at x0 b1
        generalize cnt (eqI x) l q = A at c1 E1 ⊢
        go_wp2_with fail
        go_roundg (n - (q + 1) + 1)
        case measure => omega
        case rel => exact ⟨q + 1, by rw [E1.out], by go_num, by omega, by omega, rfl⟩
    · have z1 : ¬ (q : Int) < (n : Int) := by omega
      obtain rfl : q = n := by omega
      go_wp2_with fail
      go_ret
      exact ⟨rfl, rfl⟩

set_option maxHeartbeats 1000000 in
set_option maxRecDepth 100000 in
theorem half_no (B F : Nat) (a : Option Addr) (n c : Nat) (l : Nat → Int) (y : Int) (w : World) (hn : n ≤ 64) (hB : w.cell? ⟨B, 0, none⟩ = some (.slice a n c)) (hF : w.cell? ⟨F, 0, none⟩ = some (.func (.func 14) #[] #[.pointer (some ⟨B, 0, none⟩)])) (h : R32 w a n l) (hy : 2 * cnt (eqI y) l n ≤ n) :
    Calls Try.prog 16 #[.int .i32 y, .pointer (some ⟨F, 0, none⟩), .pointer (some ⟨B, 0, none⟩)] w fun e w' => e = .returned (.bool false) ∧ ∃ d, w' = w.drewN d := by
  have C : ∀ d, Calls Try.prog 14 #[.int .i32 y, .pointer (some ⟨B, 0, none⟩)] (w.drewN d) fun e w' => e = .returned (.int .i64 (cnt (eqI y) l n : Nat)) ∧ w' = w.drewN d := fun d => have_any B a n c l y (w.drewN d) hn hB h
  have c1 := cnt_le (eqI y) l n
  clear h
  generalize cnt (eqI y) l n = A at C c1 hy
  have ZD : Hid (decide ((n : Int) < 2 * (A : Int)) = false) := decide_eq_false (by omega)
  go_enter Try.func16, Try.ntmps16
  go_wp2_with fail
  go_quiet ((go_at_call 14; exact (C _).mono fun _ _ h => ⟨h.1, _, h.2⟩))
  go_wp2
  go_ret
  exact ⟨by rw [ZD.out]; rfl, _, rfl⟩

set_option maxHeartbeats 1000000 in
set_option maxRecDepth 100000 in
theorem indexFunc_no (B F : Nat) (a : Option Addr) (n c : Nat) (l : Nat → Int) (w : World) (hn : n ≤ 64) (hB : w.cell? ⟨B, 0, none⟩ = some (.slice a n c)) (hF : w.cell? ⟨F, 0, none⟩ = some (.func (.func 14) #[] #[.pointer (some ⟨B, 0, none⟩)])) (h : R32 w a n l) (hy : ∀ y, 2 * cnt (eqI y) l n ≤ n) :
    Calls Try.prog 29 #[.slice a n c, .func (.func 16) #[] #[.pointer (some ⟨F, 0, none⟩), .pointer (some ⟨B, 0, none⟩)]] w fun e w' => e = .returned (.int .i64 (-1)) ∧ ∃ d, w' = w.drewN d := by
  have C : ∀ y d, Calls Try.prog 16 #[.int .i32 y, .pointer (some ⟨F, 0, none⟩), .pointer (some ⟨B, 0, none⟩)] (w.drewN d) fun e w' => e = .returned (.bool false) ∧ ∃ d2, w' = (w.drewN d).drewN d2 := fun y d => half_no B F a n c l y (w.drewN d) hn hB hF h (hy y)
  have HR : Hid (R32 w a n l) := h
  clear h hy hB hF
  go_enter Try.func29, Try.ntmps29
  go_wp2_with fail
  go_loopg [8] (n + 1) (fun g u wr => ∃ q d : Nat, u = .int .i64 q ∧ n - q < g ∧ q ≤ n ∧ wr = w.drewN d)
  case atStart => exact ⟨0, 0, rfl, by omega, by omega, rfl⟩
  case round =>
    obtain ⟨q, d, rfl, hg, hq, rfl⟩ := hrel
    by_cases hlt : q < n
    · have z1 : (q : Int) < (n : Int) := by omega
      obtain ⟨b, off, rfl, hb, hc⟩ := HR.out (by omega)
      have x0 : (w.drewN d).cell? ⟨b, off + q, none⟩ = some (.int .i32 (l q)) := hc q hlt
      have C1 := C (l q) d
      clear hc C
      generalize l q = y at x0 C1
      go_wp2_with (go_at_call 16; refine C1.mono ?_; rintro e w2 ⟨rfl, d2, rfl⟩)
      go_roundg (n - (q + 1) + 1)
      case measure => omega
      case rel => exact ⟨q + 1, d + d2, by go_num, by omega, by omega, rfl⟩
    · have z1 : ¬ (q : Int) < (n : Int) := by omega
      obtain rfl : q = n := by omega
      go_wp2_with fail
      go_ret
      exact ⟨rfl, d, rfl⟩

set_option maxHeartbeats 1000000 in
set_option maxRecDepth 100000 in
theorem containsFunc_no (B F : Nat) (a : Option Addr) (n c : Nat) (l : Nat → Int) (w : World) (hn : n ≤ 64) (hB : w.cell? ⟨B, 0, none⟩ = some (.slice a n c)) (hF : w.cell? ⟨F, 0, none⟩ = some (.func (.func 14) #[] #[.pointer (some ⟨B, 0, none⟩)])) (h : R32 w a n l) (hy : ∀ y, 2 * cnt (eqI y) l n ≤ n) :
    Calls Try.prog 15 #[.slice a n c, .func (.func 16) #[] #[.pointer (some ⟨F, 0, none⟩), .pointer (some ⟨B, 0, none⟩)]] w fun e w' => e = .returned (.bool false) ∧ ∃ d, w' = w.drewN d := by
  have C := indexFunc_no B F a n c l w hn hB hF h hy
  clear hB hF h hy
  go_enter Try.func15, Try.ntmps15
  go_wp2_with fail
  refine C.mono ?_
  rintro e w1 ⟨rfl, d, rfl⟩
  go_wp2_with fail
  go_ret
  exact ⟨rfl, d, rfl⟩

end Go.Proofs.Ytohmejfjmpnadaa
