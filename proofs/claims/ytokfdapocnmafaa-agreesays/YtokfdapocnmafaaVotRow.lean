/-
  Numbers and bools that lie somewhere, or none; how many are one number: vote.howMany; the majority: vote.Majority and the document's own.
-/
import Derived.Test.YtokfdapocnmafaaMid
import Derived.Test.YtokfdapocnmafaaKeep
namespace Go.Proofs.Ytokfdapocnmafaa
open Go.RowKit
set_option linter.unusedVariables false

/-- n numbers that lie one behind another in memory that is there; or none -/
def R32 (w : World) (a : Option Addr) (n : Nat) (l : Nat → Int) : Prop := 0 < n → ∃ b off, a = some ⟨b, off, none⟩ ∧ b < w.heap.size ∧ ∀ j : Nat, j < n → w.cell? ⟨b, off + j, none⟩ = some (.int .i32 (l j))
/-- n bools that lie one behind another in memory that is there; or none -/
def RBo (w : World) (a : Option Addr) (n : Nat) (l : Nat → Bool) : Prop := 0 < n → ∃ b off, a = some ⟨b, off, none⟩ ∧ b < w.heap.size ∧ ∀ j : Nat, j < n → w.cell? ⟨b, off + j, none⟩ = some (.bool (l j))
theorem R32.step {w w' : World} {a : Option Addr} {n : Nat} {l : Nat → Int} (h : R32 w a n l) (hb : Below w.heap.size w w') : R32 w' a n l := fun hn => by
  obtain ⟨b, off, rfl, h1, h2⟩ := h hn
  exact ⟨b, off, rfl, Nat.lt_of_lt_of_le h1 hb.size, fun j hj => (hb.cell (p := ⟨b, off + j, none⟩) h1).trans (h2 j hj)⟩
theorem RBo.step {w w' : World} {a : Option Addr} {n : Nat} {l : Nat → Bool} (h : RBo w a n l) (hb : Below w.heap.size w w') : RBo w' a n l := fun hn => by
  obtain ⟨b, off, rfl, h1, h2⟩ := h hn
  exact ⟨b, off, rfl, Nat.lt_of_lt_of_le h1 hb.size, fun j hj => (hb.cell (p := ⟨b, off + j, none⟩) h1).trans (h2 j hj)⟩

/-- m is what more than half are, E = 0; or none is, E = 11, m = 0 -/
def Maj (l : Nat → Int) (n : Nat) (m E : Int) : Prop := (E = 0 ∧ n < 2 * cnt (eqI m) l n) ∨ (E = 11 ∧ m = 0 ∧ ∀ x, 2 * cnt (eqI x) l n ≤ n)
theorem maj_there (l : Nat → Int) (n : Nat) : ∃ m E, Maj l n m E := by
  by_cases h : ∃ x, n < 2 * cnt (eqI x) l n
  · obtain ⟨x, hx⟩ := h
    exact ⟨x, 0, Or.inl ⟨rfl, hx⟩⟩
  · refine ⟨0, 11, Or.inr ⟨rfl, rfl, fun x => ?_⟩⟩
    rcases Nat.lt_or_ge n (2 * cnt (eqI x) l n) with q | q
    · exact absurd ⟨x, q⟩ h
    · exact q
theorem cnt_two {x y : Int} (l : Nat → Int) (h : x ≠ y) (n : Nat) : cnt (eqI x) l n + cnt (eqI y) l n ≤ n := by
  induction n with
  | zero => exact Nat.le_refl _
  | succ n ih =>
    rw [cnt_succ, cnt_succ]
    unfold eqI at *
    by_cases e : l n = x
    · rw [if_pos (by simpa using e), if_neg (by simp; omega)]; omega
    · rw [if_neg (by simpa using e)]
      split <;> omega
/-- whoever of them is more than half is m -/
theorem Maj.one {l : Nat → Int} {n : Nat} {m E x : Int} (h : Maj l n m E) (hx : n < 2 * cnt (eqI x) l n) : x = m ∧ E = 0 := by
  rcases h with ⟨h1, h2⟩ | ⟨_, _, h2⟩
  · refine ⟨?_, h1⟩
    by_cases e : x = m
    · exact e
    · have := cnt_two l e n
      omega
  · exact absurd (h2 x) (by omega)
/-- what is not yet met -/
theorem Maj.last {l : Nat → Int} {n : Nat} {m E : Int} (h : Maj l n m E) (hs : ∀ i, i < n → 2 * cnt (eqI (l i)) l n ≤ n) : m = 0 ∧ E = 11 := by
  rcases h with ⟨h1, h2⟩ | ⟨h1, h2, _⟩
  · obtain ⟨i, hi, e⟩ := cnt_some (p := eqI m) (l := l) (n := n) (by omega)
    have e2 : l i = m := by simpa [eqI] using e
    have := hs i hi
    rw [e2] at this
    omega
  · exact ⟨h2, h1⟩
theorem eqI_yes {x y : Int} {l : Nat → Int} {n : Nat} (h : l n = x) : cnt (eqI x) l (n + 1) = cnt (eqI x) l n + 1 := by
  rw [cnt_succ, if_pos (by unfold eqI; simpa using h)]
theorem eqI_no {x : Int} {l : Nat → Int} {n : Nat} (h : ¬ l n = x) : cnt (eqI x) l (n + 1) = cnt (eqI x) l n := by
  rw [cnt_succ, if_neg (by unfold eqI; simpa using h)]; rfl

set_option maxHeartbeats 1000000 in
theorem howMany_any (a : Option Addr) (n c : Nat) (l : Nat → Int) (x : Int) (w : World) (hn : n ≤ 64) (h : R32 w a n l) :
    Calls Try.prog 22 #[.slice a n c, .int .i32 x] w fun e w' => e = .returned (.int .i64 (cnt (eqI x) l n : Nat)) ∧ w' = w := by
  have HR : Hid (R32 w a n l) := h
  clear h
  go_enter Try.func22, Try.ntmps22
  go_wp2_with fail
  go_loopg [5, 10] (n + 1) (fun g s u wr => ∃ q : Nat, s = .int .i64 (cnt (eqI x) l q : Nat) ∧ u = .int .i64 q ∧ n - q < g ∧ q ≤ n ∧ wr = w)
  case atStart => exact ⟨0, rfl, rfl, by omega, by omega, rfl⟩
  case round =>
    obtain ⟨q, rfl, rfl, hg, hq, rfl⟩ := hrel
    have c1 := cnt_le (eqI x) l q
    by_cases hlt : q < n
    · have z1 : (q : Int) < (n : Int) := by omega
      obtain ⟨b, off, rfl, hb, hc⟩ := HR.out (by omega)
      have x0 := hc q hlt
      clear hc
      by_cases e : l q = x
      · have E1 : Hid (cnt (eqI x) l (q + 1) = cnt (eqI x) l q + 1) := eqI_yes (y := x) e
        have b1 : (l q == x) = true := by simpa using e
        clear e
        generalize l q = y at x0 b1
        generalize cnt (eqI x) l q = A at c1 E1 ⊢
        go_wp2_with fail
        go_roundg (n - (q + 1) + 1)
        case measure => omega
        case rel => exact ⟨q + 1, by rw [E1.out]; go_num, by go_num, by omega, by omega, rfl⟩
      · have E1 : Hid (cnt (eqI x) l (q + 1) = cnt (eqI x) l q) := eqI_no e
        have b1 : (l q == x) = false := by simpa using e
        clear e
        generalize l q = y at x0 b1
        generalize cnt (eqI x) l q = A at c1 E1 ⊢
        go_wp2_with fail
        go_roundg (n - (q + 1) + 1)
        case measure => omega
        case rel => exact ⟨q + 1, by rw [E1.out], by go_num, by omega, by omega, rfl⟩
    · have z1 : ¬ (q : Int) < (n : Int) := by omega
      obtain rfl : q = n := by omega
      go_wp2_with fail
      go_ret
      exact ⟨rfl, rfl⟩

set_option maxHeartbeats 1000000 in
theorem majority_large (a : Option Addr) (n c : Nat) (h : 64 < n) (w : World) : Calls Try.prog 19 #[.slice a n c] w fun e w' => e = .returned (.tuple #[.int .i32 0, .int .i64 2]) ∧ w' = w := by
  have z2 : (64 : Int) < (n : Int) := by omega
  go_enter Try.func19, Try.ntmps19
  go_wp2_with fail
  go_ret2
  exact ⟨rfl, rfl⟩

set_option maxHeartbeats 1000000 in
theorem rmajority_large (a : Option Addr) (n c : Nat) (h : 64 < n) (w : World) : Calls Try.prog 17 #[.slice a n c] w fun e w' => e = .returned (.tuple #[.int .i32 0, .int .i64 2]) ∧ w' = w := by
  have z2 : (64 : Int) < (n : Int) := by omega
  go_enter Try.func17, Try.ntmps17
  go_wp2_with fail
  go_ret2
  exact ⟨rfl, rfl⟩

set_option maxHeartbeats 1000000 in
theorem majority_any (a : Option Addr) (n c : Nat) (l : Nat → Int) (m E : Int) (w : World) (hn : n ≤ 64) (h : R32 w a n l) (hM : Maj l n m E) :
    Calls Try.prog 19 #[.slice a n c] w fun e w' => e = .returned (.tuple #[.int .i32 m, .int .i64 E]) ∧ w' = w := by
  have HR : Hid (R32 w a n l) := h
  have HM : Hid (Maj l n m E) := hM
  clear h hM
  have z0 : ¬ (64 : Int) < (n : Int) := by omega
  go_enter Try.func19, Try.ntmps19
  go_wp2_with fail
  go_loopg [11] (n + 1) (fun g u wr => ∃ q : Nat, u = .int .i64 q ∧ n - q < g ∧ q ≤ n ∧ wr = w ∧ Hid (∀ i, i < q → 2 * cnt (eqI (l i)) l n ≤ n))
  case atStart => exact ⟨0, rfl, by omega, by omega, rfl, fun i hi => absurd hi (by omega)⟩
  case round =>
    obtain ⟨q, rfl, hg, hq, rfl, HS⟩ := hrel
    by_cases hlt : q < n
    · have z1 : (q : Int) < (n : Int) := by omega
      obtain ⟨b, off, rfl, hb, hc⟩ := HR.out (by omega)
      have x0 := hc q hlt
      clear hc
      have c1 := cnt_le (eqI (l q)) l n
      have C := howMany_any (some ⟨b, off, none⟩) n c l (l q) wr hn HR.out
      obtain ⟨A, hA⟩ : ∃ A, A = cnt (eqI (l q)) l n := ⟨_, rfl⟩
      rw [← hA] at C c1
      by_cases e : n < 2 * A
      · have E1 : Hid (l q = m ∧ E = 0) := HM.out.one (by rw [← hA]; exact e)
        have e2 : (n : Int) < 2 * (A : Int) := by omega
        clear hA e
        generalize l q = y at x0 E1 C
        go_wp2_with fail
        refine C.mono ?_
        rintro r w1 ⟨rfl, rfl⟩
        go_wp2_with fail
        go_ret2
        exact ⟨by rw [E1.out.1, E1.out.2]; rfl, rfl⟩
      · have E1 : Hid (2 * cnt (eqI (l q)) l n ≤ n) := by rw [← hA]; show _ ≤ _; omega
        have e2 : ¬ (n : Int) < 2 * (A : Int) := by omega
        clear hA e
        generalize hy : l q = y at x0 E1 C
        have HY : Hid (l q = y) := hy
        clear hy
        go_wp2_with fail
        refine C.mono ?_
        rintro r w1 ⟨rfl, rfl⟩
        go_wp2_with fail
        go_roundg (n - (q + 1) + 1)
        case measure => omega
        case rel => exact ⟨q + 1, by go_num, by omega, by omega, rfl, fun i hi => by
          by_cases e : i = q
          · subst e; rw [HY.out]; exact E1.out
          · exact HS.out i (by omega)⟩
    · have z1 : ¬ (q : Int) < (n : Int) := by omega
      obtain rfl : q = n := by omega
      have E1 : Hid (m = 0 ∧ E = 11) := HM.out.last HS.out
      go_wp2_with fail
      go_ret2
      exact ⟨by rw [E1.out.1, E1.out.2]; rfl, rfl⟩

set_option maxHeartbeats 4000000 in
set_option maxRecDepth 100000 in
theorem rmajority_any (a : Option Addr) (n c : Nat) (l : Nat → Int) (m E : Int) (w : World) (hn : n ≤ 64) (h : R32 w a n l) (hM : Maj l n m E) :
    Calls Try.prog 17 #[.slice a n c] w fun e w' => e = .returned (.tuple #[.int .i32 m, .int .i64 E]) ∧ w' = w := by
  have HR : Hid (R32 w a n l) := h
  have HM : Hid (Maj l n m E) := hM
  clear h hM
  have z0 : ¬ (64 : Int) < (n : Int) := by omega
  go_enter Try.func17, Try.ntmps17
  go_wp2_with fail
  go_loopg [14] (n + 1) (fun g u wr => ∃ j : Nat, u = .int .i64 j ∧ n - j < g ∧ j ≤ n ∧ wr = w ∧ Hid (∀ i, i < j → 2 * cnt (eqI (l i)) l n ≤ n))
  case atStart => exact ⟨0, rfl, by omega, by omega, rfl, fun i hi => absurd hi (by omega)⟩
  case round =>
    obtain ⟨j, rfl, hg, hj, rfl, HS⟩ := hrel
    by_cases hlt : j < n
    · have z1 : (j : Int) < (n : Int) := by omega
      obtain ⟨b, off, rfl, hb, hc⟩ := HR.out (by omega)
      have HC : Hid (∀ j : Nat, j < n → wr.cell? ⟨b, off + j, none⟩ = some (.int .i32 (l j))) := hc
      have x0 := hc j hlt
      clear hc
      obtain ⟨x, hx⟩ : ∃ x, x = l j := ⟨_, rfl⟩
      rw [← hx] at x0
      have HX : Hid (x = l j) := hx
      clear hx
      go_wp2_with fail
      go_loopg [6, 20] (n + 1) (fun g s u wr2 => ∃ q : Nat, s = .int .i64 (cnt (eqI x) l q : Nat) ∧ u = .int .i64 q ∧ n - q < g ∧ q ≤ n ∧ wr2 = wr)
      case atStart => exact ⟨0, rfl, rfl, by omega, by omega, rfl⟩
      case round =>
        obtain ⟨q, rfl, rfl, hg2, hq, rfl⟩ := hrel
        have c1 := cnt_le (eqI x) l q
        by_cases hlt2 : q < n
        · have z2 : (q : Int) < (n : Int) := by omega
          have x1 := HC.out q hlt2
          clear x0
          by_cases e : l q = x
          · have E1 : Hid (cnt (eqI x) l (q + 1) = cnt (eqI x) l q + 1) := eqI_yes (y := x) e
            have b1 : (x == l q) = true := by simpa using e.symm
            clear e
            generalize l q = y at x1 b1
            generalize cnt (eqI x) l q = A at c1 E1 ⊢
            go_wp2_with fail
            go_roundg (n - (q + 1) + 1)
            case measure => omega
            case rel => exact ⟨q + 1, by rw [E1.out]; go_num, by go_num, by omega, by omega, rfl⟩
          · have E1 : Hid (cnt (eqI x) l (q + 1) = cnt (eqI x) l q) := eqI_no e
            have b1 : (x == l q) = false := by simpa using fun h => e h.symm
            clear e
            generalize l q = y at x1 b1
            generalize cnt (eqI x) l q = A at c1 E1 ⊢
            go_wp2_with fail
            go_roundg (n - (q + 1) + 1)
            case measure => omega
            case rel => exact ⟨q + 1, by rw [E1.out], by go_num, by omega, by omega, rfl⟩
        · have z2 : ¬ (q : Int) < (n : Int) := by omega
          obtain rfl : q = n := by omega
          obtain ⟨A, hA⟩ : ∃ A, A = cnt (eqI x) l q := ⟨_, rfl⟩
          rw [← hA] at c1 ⊢
          by_cases e : q < 2 * A
          · have E1 : Hid (x = m ∧ E = 0) := HM.out.one (by rw [← hA]; exact e)
            have e2 : (q : Int) - (A : Int) < (A : Int) := by omega
            clear hA e
            go_wp2_with fail
            go_ret2
            exact ⟨by rw [E1.out.1, E1.out.2]; rfl, rfl⟩
          · have E1 : Hid (2 * cnt (eqI (l j)) l q ≤ q) := by rw [← HX.out, ← hA]; show _ ≤ _; omega
            have e2 : ¬ (q : Int) - (A : Int) < (A : Int) := by omega
            clear hA e
            go_wp2_with fail
            go_roundg (q - (j + 1) + 1)
            case measure => omega
            case rel => exact ⟨j + 1, by go_num, by omega, by omega, rfl, fun i hi => by
              by_cases e : i = j
              · subst e; exact E1.out
              · exact HS.out i (by omega)⟩
    · have z1 : ¬ (j : Int) < (n : Int) := by omega
      obtain rfl : j = n := by omega
      have E1 : Hid (m = 0 ∧ E = 11) := HM.out.last HS.out
      go_wp2_with fail
      go_ret2
      exact ⟨by rw [E1.out.1, E1.out.2]; rfl, rfl⟩

end Go.Proofs.Ytokfdapocnmafaa
