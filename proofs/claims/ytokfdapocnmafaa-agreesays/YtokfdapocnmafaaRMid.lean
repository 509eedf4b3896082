/-
  Contract: the document's own answer of the middle one (steadref.Middle), by counting.
-/
import Derived.Test.YtokfdapocnmafaaMid
namespace Go.Proofs.Ytokfdapocnmafaa
open Go.RowKit
set_option linter.unusedVariables false

set_option maxHeartbeats 4000000 in
set_option maxRecDepth 100000 in
theorem rmiddle_any (b off n c : Nat) (l : Nat → Int) (m : Int) (w : World) (hn : 0 < n) (hm : n ≤ 64) (hM : IsMid l n m) (hl : ∀ t, t < n → w.cell? ⟨b, off + t, none⟩ = some (.int .i32 (l t))) :
    Calls Try.prog 10 #[.slice (some ⟨b, off, none⟩) n c] w fun e w' => e = .returned (.tuple #[.int .i32 m, .int .i64 0]) ∧ w' = w := by
  obtain ⟨i0, hi0, e0⟩ := mid_in hM
  have HM : Hid (IsMid l n m) := hM
  have E0 : Hid (l i0 = m) := e0
  have y1 : ¬ (n : Int) = 0 := by omega
  have y2 : ¬ (64 : Int) < (n : Int) := by omega
  obtain ⟨k, hk⟩ : ∃ k : Nat, k = (n - 1) / 2 := ⟨_, rfl⟩
  have zk : ((n : Int) - 1) / 2 = (k : Int) := by omega
  have HK : Hid (k = (n - 1) / 2) := hk
  clear hM e0 hk
  go_enter Try.func10, Try.ntmps10
  go_wp2_with fail
  go_loopg [19] (n + 1) (fun g s wr => ∃ j : Nat, s = .int .i64 j ∧ n - j < g ∧ j ≤ i0 ∧ wr = w)
  case atStart => exact ⟨0, rfl, by omega, by omega, rfl⟩
  case round =>
    obtain ⟨j, rfl, hg, hj, rfl⟩ := hrel
    have z1 : (j : Int) < (n : Int) := by omega
    have x0 := hl j (by omega)
    obtain ⟨x, hx⟩ : ∃ x, x = l j := ⟨_, rfl⟩
    rw [← hx] at x0
    have HX : Hid (x = l j) := hx
    clear hx
    go_wp2_with fail
    go_loopg [6, 7, 25] (n + 1) (fun g s t u wr2 => ∃ q : Nat, s = .int .i64 (cnt (ltB x) l q : Nat) ∧ t = .int .i64 (cnt (eqI x) l q : Nat) ∧ u = .int .i64 q ∧ n - q < g ∧ q ≤ n ∧ wr2 = wr)
    case atStart => exact ⟨0, rfl, rfl, rfl, by omega, by omega, rfl⟩
    case round =>
      obtain ⟨q, rfl, rfl, rfl, hg2, hq, rfl⟩ := hrel
      have c1 := cnt_le (ltB x) l q
      have c2 := cnt_le (eqI x) l q
      by_cases hlt : q < n
      · have z2 : (q : Int) < (n : Int) := by omega
        have x1 := hl q hlt
        have S1 : Hid (cnt (ltB x) l (q + 1) = cnt (ltB x) l q + if ltB x (l q) then 1 else 0) := cnt_succ (ltB x) l q
        have S2 : Hid (cnt (eqI x) l (q + 1) = cnt (eqI x) l q + if eqI x (l q) then 1 else 0) := cnt_succ (eqI x) l q
        clear x0
        generalize cnt (ltB x) l q = A at c1 S1 ⊢
        generalize cnt (eqI x) l q = D at c2 S2 ⊢
        rcases Int.lt_trichotomy (l q) x with h | h | h
        · have b1 : (l q == x) = false := by simp; omega
          have E1 : Hid (cnt (ltB x) l (q + 1) = A + 1 ∧ cnt (eqI x) l (q + 1) = D) := ⟨by rw [S1.out, if_pos (show ltB x (l q) = true from decide_eq_true h)], by rw [S2.out, if_neg (by unfold eqI; rw [b1]; decide)]; rfl⟩
          clear S1 S2 hl
          generalize l q = y at x1 h b1
          go_wp2_with fail
          go_roundg (n - (q + 1) + 1)
          case measure => omega
          case rel => exact ⟨q + 1, by rw [E1.out.1]; go_num, by rw [E1.out.2], by go_num, by omega, by omega, rfl⟩
        · have b1 : (l q == x) = true := by simpa using h
          have b2 : ¬ l q < x := by omega
          have E1 : Hid (cnt (ltB x) l (q + 1) = A ∧ cnt (eqI x) l (q + 1) = D + 1) := ⟨by rw [S1.out, if_neg (by unfold ltB; rw [decide_eq_false b2]; decide)]; rfl, by rw [S2.out, if_pos (show eqI x (l q) = true from b1)]⟩
          clear S1 S2 hl h
          generalize l q = y at x1 b1 b2
          go_wp2_with fail
          go_roundg (n - (q + 1) + 1)
          case measure => omega
          case rel => exact ⟨q + 1, by rw [E1.out.1], by rw [E1.out.2]; go_num, by go_num, by omega, by omega, rfl⟩
        · have b1 : (l q == x) = false := by simp; omega
          have b2 : ¬ l q < x := by omega
          have E1 : Hid (cnt (ltB x) l (q + 1) = A ∧ cnt (eqI x) l (q + 1) = D) := ⟨by rw [S1.out, if_neg (by unfold ltB; rw [decide_eq_false b2]; decide)]; rfl, by rw [S2.out, if_neg (by unfold eqI; rw [b1]; decide)]; rfl⟩
          clear S1 S2 hl
          generalize l q = y at x1 h b1 b2
          go_wp2_with fail
          go_roundg (n - (q + 1) + 1)
          case measure => omega
          case rel => exact ⟨q + 1, by rw [E1.out.1], by rw [E1.out.2], by go_num, by omega, by omega, rfl⟩
      · have z2 : ¬ (q : Int) < (n : Int) := by omega
        obtain rfl : q = n := by omega
        have s3 := cnt_lt_eq x l q
        by_cases hI : cnt (ltB x) l q ≤ k ∧ k < cnt (leB x) l q
        · have e : x = m := mid_one (l := l) (n := q) ⟨by rw [← HK.out]; exact hI.1, by rw [← HK.out]; exact hI.2⟩ HM.out
          have w1 : (cnt (ltB x) l q : Int) ≤ (k : Int) := by omega
          have w2 : (k : Int) < (cnt (ltB x) l q : Int) + (cnt (eqI x) l q : Int) := by omega
          generalize cnt (ltB x) l q = A at *
          generalize cnt (eqI x) l q = D at *
          clear hI s3 hl
          have HE : Hid (x = m) := e
          clear e
          go_wp2_with fail
          go_ret2
          exact ⟨by rw [HE.out]; rfl, rfl⟩
        · have hne : j ≠ i0 := fun e => by
            subst e
            apply hI
            rw [HX.out, E0.out, HK.out]
            exact HM.out
          by_cases w1 : cnt (ltB x) l q ≤ k
          · have w3 : (cnt (ltB x) l q : Int) ≤ (k : Int) := by omega
            have w2 : ¬ (k : Int) < (cnt (ltB x) l q : Int) + (cnt (eqI x) l q : Int) := by omega
            generalize cnt (ltB x) l q = A at *
            generalize cnt (eqI x) l q = D at *
            clear hI s3 w1
            go_wp2_with fail
            go_roundg (q - (j + 1) + 1)
            case measure => omega
            case rel => exact ⟨j + 1, by go_num, by omega, by omega, rfl⟩
          · have w3 : ¬ (cnt (ltB x) l q : Int) ≤ (k : Int) := by omega
            generalize cnt (ltB x) l q = A at *
            generalize cnt (eqI x) l q = D at *
            clear hI s3 w1
            go_wp2_with fail
            go_roundg (q - (j + 1) + 1)
            case measure => omega
            case rel => exact ⟨j + 1, by go_num, by omega, by omega, rfl⟩

set_option maxHeartbeats 1000000 in
theorem rmiddle_none (a : Option Addr) (c : Nat) (w : World) : Calls Try.prog 10 #[.slice a 0 c] w fun e w' => e = .returned (.tuple #[.int .i32 0, .int .i64 7]) ∧ w' = w := by
  go_enter Try.func10, Try.ntmps10
  go_wp2_with fail
  go_ret2
  exact ⟨rfl, rfl⟩

set_option maxHeartbeats 1000000 in
theorem rmiddle_large (a : Option Addr) (n c : Nat) (h : 64 < n) (w : World) : Calls Try.prog 10 #[.slice a n c] w fun e w' => e = .returned (.tuple #[.int .i32 0, .int .i64 2]) ∧ w' = w := by
  have z1 : ¬ (n : Int) = 0 := by omega
  have z2 : (64 : Int) < (n : Int) := by omega
  go_enter Try.func10, Try.ntmps10
  go_wp2_with fail
  go_ret2
  exact ⟨rfl, rfl⟩

end Go.Proofs.Ytokfdapocnmafaa
