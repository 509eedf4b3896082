/-
  Contracts of the document's answer to tables, package steadref: long multiplication gives the line's rise.
-/
import Derived.Test.YtjbhmkdodcmhhaaTab
import Derived.Test.YtjbhmkdodcmhhaaBits
namespace Go.Proofs.Ytjbhmkdodcmhhaa
open Go.RowKit

theorem div_step (b : Int) (k : Nat) : b / 2 ^ k = 2 * (b / 2 ^ (k + 1)) + b / 2 ^ k % 2 := by
  have p : (0 : Int) < 2 ^ k := Int.pow_pos (by decide)
  have e : b / 2 ^ (k + 1) = b / 2 ^ k / 2 := by rw [Int.pow_succ, Int.ediv_ediv_of_nonneg (by omega)]
  rw [e]
  omega
theorem div_top {b : Int} (b0 : 0 ≤ b) (b1 : b ≤ 8589934591) : b / 2 ^ 34 = 0 := Int.ediv_eq_zero_of_lt b0 (by show b < 17179869184; omega)
/-- what is left of a product, bit by bit -/
theorem rem_step (a c u v : Int) : (a * u % c * 2 + a * v) % c = a * (2 * u + v) % c := by
  have e : a * (2 * u + v) = a * u * 2 + a * v := by rw [Int.mul_add, Int.mul_comm 2 u, ← Int.mul_assoc]
  rw [e, Int.add_emod, Int.mul_emod (a * u % c), Int.emod_emod, ← Int.mul_emod, ← Int.add_emod]
theorem rem_step0 (a c u : Int) : (a * u % c * 2) % c = a * (2 * u + 0) % c := by
  have := rem_step a c u 0
  simpa using this
theorem rem_step1 (a c u : Int) : (a * u % c * 2 + a) % c = a * (2 * u + 1) % c := by
  have := rem_step a c u 1
  simpa using this

set_option maxHeartbeats 400000 in
theorem exact_any (a b c : Int) (w : World) (a0 : 0 ≤ a) (a1 : a ≤ c) (c0 : 0 < c) (c1 : c ≤ 4294967295) (b0 : 0 ≤ b) (b1 : b ≤ 8589934591) :
    Calls Try.prog 22 #[.int .i64 a, .int .i64 b, .int .i64 c] w fun e w' => e = .returned (.bool (a * b % c == 0)) ∧ w' = w := by
  go_enter Try.func22, Try.ntmps22
  go_wp2
  go_loop [7, 8] (fun r i => ∃ (j : Nat) (t : Int), t = (j : Int) - 1 ∧ j ≤ 34 ∧ i = .int .i64 t ∧ r = .int .i64 (a * (b / 2 ^ j) % c)) (fun _ i => (intOf i + 1).toNat)
  case atStart => exact ⟨34, 33, by omega, by omega, rfl, by rw [div_top b0 b1]; simp⟩
  case round =>
    obtain ⟨j, t, ht, hj, rfl, rfl⟩ := hrel
    have r0 := Int.emod_nonneg (a * (b / 2 ^ j)) (show c ≠ 0 by omega)
    have r1 := Int.emod_lt_of_pos (a * (b / 2 ^ j)) c0
    cases j with
    | zero =>
      obtain rfl : t = -1 := by omega
      clear r0 r1 ht
      have e : b / 2 ^ 0 = b := by simp
      go_wp2
      go_ret
      exact ⟨rfl, rfl⟩
    | succ s =>
      obtain rfl : t = (s : Int) := by omega
      have m1 := and_one (b / 2 ^ s)
      have D : Hid (b / 2 ^ s = 2 * (b / 2 ^ (s + 1)) + b / 2 ^ s % 2) := div_step b s
      obtain ⟨u, hu⟩ : ∃ u, b / 2 ^ (s + 1) = u := ⟨_, rfl⟩
      rw [hu] at D r0 r1 ⊢
      clear hu ht
      rcases (show b / 2 ^ s % 2 = 1 ∨ b / 2 ^ s % 2 = 0 by omega) with h | h
      · go_wp2
        go_round
        case rel => exact ⟨s, (s : Int) - 1, rfl, by omega, rfl, by rw [rem_step1, D.out, h]⟩
        case measure => simp [intOf]
      · go_wp2
        go_round
        case rel => exact ⟨s, (s : Int) - 1, rfl, by omega, rfl, by rw [rem_step0, D.out, h]⟩
        case measure => simp [intOf]

theorem quo_bd {a c u q r : Int} (h : q * c + r = a * u) (r0 : 0 ≤ r) (a1 : a ≤ c) (c0 : 0 < c) (u0 : 0 ≤ u) : q ≤ u := by
  have l := Int.mul_le_mul_of_nonneg_right a1 u0
  rcases Int.lt_or_le u q with g | g
  · have m := Int.mul_le_mul_of_nonneg_right (show u + 1 ≤ q by omega) (show 0 ≤ c by omega)
    rw [Int.add_mul, Int.mul_comm u c] at m
    omega
  · exact g
theorem quo_nonneg {c q r P : Int} (h : q * c + r = P) (r1 : r < c) (P0 : 0 ≤ P) (c0 : 0 < c) : 0 ≤ q := by
  rcases Int.lt_or_le q 0 with g | g
  · have m := Int.mul_le_mul_of_nonneg_right (show q ≤ -1 by omega) (show 0 ≤ c by omega)
    omega
  · exact g
theorem quo_eq {c q r P : Int} (h : q * c + r = P) (r0 : 0 ≤ r) (r1 : r < c) : P / c = q ∧ P % c = r := by
  have := (Int.ediv_emod_unique (a := P) (b := c) (q := q) (r := r) (by omega)).2 ⟨by rw [Int.mul_comm] at h; omega, r0, r1⟩
  exact this
theorem bit_bd {b : Int} (b0 : 0 ≤ b) (b1 : b ≤ 8589934591) (k : Nat) : 0 ≤ b / 2 ^ k ∧ b / 2 ^ k ≤ 8589934591 := by
  have p : (0 : Int) < 2 ^ k := Int.pow_pos (by decide)
  exact ⟨Int.ediv_nonneg b0 (by omega), Int.le_trans (Int.ediv_le_self _ b0) b1⟩

set_option maxHeartbeats 1000000 in
theorem ratio_pos (a b c : Int) (w : World) (a0 : 0 ≤ a) (a1 : a ≤ c) (c0 : 0 < c) (c1 : c ≤ 4294967295) (b0 : 0 ≤ b) (b1 : b ≤ 8589934591) :
    Calls Try.prog 20 #[.int .i64 a, .int .i64 b, .int .i64 c] w fun e w' => e = .returned (.int .i64 (risenI a c b)) ∧ w' = w := by
  have BD := bit_bd b0 b1
  go_enter Try.func20, Try.ntmps20
  go_wp2
  go_loop [8, 9, 10] (fun q r i => ∃ (j : Nat) (t Q R : Int), t = (j : Int) - 1 ∧ j ≤ 34 ∧ i = .int .i64 t ∧ q = .int .i64 Q ∧ r = .int .i64 R ∧ Q * c + R = a * (b / 2 ^ j) ∧ 0 ≤ R ∧ R < c ∧ 0 ≤ Q) (fun _ _ i => (intOf i + 1).toNat)
  case atStart => exact ⟨34, 33, 0, 0, by omega, by omega, rfl, rfl, rfl, by rw [div_top b0 b1]; simp, by omega, c0, by omega⟩
  case round =>
    obtain ⟨j, t, Q, R, ht, hj, rfl, rfl, rfl, hQ, hR0, hR1, hQ0⟩ := hrel
    have HQ : Hid (Q * c + R = a * (b / 2 ^ j)) := hQ
    have qb := quo_bd hQ hR0 a1 c0 (BD j).1
    have ub := BD j
    clear hQ
    cases j with
    | zero =>
      obtain rfl : t = -1 := by omega
      clear ht BD
      go_wp2
      go_ret
      refine ⟨ret_int ?_, rfl⟩
      have e : b / 2 ^ 0 = b := by simp
      have h := HQ.out
      rw [e] at h
      exact (quo_eq h hR0 hR1).1.symm
    | succ s =>
      obtain rfl : t = (s : Int) := by omega
      have m1 := and_one (b / 2 ^ s)
      have D : Hid (b / 2 ^ s = 2 * (b / 2 ^ (s + 1)) + b / 2 ^ s % 2) := div_step b s
      have sb := BD s
      have q2 : Q ≤ 8589934591 := by omega
      clear ht BD qb ub
      rcases (show b / 2 ^ s % 2 = 1 ∨ b / 2 ^ s % 2 = 0 by omega) with h | h
      · have N : Hid (2 * Q * c + (2 * R + a) = a * (b / 2 ^ s)) := by
          show 2 * Q * c + (2 * R + a) = a * (b / 2 ^ s)
          have e1 := D.out
          have e2 := HQ.out
          rw [h] at e1
          rw [e1, Int.mul_add, Int.mul_one, Int.mul_left_comm, ← e2, Int.mul_assoc]
          omega
        go_wp2
        go_loop [8, 9] (fun q r => ∃ Q' R' : Int, q = .int .i64 Q' ∧ r = .int .i64 R' ∧ Q' * c + R' = a * (b / 2 ^ s) ∧ 0 ≤ R' ∧ 0 ≤ Q' ∧ R' < 4 * c) (fun _ r => (intOf r).toNat)
        case atStart => exact ⟨2 * Q, 2 * R + a, rfl, rfl, N.out, by omega, by omega, by omega⟩
        case round =>
          obtain ⟨Q', R', rfl, rfl, hN, hN0, hN1, hN2⟩ := hrel
          have HN : Hid (Q' * c + R' = a * (b / 2 ^ s)) := hN
          have qb := quo_bd hN hN0 a1 c0 sb.1
          clear hN
          rcases Int.lt_or_le R' c with g | g
          · go_wp2
            go_round
            case rel => exact ⟨s, (s : Int) - 1, Q', R', rfl, by omega, rfl, rfl, rfl, HN.out, hN0, g, hN1⟩
            case measure => simp [intOf]
          · go_wp2
            go_round
            case rel => exact ⟨Q' + 1, R' - c, rfl, rfl, by have := HN.out; rw [Int.add_mul]; omega, by omega, by omega, by omega⟩
            case measure => simp [intOf]; omega
      · have N : Hid (2 * Q * c + 2 * R = a * (b / 2 ^ s)) := by
          show 2 * Q * c + 2 * R = a * (b / 2 ^ s)
          have e1 := D.out
          have e2 := HQ.out
          rw [h] at e1
          rw [e1, Int.add_zero, Int.mul_left_comm, ← e2, Int.mul_assoc]
          omega
        go_wp2
        go_loop [8, 9] (fun q r => ∃ Q' R' : Int, q = .int .i64 Q' ∧ r = .int .i64 R' ∧ Q' * c + R' = a * (b / 2 ^ s) ∧ 0 ≤ R' ∧ 0 ≤ Q' ∧ R' < 4 * c) (fun _ r => (intOf r).toNat)
        case atStart => exact ⟨2 * Q, 2 * R, rfl, rfl, N.out, by omega, by omega, by omega⟩
        case round =>
          obtain ⟨Q', R', rfl, rfl, hN, hN0, hN1, hN2⟩ := hrel
          have HN : Hid (Q' * c + R' = a * (b / 2 ^ s)) := hN
          have qb := quo_bd hN hN0 a1 c0 sb.1
          clear hN
          rcases Int.lt_or_le R' c with g | g
          · go_wp2
            go_round
            case rel => exact ⟨s, (s : Int) - 1, Q', R', rfl, by omega, rfl, rfl, rfl, HN.out, hN0, g, hN1⟩
            case measure => simp [intOf]
          · go_wp2
            go_round
            case rel => exact ⟨Q' + 1, R' - c, rfl, rfl, by have := HN.out; rw [Int.add_mul]; omega, by omega, by omega, by omega⟩
            case measure => simp [intOf]; omega

set_option maxHeartbeats 400000 in
theorem ratio_any (a b c : Int) (w : World) (a0 : 0 ≤ a) (a1 : a ≤ c) (c0 : 0 < c) (c1 : c ≤ 4294967295) (b0 : -8589934591 ≤ b) (b1 : b ≤ 8589934591) :
    Calls Try.prog 20 #[.int .i64 a, .int .i64 b, .int .i64 c] w fun e w' => e = .returned (.int .i64 (risenI a c b)) ∧ w' = w := by
  rcases Int.lt_or_le b 0 with h | h
  · have d := (risen_bd (rise := -b) a0 a1 c0).1 (by omega)
    have n := risen_neg a c b c0
    have N : Hid (risenI a c b = -(risenI a c (-b)) - if a * -b % c = 0 then 0 else 1) := n
    clear n
    by_cases g : a * -b % c = 0
    · have g' : (a * -b % c == 0) = true := by simpa using g
      go_enter Try.func20, Try.ntmps20
      go_wp2_with (first | (go_at_call 20; refine (ratio_pos _ _ _ _ a0 a1 c0 c1 (by omega) (by omega)).mono ?_; rintro e w' ⟨rfl, rfl⟩) | (go_at_call 22; refine (exact_any _ _ _ _ a0 a1 c0 c1 (by omega) (by omega)).mono ?_; rintro e w' ⟨rfl, rfl⟩))
      go_ret
      exact ⟨ret_int (by rw [N.out, if_pos g, Int.sub_zero]), rfl⟩
    · have g' : (a * -b % c == 0) = false := by simpa using g
      go_enter Try.func20, Try.ntmps20
      go_wp2_with (first | (go_at_call 20; refine (ratio_pos _ _ _ _ a0 a1 c0 c1 (by omega) (by omega)).mono ?_; rintro e w' ⟨rfl, rfl⟩) | (go_at_call 22; refine (exact_any _ _ _ _ a0 a1 c0 c1 (by omega) (by omega)).mono ?_; rintro e w' ⟨rfl, rfl⟩))
      go_ret
      exact ⟨ret_int (by rw [N.out, if_neg g]), rfl⟩
  · exact ratio_pos a b c w a0 a1 c0 c1 h b1

end Go.Proofs.Ytjbhmkdodcmhhaa
