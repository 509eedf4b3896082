/-
  Contracts: the document's own answers (package steadref: Sat, bound, half, Clamp, Rest, Shift) return what a plain function of whole numbers gives, and leave memory as it was.
-/
import Derived.Test.YtihcioghbidblaaShift
import Derived.Handy
namespace Go.Proofs.Ytihcioghbidblaa
open Go.RowKit

set_option maxHeartbeats 400000 in
theorem rsat_any (n : Int) (w : World) :
    Calls Try.prog 34 #[.int .i64 n] w fun e w' => e = .returned (.int .i32 (s32 n)) ∧ w' = w := by
  rcases Int.lt_or_le n (-2147483648) with h1 | h1
  · go_enter Try.func34, Try.ntmps34
    go_wp2
    go_rounds 1
    go_ret
    exact ⟨ret_int (bnd_low h1).symm, rfl⟩
  · rcases Int.lt_or_le 2147483647 n with h2 | h2
    · go_enter Try.func34, Try.ntmps34
      go_wp2
      go_rounds 1
      go_ret
      exact ⟨ret_int (bnd_high h1 h2).symm, rfl⟩
    · go_enter Try.func34, Try.ntmps34
      go_wp2
      go_rounds 1
      go_ret
      exact ⟨ret_int (bnd_mid h1 h2).symm, rfl⟩

set_option maxHeartbeats 400000 in
theorem rbound_any (n low high : Int) (w : World) :
    Calls Try.prog 54 #[.int .i64 n, .int .i64 low, .int .i64 high] w fun e w' => e = .returned (.int .i64 (bnd n low high)) ∧ w' = w := by
  rcases Int.lt_or_le n low with h1 | h1
  · go_enter Try.func54, Try.ntmps54
    go_wp2
    go_ret
    exact ⟨ret_int (bnd_low h1).symm, rfl⟩
  · rcases Int.lt_or_le high n with h2 | h2
    · go_enter Try.func54, Try.ntmps54
      go_wp2
      go_ret
      exact ⟨ret_int (bnd_high h1 h2).symm, rfl⟩
    · go_enter Try.func54, Try.ntmps54
      go_wp2
      go_ret
      exact ⟨ret_int (bnd_mid h1 h2).symm, rfl⟩

theorem tdiv_neg2 {x : Int} (h : x < 0) (n : Int) : x.tdiv n = -((-x) / n) := by
  have e : x = -(-x) := by omega
  rw [e, Int.neg_tdiv, Int.tdiv_eq_ediv_of_nonneg (by omega)]
  simp
theorem tmod_neg2 {x : Int} (h : x < 0) (n : Int) : x.tmod n = -((-x) % n) := by
  have e : x = -(-x) := by omega
  rw [e, Int.neg_tmod, Int.tmod_eq_emod_of_nonneg (by omega)]
  simp

set_option maxHeartbeats 400000 in
theorem rhalf_any (x : Int) (x1 : -9223372036854775808 ≤ x) (x2 : x ≤ 9223372036854775807) (w : World) :
    Calls Try.prog 55 #[.int .i64 x] w fun e w' => e = .returned (.int .i64 (x / 2)) ∧ w' = w := by
  rcases Int.lt_or_le x 0 with h | h
  · have d := tdiv_neg2 h 2
    have m := tmod_neg2 h 2
    rcases Int.emod_two_eq (-x) with h2 | h2
    · have t : (x.tmod 2 != 0) = false := by rw [m, h2]; rfl
      have D : Hid (x.tdiv 2 = x / 2) := show x.tdiv 2 = x / 2 from by omega
      clear d m h2
      go_enter Try.func55, Try.ntmps55
      go_wp2
      go_ret
      exact ⟨ret_int D.out, rfl⟩
    · have t : (x.tmod 2 != 0) = true := by rw [m, h2]; rfl
      have D : Hid (wrap64 (x.tdiv 2 - 1) = x / 2) := show wrap64 (x.tdiv 2 - 1) = x / 2 from by rw [IntWalk.wrap64_in _ (by omega)]; omega
      clear d m h2
      go_enter Try.func55, Try.ntmps55
      go_wp2
      go_ret
      exact ⟨ret_int D.out, rfl⟩
  · go_enter Try.func55, Try.ntmps55
    go_wp2
    go_ret
    exact ⟨rfl, rfl⟩

theorem rest_eq (a n : Int) (n1 : 0 < n) (n2 : n ≤ 65536) : (wrap64 (a.tmod n + n)).tmod n = a % n := by
  rcases Int.lt_or_le a 0 with h | h
  · rw [tmod_neg2 h]
    have h1 := Int.emod_nonneg (-a) (show n ≠ 0 by omega)
    have h2 := Int.emod_lt_of_pos (-a) n1
    rw [IntWalk.wrap64_in _ (by omega), Int.tmod_eq_emod_of_nonneg (by omega), Int.add_emod_right]
    have e : -(-a % n) = a - n * ((a + -a % n) / n) := by
      have := Int.mul_ediv_add_emod (-a) n
      have q : (a + -a % n) = n * (-((-a) / n)) := by rw [Int.mul_neg]; omega
      rw [q, Int.mul_ediv_cancel_left _ (by omega), Int.mul_neg]; omega
    rw [e, Int.sub_mul_emod_self_left]
  · rw [Int.tmod_eq_emod_of_nonneg h]
    have h1 := Int.emod_nonneg a (show n ≠ 0 by omega)
    have h2 := Int.emod_lt_of_pos a n1
    rw [IntWalk.wrap64_in _ (by omega), Int.tmod_eq_emod_of_nonneg (by omega), Int.add_emod_right, Int.emod_emod]

theorem clampI_eq_le {a b c : Int} (h : b ≤ c) : clampI a b c = bnd a b c := by unfold clampI; rw [if_neg (by omega)]
theorem clampI_eq_gt {a b c : Int} (h : c < b) : clampI a b c = bnd a c b := by unfold clampI; rw [if_pos h]
theorem bnd_in {a b c : Int} (h : b ≤ c) : b ≤ bnd a b c ∧ bnd a b c ≤ c := by unfold bnd; repeat' split
                                                                               all_goals omega

set_option maxHeartbeats 400000 in
theorem rclamp_any (a b c : Int) (a1 : -2147483648 ≤ a) (a2 : a ≤ 2147483647) (b1 : -2147483648 ≤ b) (b2 : b ≤ 2147483647) (c1 : -2147483648 ≤ c) (c2 : c ≤ 2147483647) (w : World) :
    Calls Try.prog 39 #[.int .i32 a, .int .i32 b, .int .i32 c] w fun e w' => e = .returned (.int .i32 (clampI a b c)) ∧ w' = w := by
  rcases Int.lt_or_le c b with h | h
  · rw [clampI_eq_gt h]
    have q := bnd_in (a := a) (b := c) (c := b) (by omega)
    have q1 : -2147483648 ≤ bnd a c b := by omega
    have q2 : bnd a c b ≤ 2147483647 := by omega
    clear q
    go_enter Try.func39, Try.ntmps39
    go_wp2_with (go_at_call 54; refine (rbound_any _ _ _ _).mono ?_; rintro e w' ⟨rfl, rfl⟩)
    go_ret
    exact ⟨rfl, rfl⟩
  · rw [clampI_eq_le h]
    have q := bnd_in (a := a) h
    have q1 : -2147483648 ≤ bnd a b c := by omega
    have q2 : bnd a b c ≤ 2147483647 := by omega
    clear q
    rcases Int.lt_or_le b c with h' | h'
    · go_enter Try.func39, Try.ntmps39
      go_wp2_with (go_at_call 54; refine (rbound_any _ _ _ _).mono ?_; rintro e w' ⟨rfl, rfl⟩)
      go_ret
      exact ⟨rfl, rfl⟩
    · have e : b = c := by omega
      subst e
      clear h h'
      go_enter Try.func39, Try.ntmps39
      go_wp2_with (go_at_call 54; refine (rbound_any _ _ _ _).mono ?_; rintro e w' ⟨rfl, rfl⟩)
      go_ret
      exact ⟨rfl, rfl⟩

theorem div_step (a : Int) (k : Nat) : a / 2 ^ k / 2 = a / 2 ^ (k + 1) := by
  rw [Int.ediv_ediv_of_nonneg (Int.le_of_lt (pow_pos2 k)), ← Int.pow_succ]
theorem mul_step (a : Int) (k : Nat) : a * 2 ^ k * 2 = a * 2 ^ (k + 1) := by
  rw [Int.mul_assoc, ← Int.pow_succ]
theorem div_pow_bd {a : Int} (k : Nat) (a1 : -2147483648 ≤ a) (a2 : a ≤ 2147483647) : -2147483648 ≤ a / 2 ^ k ∧ a / 2 ^ k ≤ 2147483647 := by
  have p := pow_pos2 k
  constructor
  · refine (Int.le_ediv_iff_mul_le p).2 ?_
    have : -2147483648 * 2 ^ k ≤ -2147483648 * 1 := Int.mul_le_mul_of_nonpos_left (by decide) p
    omega
  · rcases Int.lt_or_le a 0 with h | h
    · have := Int.ediv_neg_of_neg_of_pos h p
      omega
    · have := Int.ediv_le_self (2 ^ k) h
      omega

set_option maxHeartbeats 400000 in
theorem rshift_up (a n : Int) (a1 : -2147483648 ≤ a) (a2 : a ≤ 2147483647) (n0 : 0 < n) (w : World) :
    Calls Try.prog 38 #[.int .i32 a, .int .i64 n] w fun e w' => e = .returned (.int .i32 (s32 (a * 2 ^ (bnd n 0 31).toNat))) ∧ w' = w := by
  obtain ⟨m, hm⟩ : ∃ m : Nat, bnd n (-31) 31 = m ∧ bnd n 0 31 = m ∧ 0 < m ∧ m ≤ 31 := by
    refine ⟨(bnd n 0 31).toNat, ?_⟩
    unfold bnd
    repeat' split
    all_goals omega
  obtain ⟨m1, m2, m3, m4⟩ := hm
  rw [m2]
  clear m2
  go_enter Try.func38, Try.ntmps38
  go_wp2_with (go_at_call 54; refine (rbound_any _ _ _ _).mono ?_; rintro e w' ⟨rfl, rfl⟩)
  go_loop [5, 14] (fun x i => ∃ k : Nat, k ≤ m ∧ i = .int .i64 k ∧ x = .int .i64 (a * 2 ^ k)) (fun _ i => m - (intOf i).toNat)
  case atStart => exact ⟨0, Nat.zero_le _, rfl, by simp⟩
  case round =>
    obtain ⟨k, hk, rfl, rfl⟩ := hrel
    have hb := mul_pow_bd a1 a2 (show k ≤ 31 by omega)
    by_cases hlt : k < m
    · go_wp2
      go_round
      case rel => exact ⟨k + 1, by omega, by go_num, by rw [mul_step, shl_bare a1 a2 (by omega)]⟩
      case measure => simp [intOf]; omega
    · go_wp2_with (go_at_call 34; refine (rsat_any _ _).mono ?_; rintro e w' ⟨rfl, rfl⟩)
      go_ret
      exact ⟨ret_int (by rw [show k = m by omega]; simp), rfl⟩

set_option maxHeartbeats 400000 in
theorem rshift_down (a n : Int) (a1 : -2147483648 ≤ a) (a2 : a ≤ 2147483647) (n0 : n < 0) (w : World) :
    Calls Try.prog 38 #[.int .i32 a, .int .i64 n] w fun e w' => e = .returned (.int .i32 (a / 2 ^ (bnd (-n) 0 31).toNat)) ∧ w' = w := by
  obtain ⟨m, hm⟩ : ∃ m : Nat, bnd n (-31) 31 = -(m : Int) ∧ bnd (-n) 0 31 = m ∧ 0 < m ∧ m ≤ 31 := by
    refine ⟨(bnd (-n) 0 31).toNat, ?_⟩
    unfold bnd
    repeat' split
    all_goals omega
  obtain ⟨m1, m2, m3, m4⟩ := hm
  rw [m2]
  clear m2
  go_enter Try.func38, Try.ntmps38
  go_wp2_with (go_at_call 54; refine (rbound_any _ _ _ _).mono ?_; rintro e w' ⟨rfl, rfl⟩)
  go_loop [5, 14] (fun x i => ∃ k : Nat, k ≤ m ∧ i = .int .i64 k ∧ x = .int .i64 (a / 2 ^ k)) (fun _ i => m - (intOf i).toNat)
  case atStart => exact ⟨0, Nat.zero_le _, rfl, by simp⟩
  case round =>
    obtain ⟨k, hk, rfl, rfl⟩ := hrel
    have hb := div_pow_bd k a1 a2
    by_cases hlt : k < m
    · go_wp2_with (go_at_call 55; refine (rhalf_any _ (by omega) (by omega) _).mono ?_; rintro e w' ⟨rfl, rfl⟩)
      go_round
      case rel => exact ⟨k + 1, by omega, by go_num, by rw [div_step]⟩
      case measure => simp [intOf]; omega
    · go_wp2_with (go_at_call 34; refine (rsat_any _ _).mono ?_; rintro e w' ⟨rfl, rfl⟩)
      go_ret
      have e : k = m := by omega
      rw [e] at hb
      exact ⟨ret_int (by rw [e]; simp; exact bnd_mid hb.1 hb.2), rfl⟩

set_option maxHeartbeats 400000 in
theorem rshift_none (a : Int) (a1 : -2147483648 ≤ a) (a2 : a ≤ 2147483647) (w : World) :
    Calls Try.prog 38 #[.int .i32 a, .int .i64 0] w fun e w' => e = .returned (.int .i32 (s32 a)) ∧ w' = w := by
  have k : bnd 0 (-31) 31 = 0 := by decide
  go_enter Try.func38, Try.ntmps38
  go_wp2_with (go_at_call 54; refine (rbound_any _ _ _ _).mono ?_; rintro e w' ⟨rfl, rfl⟩)
  refine wp_loop_rounds 1 ?_
  rw [rounds_succ]
  go_wp2_with (go_at_call 34; refine (rsat_any _ _).mono ?_; rintro e w' ⟨rfl, rfl⟩)
  go_ret
  exact ⟨rfl, rfl⟩

theorem rshift_any (a n : Int) (a1 : -2147483648 ≤ a) (a2 : a ≤ 2147483647) (w : World) :
    Calls Try.prog 38 #[.int .i32 a, .int .i64 n] w fun e w' => e = .returned (.int .i32 (shiftI a n)) ∧ w' = w := by
  unfold shiftI
  rcases Int.lt_or_le n 0 with h | h
  · rw [if_pos h]
    exact rshift_down a n a1 a2 h w
  · rw [if_neg (by omega)]
    rcases Int.lt_or_le 0 n with h1 | h1
    · exact rshift_up a n a1 a2 h1 w
    · have e : n = 0 := by omega
      subst e
      have e : a * 2 ^ (bnd 0 0 31).toNat = a := by
        rw [bnd_mid (by decide) (by decide)]
        simp
      rw [e]
      exact rshift_none a a1 a2 w

end Go.Proofs.Ytihcioghbidblaa
