/-
  Contracts: sat.Shift returns the number shifted (upward to an end where it must, downward to what is not above it), whatever the number of 32 bits and however far; memory stays as it was.
-/
import Derived.Test.YtihcioghbidblaaSat
namespace Go.Proofs.Ytihcioghbidblaa
open Go.RowKit

/-- shifted by n bits, -31 to 31 of them -/
def shiftI (a n : Int) : Int := if n < 0 then a / 2 ^ (bnd (-n) 0 31).toNat else s32 (a * 2 ^ (bnd n 0 31).toNat)

theorem pow_pos2 (k : Nat) : (0 : Int) < 2 ^ k := Int.pow_pos (by decide)
theorem pow_le31 {k : Nat} (h : k ≤ 31) : (2 : Int) ^ k ≤ 2147483648 := by
  have h1 : (2 : Nat) ^ k ≤ 2 ^ 31 := Nat.pow_le_pow_right (by decide) h
  have h2 : ((2 ^ k : Nat) : Int) ≤ ((2 ^ 31 : Nat) : Int) := Int.ofNat_le.2 h1
  simpa using h2
theorem mul_pow_bd {a : Int} {k : Nat} (a1 : -2147483648 ≤ a) (a2 : a ≤ 2147483647) (h : k ≤ 31) :
    -4611686018427387904 ≤ a * 2 ^ k ∧ a * 2 ^ k ≤ 4611686018427387904 := by
  have p := pow_pos2 k
  have q := pow_le31 h
  have l := Int.mul_le_mul_of_nonneg_right a1 (Int.le_of_lt p)
  have r := Int.mul_le_mul_of_nonneg_right a2 (Int.le_of_lt p)
  omega
theorem shl_bare {a : Int} {k : Nat} (a1 : -2147483648 ≤ a) (a2 : a ≤ 2147483647) (h : k ≤ 31) : wrap64 (a * 2 ^ k) = a * 2 ^ k := by
  have := mul_pow_bd a1 a2 h
  exact IntWalk.wrap64_in _ (by omega)

set_option maxHeartbeats 400000 in
theorem shift_any (a n : Int) (a1 : -2147483648 ≤ a) (a2 : a ≤ 2147483647) (n1 : -9223372036854775808 ≤ n) (n2 : n ≤ 9223372036854775807) (w : World) :
    Calls Try.prog 49 #[.int .i32 a, .int .i64 n] w fun e w' => e = .returned (.int .i32 (shiftI a n)) ∧ w' = w := by
  rcases Int.lt_or_le n 0 with h | h
  · have e : shiftI a n = a / 2 ^ (bnd (-n) 0 31).toNat := by unfold shiftI; rw [if_pos h]
    rw [e]
    clear e
    rcases Int.lt_or_le n (-31) with h1 | h1
    · go_enter Try.func49, Try.ntmps49
      go_wp2
      go_ret
      exact ⟨ret_int (by rw [bnd_high (by omega) (by omega)]; rfl), rfl⟩
    · go_enter Try.func49, Try.ntmps49
      go_wp2
      go_ret
      exact ⟨ret_int (by rw [bnd_mid (by omega) (by omega)]), rfl⟩
  · have e : shiftI a n = s32 (a * 2 ^ (bnd n 0 31).toNat) := by unfold shiftI; rw [if_neg (by omega)]
    rw [e]
    clear e
    rcases Int.lt_or_le 31 n with h1 | h1
    · go_enter Try.func49, Try.ntmps49
      go_wp2_with (go_at_call 58; refine (to32_any _ _).mono ?_; rintro e w' ⟨rfl, rfl⟩)
      go_ret
      exact ⟨ret_int (by rw [bnd_high (by omega) (by omega)]; rfl), rfl⟩
    · go_enter Try.func49, Try.ntmps49
      go_wp2_with (go_at_call 58; refine (to32_any _ _).mono ?_; rintro e w' ⟨rfl, rfl⟩)
      go_ret
      exact ⟨ret_int (by rw [bnd_mid (by omega) (by omega), shl_bare a1 a2 (by omega)]), rfl⟩

end Go.Proofs.Ytihcioghbidblaa
