/-
  Contracts: each call of package sat (and of the verifier's own small helpers) returns what a plain function of whole numbers gives, and leaves memory as it was. For every input of the parameters' kinds.
-/
import Derived.Test.YtihcioghbidblaaRows
import Derived.WalkKit
import Derived.WalkSpells
import Derived.WalkLawsBesides
import Derived.OpenShut
namespace Go.Proofs.Ytihcioghbidblaa
open Go.RowKit

/-- n, or the end that it passes -/
def bnd (n low high : Int) : Int := if n < low then low else if high < n then high else n
/-- the nearest number of 32 bits -/
def s32 (n : Int) : Int := bnd n (-2147483648) 2147483647
/-- clamped between two ends, either way round -/
def clampI (a low high : Int) : Int := if high < low then bnd a high low else bnd a low high
def absI (a : Int) : Int := if a < 0 then -a else a

theorem ret_int {k : IntKind} {a b : Int} (h : a = b) : Ending.returned (.int k a) = .returned (.int k b) := by rw [h]
theorem bnd_low {n low high : Int} (h : n < low) : bnd n low high = low := by unfold bnd; rw [if_pos h]
theorem bnd_high {n low high : Int} (h : low ≤ n) (h' : high < n) : bnd n low high = high := by unfold bnd; rw [if_neg (by omega), if_pos h']
theorem bnd_mid {n low high : Int} (h : low ≤ n) (h' : n ≤ high) : bnd n low high = n := by unfold bnd; rw [if_neg (by omega), if_neg (by omega)]
theorem i32_of {a : Int} (h : (Lit.int .i32 a).wf = true) : -2147483648 ≤ a ∧ a ≤ 2147483647 := bounds_i32 h
theorem i64_of {a : Int} (h : (Lit.int .i64 a).wf = true) : -9223372036854775808 ≤ a ∧ a ≤ 9223372036854775807 := bounds_i64 h

set_option maxHeartbeats 400000 in
theorem to32_any (n : Int) (w : World) :
    Calls Try.prog 58 #[.int .i64 n] w fun e w' => e = .returned (.int .i32 (s32 n)) ∧ w' = w := by
  rcases Int.lt_or_le n (-2147483648) with h1 | h1
  · go_enter Try.func58, Try.ntmps58
    go_wp2
    go_ret
    exact ⟨ret_int (bnd_low h1).symm, rfl⟩
  · rcases Int.lt_or_le 2147483647 n with h2 | h2
    · go_enter Try.func58, Try.ntmps58
      go_wp2
      go_ret
      exact ⟨ret_int (bnd_high h1 h2).symm, rfl⟩
    · go_enter Try.func58, Try.ntmps58
      go_wp2
      go_ret
      exact ⟨ret_int (bnd_mid h1 h2).symm, rfl⟩

set_option maxHeartbeats 400000 in
theorem add_any (a b : Int) (a1 : -2147483648 ≤ a) (a2 : a ≤ 2147483647) (b1 : -2147483648 ≤ b) (b2 : b ≤ 2147483647) (w : World) :
    Calls Try.prog 52 #[.int .i32 a, .int .i32 b] w fun e w' => e = .returned (.int .i32 (s32 (a + b))) ∧ w' = w := by
  go_enter Try.func52, Try.ntmps52
  go_wp2_with (go_at_call 58; refine (to32_any _ _).mono ?_; rintro e w' ⟨rfl, rfl⟩)
  go_ret
  exact ⟨rfl, rfl⟩

set_option maxHeartbeats 400000 in
theorem sub_any (a b : Int) (a1 : -2147483648 ≤ a) (a2 : a ≤ 2147483647) (b1 : -2147483648 ≤ b) (b2 : b ≤ 2147483647) (w : World) :
    Calls Try.prog 43 #[.int .i32 a, .int .i32 b] w fun e w' => e = .returned (.int .i32 (s32 (a - b))) ∧ w' = w := by
  go_enter Try.func43, Try.ntmps43
  go_wp2_with (go_at_call 58; refine (to32_any _ _).mono ?_; rintro e w' ⟨rfl, rfl⟩)
  go_ret
  exact ⟨rfl, rfl⟩

set_option maxHeartbeats 400000 in
theorem neg_any (a : Int) (a1 : -2147483648 ≤ a) (a2 : a ≤ 2147483647) (w : World) :
    Calls Try.prog 61 #[.int .i32 a] w fun e w' => e = .returned (.int .i32 (s32 (-a))) ∧ w' = w := by
  go_enter Try.func61, Try.ntmps61
  go_wp2_with (go_at_call 58; refine (to32_any _ _).mono ?_; rintro e w' ⟨rfl, rfl⟩)
  go_ret
  exact ⟨rfl, rfl⟩

set_option maxHeartbeats 400000 in
theorem abs_any (a : Int) (a1 : -2147483648 ≤ a) (a2 : a ≤ 2147483647) (w : World) :
    Calls Try.prog 56 #[.int .i32 a] w fun e w' => e = .returned (.int .i32 (s32 (absI a))) ∧ w' = w := by
  rcases Int.lt_or_le a 0 with h | h
  · go_enter Try.func56, Try.ntmps56
    go_wp2_with (go_at_call 61; refine (neg_any _ (by omega) (by omega) _).mono ?_; rintro e w' ⟨rfl, rfl⟩)
    go_ret
    exact ⟨ret_int (by unfold absI; rw [if_pos h]), rfl⟩
  · go_enter Try.func56, Try.ntmps56
    go_wp2
    go_ret
    exact ⟨ret_int (by unfold absI; rw [if_neg (by omega)]; exact (bnd_mid a1 a2).symm), rfl⟩

set_option maxHeartbeats 400000 in
theorem clamp_any (a b c : Int) (w : World) :
    Calls Try.prog 51 #[.int .i32 a, .int .i32 b, .int .i32 c] w fun e w' => e = .returned (.int .i32 (clampI a b c)) ∧ w' = w := by
  rcases Int.lt_or_le c b with h | h
  · have e : clampI a b c = bnd a c b := by unfold clampI; rw [if_pos h]
    rw [e]
    clear e
    rcases Int.lt_or_le a c with h1 | h1
    · have hh : ¬ b < c := by omega
      go_enter Try.func51, Try.ntmps51
      go_wp2
      go_ret
      exact ⟨ret_int (bnd_low h1).symm, rfl⟩
    · rcases Int.lt_or_le b a with h2 | h2
      · go_enter Try.func51, Try.ntmps51
        go_wp2
        go_ret
        exact ⟨ret_int (bnd_high h1 h2).symm, rfl⟩
      · go_enter Try.func51, Try.ntmps51
        go_wp2
        go_ret
        exact ⟨ret_int (bnd_mid h1 h2).symm, rfl⟩
  · have e : clampI a b c = bnd a b c := by unfold clampI; rw [if_neg (by omega)]
    rw [e]
    clear e
    rcases Int.lt_or_le a b with h1 | h1
    · have hh : ¬ c < b := by omega
      go_enter Try.func51, Try.ntmps51
      go_wp2
      go_ret
      exact ⟨ret_int (bnd_low h1).symm, rfl⟩
    · rcases Int.lt_or_le c a with h2 | h2
      · go_enter Try.func51, Try.ntmps51
        go_wp2
        go_ret
        exact ⟨ret_int (bnd_high h1 h2).symm, rfl⟩
      · go_enter Try.func51, Try.ntmps51
        go_wp2
        go_ret
        exact ⟨ret_int (bnd_mid h1 h2).symm, rfl⟩

end Go.Proofs.Ytihcioghbidblaa
