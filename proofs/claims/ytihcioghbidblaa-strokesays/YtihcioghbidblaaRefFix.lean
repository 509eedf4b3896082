/-
  Contracts: the document's own answers (package steadref: over, Mul, Div, Round, Between) return the same plain functions of whole numbers as package fix does, and leave memory as it was.
-/
import Derived.Test.YtihcioghbidblaaFix
namespace Go.Proofs.Ytihcioghbidblaa
open Go.RowKit

set_option maxHeartbeats 400000 in
theorem rover_any (a b : Int) (h1 : -4611686018427387904 ≤ a * b) (h2 : a * b ≤ 4611686018427387904) (w : World) :
    Calls Try.prog 36 #[.int .i64 a, .int .i64 b] w fun e w' => e = .returned (.int .i64 (scaleI (a * b))) ∧ w' = w := by
  obtain ⟨p, hp⟩ : ∃ p : Int, a * b = p := ⟨_, rfl⟩
  rw [hp] at h1 h2
  rw [hp]
  rcases Int.lt_or_le p 0 with h | h
  · have d := tdiv_neg2 h 65536
    have m := tmod_neg2 h 65536
    rcases Int.lt_or_le 0 ((-p) % 65536) with g | g
    · rcases Int.lt_or_le (-((-p) % 65536) + 65536) 32768 with g1 | g1
      · go_enter Try.func36, Try.ntmps36
        go_wp2
        go_ret
        exact ⟨ret_int (by unfold scaleI; omega), rfl⟩
      · go_enter Try.func36, Try.ntmps36
        go_wp2
        go_ret
        exact ⟨ret_int (by unfold scaleI; omega), rfl⟩
    · have g1 : (-p) % 65536 = 0 := by omega
      rw [g1] at m
      have D : Hid (-(-p / 65536) = (p + 32768) / 65536) := show -(-p / 65536) = (p + 32768) / 65536 from by omega
      clear g
      go_enter Try.func36, Try.ntmps36
      go_wp2
      go_ret
      exact ⟨ret_int (by unfold scaleI; exact D.out), rfl⟩
  · rcases Int.lt_or_le (p % 65536) 32768 with g1 | g1
    · go_enter Try.func36, Try.ntmps36
      go_wp2
      go_ret
      exact ⟨ret_int (by unfold scaleI; omega), rfl⟩
    · go_enter Try.func36, Try.ntmps36
      go_wp2
      go_ret
      exact ⟨ret_int (by unfold scaleI; omega), rfl⟩

set_option maxHeartbeats 400000 in
theorem rmul_any (a b : Int) (a1 : -2147483648 ≤ a) (a2 : a ≤ 2147483647) (b1 : -2147483648 ≤ b) (b2 : b ≤ 2147483647) (w : World) :
    Calls Try.prog 22 #[.int .i32 a, .int .i32 b] w fun e w' => e = .returned (.int .i32 (mulI a b)) ∧ w' = w := by
  have h := mul_bd (A := 2147483648) (B := 2147483648) a1 (by omega) b1 (by omega)
  go_enter Try.func22, Try.ntmps22
  go_wp2_with (first | (go_at_call 36; refine (rover_any _ _ (by omega) (by omega) _).mono ?_; rintro e w' ⟨rfl, rfl⟩) | (go_at_call 34; refine (rsat_any _ _).mono ?_; rintro e w' ⟨rfl, rfl⟩))
  go_ret
  exact ⟨rfl, rfl⟩

theorem div_bd {n b P : Int} (n0 : 0 ≤ n) (b0 : 0 < b) (h : n ≤ P) : 0 ≤ n / b ∧ n / b ≤ P := by
  have h1 := Int.ediv_nonneg n0 (Int.le_of_lt b0)
  have h2 := Int.ediv_le_self b n0
  omega

end Go.Proofs.Ytihcioghbidblaa
