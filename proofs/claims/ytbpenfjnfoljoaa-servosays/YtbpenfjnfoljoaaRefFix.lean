/-
  Contracts: the document's own answers (package steadref: over, Mul, Div, Round, Between) return the same plain functions of whole numbers as package fix does, and leave memory as it was.
-/
import Derived.Test.YtbpenfjnfoljoaaFix
namespace Go.Proofs.Ytbpenfjnfoljoaa
open Go.RowKit

set_option maxHeartbeats 400000 in
theorem rover_any (a b : Int) (h1 : -4611686018427387904 ≤ a * b) (h2 : a * b ≤ 4611686018427387904) (w : World) :
    Calls Try.prog 32 #[.int .i64 a, .int .i64 b] w fun e w' => e = .returned (.int .i64 (scaleI (a * b))) ∧ w' = w := by
  obtain ⟨p, hp⟩ : ∃ p : Int, a * b = p := ⟨_, rfl⟩
  rw [hp] at h1 h2
  rw [hp]
  rcases Int.lt_or_le p 0 with h | h
  · have d := tdiv_neg2 h 65536
    have m := tmod_neg2 h 65536
    rcases Int.lt_or_le 0 ((-p) % 65536) with g | g
    · rcases Int.lt_or_le (-((-p) % 65536) + 65536) 32768 with g1 | g1
      · go_enter Try.func32, Try.ntmps32
        go_wp2
        go_ret
        exact ⟨ret_int (by unfold scaleI; omega), rfl⟩
      · go_enter Try.func32, Try.ntmps32
        go_wp2
        go_ret
        exact ⟨ret_int (by unfold scaleI; omega), rfl⟩
    · have g1 : (-p) % 65536 = 0 := by omega
      rw [g1] at m
      have D : Hid (-(-p / 65536) = (p + 32768) / 65536) := show -(-p / 65536) = (p + 32768) / 65536 from by omega
      clear g
      go_enter Try.func32, Try.ntmps32
      go_wp2
      go_ret
      exact ⟨ret_int (by unfold scaleI; exact D.out), rfl⟩
  · rcases Int.lt_or_le (p % 65536) 32768 with g1 | g1
    · go_enter Try.func32, Try.ntmps32
      go_wp2
      go_ret
      exact ⟨ret_int (by unfold scaleI; omega), rfl⟩
    · go_enter Try.func32, Try.ntmps32
      go_wp2
      go_ret
      exact ⟨ret_int (by unfold scaleI; omega), rfl⟩

set_option maxHeartbeats 400000 in
theorem rmul_any (a b : Int) (a1 : -2147483648 ≤ a) (a2 : a ≤ 2147483647) (b1 : -2147483648 ≤ b) (b2 : b ≤ 2147483647) (w : World) :
    Calls Try.prog 19 #[.int .i32 a, .int .i32 b] w fun e w' => e = .returned (.int .i32 (mulI a b)) ∧ w' = w := by
  have h := mul_bd (A := 2147483648) (B := 2147483648) a1 (by omega) b1 (by omega)
  go_enter Try.func19, Try.ntmps19
  go_wp2_with (first | (go_at_call 32; refine (rover_any _ _ (by omega) (by omega) _).mono ?_; rintro e w' ⟨rfl, rfl⟩) | (go_at_call 21; refine (rsat_any _ _).mono ?_; rintro e w' ⟨rfl, rfl⟩))
  go_ret
  exact ⟨rfl, rfl⟩

theorem div_bd {n b P : Int} (n0 : 0 ≤ n) (b0 : 0 < b) (h : n ≤ P) : 0 ≤ n / b ∧ n / b ≤ P := by
  have h1 := Int.ediv_nonneg n0 (Int.le_of_lt b0)
  have h2 := Int.ediv_le_self b n0
  omega

set_option maxHeartbeats 400000 in
theorem rdiv_any (a b : Int) (a1 : -2147483648 ≤ a) (a2 : a ≤ 2147483647) (b1 : -2147483648 ≤ b) (b2 : b ≤ 2147483647) (w : World) :
    Calls Try.prog 20 #[.int .i32 a, .int .i32 b] w fun e w' => e = .returned (.int .i32 (divI a b)) ∧ w' = w := by
  rcases Int.lt_or_le b 0 with hb | hb
  · have t : (b == 0) = false := beq_eq_false_iff_ne.2 (by omega)
    have e : divI a b = s32 ((a * 65536).tdiv b) := by unfold divI; rw [if_neg (by omega)]
    rw [e]
    clear e
    rcases Int.lt_or_le a 0 with ha | ha
    · go_enter Try.func20, Try.ntmps20
      go_wp2_with (go_at_call 21; refine (rsat_any _ _).mono ?_; rintro e w' ⟨rfl, rfl⟩)
      go_ret
      exact ⟨ret_int (by have q := tdiv_bd (n := a * 65536) (b := b) (P := 140737488355328) (by omega) (by omega); simp (disch := omega) only [IntWalk.wrap64_in]), rfl⟩
    · go_enter Try.func20, Try.ntmps20
      go_wp2_with (go_at_call 21; refine (rsat_any _ _).mono ?_; rintro e w' ⟨rfl, rfl⟩)
      go_ret
      exact ⟨ret_int (by have q := tdiv_bd (n := a * 65536) (b := b) (P := 140737488355328) (by omega) (by omega); simp (disch := omega) only [IntWalk.wrap64_in, Int.neg_neg]), rfl⟩
  · rcases Int.lt_or_le 0 b with hb' | hb'
    · have t : (b == 0) = false := beq_eq_false_iff_ne.2 (by omega)
      have e : divI a b = s32 ((a * 65536).tdiv b) := by unfold divI; rw [if_neg (by omega)]
      rw [e]
      clear e
      rcases Int.lt_or_le a 0 with ha | ha
      · go_enter Try.func20, Try.ntmps20
        go_wp2_with (go_at_call 21; refine (rsat_any _ _).mono ?_; rintro e w' ⟨rfl, rfl⟩)
        go_ret
        exact ⟨ret_int (by have q := tdiv_bd (n := a * 65536) (b := b) (P := 140737488355328) (by omega) (by omega); simp (disch := omega) only [IntWalk.wrap64_in, Int.neg_neg]), rfl⟩
      · have e : (a * 65536).tdiv b = (a * 65536) / b := Int.tdiv_eq_ediv_of_nonneg (by omega)
        rw [e]
        clear e
        have q := div_bd (n := a * 65536) (b := b) (P := 140737488355328) (by omega) (by omega) (by omega)
        go_enter Try.func20, Try.ntmps20
        go_wp2_with (go_at_call 21; refine (rsat_any _ _).mono ?_; rintro e w' ⟨rfl, rfl⟩)
        go_ret
        exact ⟨rfl, rfl⟩
    · have e : b = 0 := by omega
      subst e
      have e : divI a 0 = endI a := rfl
      rw [e]
      clear e
      rcases Int.lt_or_le 0 a with h | h
      · go_enter Try.func20, Try.ntmps20
        go_wp2
        go_ret
        exact ⟨ret_int (by unfold endI; rw [if_pos h]), rfl⟩
      · rcases Int.lt_or_le a 0 with h' | h'
        · go_enter Try.func20, Try.ntmps20
          go_wp2
          go_ret
          exact ⟨ret_int (by unfold endI; rw [if_neg (by omega), if_pos h']), rfl⟩
        · go_enter Try.func20, Try.ntmps20
          go_wp2
          go_ret
          exact ⟨ret_int (by unfold endI; rw [if_neg (by omega), if_neg (by omega)]), rfl⟩

end Go.Proofs.Ytbpenfjnfoljoaa
