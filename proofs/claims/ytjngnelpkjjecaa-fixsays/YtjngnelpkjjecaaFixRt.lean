/-
  Contracts: fix.root, fix.Sqrt and the document's own Sqrt return the greatest number whose square is not above what was handed in, and leave memory as it was.
-/
import Derived.Test.YtjngnelpkjjecaaFix
namespace Go.Proofs.Ytjngnelpkjjecaa
open Go.RowKit

theorem root_ex (n : Nat) : ∃ x : Nat, x * x ≤ n ∧ n < (x + 1) * (x + 1) := by
  induction n with
  | zero => exact ⟨0, by decide, by decide⟩
  | succ n ih =>
    obtain ⟨x, h1, h2⟩ := ih
    by_cases h : n + 1 < (x + 1) * (x + 1)
    · exact ⟨x, by omega, h⟩
    · refine ⟨x + 1, by omega, ?_⟩
      have : (x + 1) * (x + 1) < (x + 1 + 1) * (x + 1 + 1) := Nat.mul_lt_mul_of_lt_of_le (by omega) (by omega) (by omega)
      omega
theorem root_int (n : Int) (h : 0 ≤ n) : ∃ x : Int, 0 ≤ x ∧ x * x ≤ n ∧ n < (x + 1) * (x + 1) := by
  obtain ⟨m, rfl⟩ := Int.eq_ofNat_of_zero_le h
  obtain ⟨x, h1, h2⟩ := root_ex m
  exact ⟨x, by omega, by exact_mod_cast h1, by exact_mod_cast h2⟩
theorem sq_le {a b : Int} (a0 : 0 ≤ a) (h : a ≤ b) : a * a ≤ b * b := Int.mul_le_mul h h a0 (by omega)
theorem lt_of_sq {a b : Int} (b0 : 0 ≤ b) (h : a * a < b * b) : a < b := by
  rcases Int.lt_or_le a b with g | g
  · exact g
  · have := sq_le b0 g
    omega

/-- how far a root has come: all its bits, or those from P on upward -/
def Rt (x r P : Int) : Prop := P = 0 ∧ r = x ∨ ∃ k : Nat, k ≤ 24 ∧ P = 2 ^ k ∧ r = x / (2 * P) * (2 * P)
theorem Rt.step {x P : Int} {k : Nat} (hk : k ≤ 24) (h : P = 2 ^ k) : Rt x (x / P * P) (P / 2) := by
  cases k with
  | zero =>
    left
    subst h
    simp
  | succ k =>
    right
    have e : P / 2 = 2 ^ k := by
      rw [h, Int.pow_succ]
      omega
    have e2 : 2 * (P / 2) = P := by
      rw [e, h, Int.pow_succ]
      omega
    exact ⟨k, by omega, e, by rw [e2]⟩
theorem pow_le24 {k : Nat} (h : k ≤ 24) : (2 : Int) ^ k ≤ 16777216 := by
  have h1 : (2 : Nat) ^ k ≤ 2 ^ 24 := Nat.pow_le_pow_right (by decide) h
  have h2 : ((2 ^ k : Nat) : Int) ≤ ((2 ^ 24 : Nat) : Int) := Int.ofNat_le.2 h1
  simpa using h2
/-- one bit more -/
theorem half_step {x P : Int} (p : 0 < P) : x / (2 * P) * (2 * P) + P ≤ x ∧ x / P * P = x / (2 * P) * (2 * P) + P ∨ x < x / (2 * P) * (2 * P) + P ∧ x / P * P = x / (2 * P) * (2 * P) := by
  have e1 := Int.mul_ediv_add_emod x (2 * P)
  have e2 := Int.mul_ediv_add_emod x P
  have l1 := Int.emod_nonneg x (show 2 * P ≠ 0 by omega)
  have l2 := Int.emod_lt_of_pos x (show 0 < 2 * P by omega)
  have m1 := Int.emod_nonneg x (show P ≠ 0 by omega)
  have m2 := Int.emod_lt_of_pos x p
  rw [Int.mul_comm] at e1 e2
  rcases Int.lt_or_le x (x / (2 * P) * (2 * P) + P) with h | h
  · right
    refine ⟨h, ?_⟩
    have q : x / P = 2 * (x / (2 * P)) := by
      apply Int.le_antisymm
      · refine Int.lt_add_one_iff.1 ((Int.ediv_lt_iff_lt_mul p).2 ?_)
        rw [Int.add_mul, Int.mul_assoc, Int.mul_left_comm 2]
        omega
      · refine (Int.le_ediv_iff_mul_le p).2 ?_
        rw [Int.mul_assoc, Int.mul_left_comm 2]
        omega
    rw [q, Int.mul_assoc, Int.mul_left_comm 2]
  · left
    refine ⟨h, ?_⟩
    have q : x / P = 2 * (x / (2 * P)) + 1 := by
      apply Int.le_antisymm
      · refine Int.lt_add_one_iff.1 ((Int.ediv_lt_iff_lt_mul p).2 ?_)
        rw [Int.add_mul, Int.add_mul, Int.mul_assoc, Int.mul_left_comm 2]
        omega
      · refine (Int.le_ediv_iff_mul_le p).2 ?_
        rw [Int.add_mul, Int.mul_assoc, Int.mul_left_comm 2]
        omega
    rw [q, Int.add_mul, Int.mul_assoc, Int.mul_left_comm 2]
    omega

/-- what a round of the search knows -/
theorem Rt.facts {n x r P : Int} (x0 : 0 ≤ x) (x1 : x < 16777216) (h1 : x * x ≤ n) (h2 : n < (x + 1) * (x + 1)) (h : Rt x r P) :
    P = 0 ∧ r = x ∨ (0 < P ∧ P ≤ 16777216 ∧ 0 ≤ r ∧ r < 16777216 ∧ bits .or .i64 r P = r + P ∧ 0 ≤ (r + P) * (r + P) ∧ (r + P) * (r + P) ≤ 1125899906842624 ∧ ((r + P) * (r + P) ≤ n ∧ Rt x (r + P) (P / 2) ∨ n < (r + P) * (r + P) ∧ Rt x r (P / 2))) := by
  rcases h with h | ⟨k, hk, hP, hr⟩
  · exact Or.inl h
  · right
    have p0 : 0 < P := by rw [hP]; exact pow_pos2 k
    have p1 : P ≤ 16777216 := by rw [hP]; exact pow_le24 hk
    have s := half_step (x := x) p0
    rw [← hr] at s
    have st := Rt.step (x := x) hk hP
    have r0 : 0 ≤ r := by rw [hr]; exact Int.mul_nonneg (Int.ediv_nonneg x0 (by omega)) (by omega)
    have r1 : r ≤ x := by
      have e1 := Int.mul_ediv_add_emod x (2 * P)
      have l1 := Int.emod_nonneg x (show 2 * P ≠ 0 by omega)
      rw [Int.mul_comm] at e1
      omega
    have r2 : r < 16777216 := by omega
    have o : bits .or .i64 r P = r + P := by
      refine bits_join .i64 63 (by decide) wraps_i64 (k + 1) r P r0 ?_ (by omega) (by omega) ?_ (by omega)
      · rw [hr, Int.pow_succ, ← hP, Int.mul_comm P 2]
        exact Int.mul_emod_left _ _
      · rw [Int.pow_succ, ← hP]
        omega
    have q0 := sq_le (a := 0) (b := r + P) (by decide) (by omega)
    have q1 := sq_le (a := r + P) (b := 33554432) (by omega) (by omega)
    refine ⟨p0, p1, r0, r2, o, by omega, by omega, ?_⟩
    rcases s with ⟨g, e⟩ | ⟨g, e⟩
    · left
      have := sq_le (a := r + P) (b := x) (by omega) g
      rw [e] at st
      exact ⟨by omega, st⟩
    · right
      have := sq_le (a := x + 1) (b := r + P) (by omega) (by omega)
      rw [e] at st
      exact ⟨by omega, st⟩

set_option maxHeartbeats 400000 in
theorem root_any (n x : Int) (n1 : n ≤ 140737488355328) (x0 : 0 ≤ x) (h1 : x * x ≤ n) (h2 : n < (x + 1) * (x + 1)) (w : World) :
    Calls Try.prog 22 #[.int .i64 n] w fun e w' => e = .returned (.int .i64 x) ∧ w' = w := by
  have x1 : x < 16777216 := lt_of_sq (by decide) (by omega)
  go_enter Try.func22, Try.ntmps22
  go_wp2
  go_loop [3, 4] (fun r b => ∃ r' P : Int, Rt x r' P ∧ r = .int .i64 r' ∧ b = .int .i64 P) (fun _ b => (intOf b).toNat)
  case atStart => exact ⟨0, 8388608, Or.inr ⟨23, by decide, by decide, by rw [Int.ediv_eq_zero_of_lt x0 (by omega)]; rfl⟩, rfl, rfl⟩
  case round =>
    obtain ⟨r, P, hr, rfl, rfl⟩ := hrel
    rcases Rt.facts x0 x1 h1 h2 hr with ⟨rfl, rfl⟩ | ⟨p0, p1, r0, r1, o, q0, q1, ⟨g, st⟩ | ⟨g, st⟩⟩
    · clear h1 h2 hr
      go_wp2
      go_ret
      exact ⟨rfl, rfl⟩
    · clear h1 h2 hr
      go_wp2
      go_round
      case rel => exact ⟨r + P, P / 2, st, rfl, rfl⟩
      case measure => simp [intOf]; omega
    · clear h1 h2 hr
      go_wp2
      go_round
      case rel => exact ⟨r, P / 2, st, rfl, rfl⟩
      case measure => simp [intOf]; omega

set_option maxHeartbeats 400000 in
theorem sqrt_any (a x : Int) (a0 : 0 ≤ a) (a2 : a ≤ 2147483647) (x0 : 0 ≤ x) (h1 : x * x ≤ a * 65536) (h2 : a * 65536 < (x + 1) * (x + 1)) (w : World) :
    Calls Try.prog 9 #[.int .i32 a] w fun e w' => e = .returned (.tuple #[.int .i32 x, .int .i64 0]) ∧ w' = w := by
  have x1 : x < 16777216 := lt_of_sq (by decide) (by omega)
  go_enter Try.func9, Try.ntmps9
  go_wp2_with (go_at_call 22; refine (root_any _ x (by omega) x0 h1 h2 _).mono ?_; rintro e w' ⟨rfl, rfl⟩)
  go_ret2
  exact ⟨rfl, rfl⟩

set_option maxHeartbeats 400000 in
theorem sqrt_neg (a : Int) (a0 : a < 0) (w : World) :
    Calls Try.prog 9 #[.int .i32 a] w fun e w' => e = .returned (.tuple #[.int .i32 0, .int .i64 1]) ∧ w' = w := by
  go_enter Try.func9, Try.ntmps9
  go_wp2
  go_ret2
  exact ⟨rfl, rfl⟩

set_option maxHeartbeats 400000 in
theorem rsqrt_any (a x : Int) (a0 : 0 ≤ a) (a2 : a ≤ 2147483647) (x0 : 0 ≤ x) (h1 : x * x ≤ a * 65536) (h2 : a * 65536 < (x + 1) * (x + 1)) (w : World) :
    Calls Try.prog 10 #[.int .i32 a] w fun e w' => e = .returned (.int .i32 x) ∧ w' = w := by
  have x1 : x < 16777216 := lt_of_sq (by decide) (by omega)
  go_enter Try.func10, Try.ntmps10
  go_wp2
  go_loop [4, 5] (fun r b => ∃ r' P : Int, Rt x r' P ∧ r = .int .i64 r' ∧ b = .int .i64 P) (fun _ b => (intOf b).toNat)
  case atStart => exact ⟨0, 16777216, Or.inr ⟨24, by decide, by decide, by rw [Int.ediv_eq_zero_of_lt x0 (by omega)]; rfl⟩, rfl, rfl⟩
  case round =>
    obtain ⟨r, P, hr, rfl, rfl⟩ := hrel
    rcases Rt.facts x0 x1 h1 h2 hr with ⟨rfl, rfl⟩ | ⟨p0, p1, r0, r1, o, q0, q1, ⟨g, st⟩ | ⟨g, st⟩⟩
    · clear h1 h2 hr
      go_wp2
      go_ret
      exact ⟨rfl, rfl⟩
    · clear h1 h2 hr
      go_wp2
      go_round
      case rel => exact ⟨r + P, P / 2, st, rfl, rfl⟩
      case measure => simp [intOf]; omega
    · clear h1 h2 hr
      go_wp2
      go_round
      case rel => exact ⟨r, P / 2, st, rfl, rfl⟩
      case measure => simp [intOf]; omega

end Go.Proofs.Ytjngnelpkjjecaa
