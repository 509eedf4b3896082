/-
  Contracts: the document's own answers (package steadref: Sat, bound, half, Clamp, Rest, Shift) return what a plain function of whole numbers gives, and leave memory as it was.
-/
import Derived.Test.YtebfjlgmljfnlaaShift
import Derived.Handy
namespace Go.Proofs.Ytebfjlgmljfnlaa
open Go.RowKit

theorem tdiv_neg2 {x : Int} (h : x < 0) (n : Int) : x.tdiv n = -((-x) / n) := by
  have e : x = -(-x) := by omega
  rw [e, Int.neg_tdiv, Int.tdiv_eq_ediv_of_nonneg (by omega)]
  simp
theorem tmod_neg2 {x : Int} (h : x < 0) (n : Int) : x.tmod n = -((-x) % n) := by
  have e : x = -(-x) := by omega
  rw [e, Int.neg_tmod, Int.tmod_eq_emod_of_nonneg (by omega)]
  simp

theorem rest_eq (a n : Int) (n1 : 0 < n) (n2 : n ≤ 65536) : (wrap64 (a.tmod n + n)).tmod n = a % n := by
  rcases Int.lt_or_le a 0 with h | h
  · rw [tmod_neg2 h]
    have h1 := Int.emod_nonneg (-a) (show n ≠ 0 by omega)
    have h2 := Int.emod_lt_of_pos (-a) n1
    rw [IntWalk.wrap64_in _ (by omega), Int.tmod_eq_emod_of_nonneg (by omega), Int.add_emod_right]
    have e : -(-a % n) = a - n * ((a + -a % n) / n) := by
      have := Int.mul_ediv_add_emod (-a) n
      have q : (a + -a % n) = n * (-((-a) / n)) := by rw [Int.mul_neg]; omega
      rw [q, Int.mul_ediv_cancel_left _ (by omega), Int.mul_neg]; omega
    rw [e, Int.sub_mul_emod_self_left]
  · rw [Int.tmod_eq_emod_of_nonneg h]
    have h1 := Int.emod_nonneg a (show n ≠ 0 by omega)
    have h2 := Int.emod_lt_of_pos a n1
    rw [IntWalk.wrap64_in _ (by omega), Int.tmod_eq_emod_of_nonneg (by omega), Int.add_emod_right, Int.emod_emod]

theorem clampI_eq_le {a b c : Int} (h : b ≤ c) : clampI a b c = bnd a b c := by unfold clampI; rw [if_neg (by omega)]
theorem clampI_eq_gt {a b c : Int} (h : c < b) : clampI a b c = bnd a c b := by unfold clampI; rw [if_pos h]
theorem bnd_in {a b c : Int} (h : b ≤ c) : b ≤ bnd a b c ∧ bnd a b c ≤ c := by unfold bnd; repeat' split
                                                                               all_goals omega

theorem div_step (a : Int) (k : Nat) : a / 2 ^ k / 2 = a / 2 ^ (k + 1) := by
  rw [Int.ediv_ediv_of_nonneg (Int.le_of_lt (pow_pos2 k)), ← Int.pow_succ]
theorem mul_step (a : Int) (k : Nat) : a * 2 ^ k * 2 = a * 2 ^ (k + 1) := by
  rw [Int.mul_assoc, ← Int.pow_succ]
theorem div_pow_bd {a : Int} (k : Nat) (a1 : -2147483648 ≤ a) (a2 : a ≤ 2147483647) : -2147483648 ≤ a / 2 ^ k ∧ a / 2 ^ k ≤ 2147483647 := by
  have p := pow_pos2 k
  constructor
  · refine (Int.le_ediv_iff_mul_le p).2 ?_
    have : -2147483648 * 2 ^ k ≤ -2147483648 * 1 := Int.mul_le_mul_of_nonpos_left (by decide) p
    omega
  · rcases Int.lt_or_le a 0 with h | h
    · have := Int.ediv_neg_of_neg_of_pos h p
      omega
    · have := Int.ediv_le_self (2 ^ k) h
      omega

end Go.Proofs.Ytebfjlgmljfnlaa
