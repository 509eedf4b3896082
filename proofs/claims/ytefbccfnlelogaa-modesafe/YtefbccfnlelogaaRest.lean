/-
  Contract of the document's Rest: a rest that is never below 0. (The same as in Flip: a seat has the one or the other.)
-/
import Derived.Test.YtefbccfnlelogaaRows
import Derived.WalkKit
import Derived.WalkSpells
import Derived.WalkLawsBesides
import Derived.Handy
namespace Go.Proofs.Ytefbccfnlelogaa
open Go.RowKit
set_option linter.unusedVariables false

theorem tmod_neg0 {x : Int} (h : x < 0) (n : Int) : x.tmod n = -((-x) % n) := by
  have e : x = -(-x) := by omega
  rw [e, Int.neg_tmod, Int.tmod_eq_emod_of_nonneg (by omega)]
  simp
theorem rest_eq (a n : Int) (n1 : 0 < n) (n2 : n ≤ 65536) : (wrap64 (a.tmod n + n)).tmod n = a % n := by
  rcases Int.lt_or_le a 0 with h | h
  · rw [tmod_neg0 h]
    have h1 := Int.emod_nonneg (-a) (show n ≠ 0 by omega)
    have h2 := Int.emod_lt_of_pos (-a) n1
    rw [IntWalk.wrap64_in _ (by omega), Int.tmod_eq_emod_of_nonneg (by omega), Int.add_emod_right]
    have e : -(-a % n) = a - n * ((a + -a % n) / n) := by
      have := Int.mul_ediv_add_emod (-a) n
      have q : (a + -a % n) = n * (-((-a) / n)) := by rw [Int.mul_neg]; omega
      rw [q, Int.mul_ediv_cancel_left _ (by omega), Int.mul_neg]; omega
    rw [e, Int.sub_mul_emod_self_left]
  · rw [Int.tmod_eq_emod_of_nonneg h]
    have h1 := Int.emod_nonneg a (show n ≠ 0 by omega)
    have h2 := Int.emod_lt_of_pos a n1
    rw [IntWalk.wrap64_in _ (by omega), Int.tmod_eq_emod_of_nonneg (by omega), Int.add_emod_right, Int.emod_emod]

set_option maxHeartbeats 400000 in
theorem rrest_any (a n : Int) (n1 : 0 < n) (n2 : n ≤ 65536) (w : World) :
    Calls Try.prog 13 #[.int .i64 a, .int .i64 n] w fun e w' => e = .returned (.int .i64 (a % n)) ∧ w' = w := by
  go_enter Try.func13, Try.ntmps13
  go_wp2
  go_ret
  exact ⟨congrArg (fun x => Ending.returned (.int .i64 x)) (rest_eq a n n1 n2), rfl⟩

end Go.Proofs.Ytefbccfnlelogaa
