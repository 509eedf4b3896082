/-
  Contract of the verifier's own 'apart': how far two numbers are from each other.
-/
import Derived.Test.YtihcioghbidblaaSat
namespace Go.Proofs.Ytihcioghbidblaa
open Go.RowKit

set_option maxHeartbeats 400000 in
theorem apart_any (a b : Int) (a1 : -2147483648 ≤ a) (a2 : a ≤ 2147483647) (b1 : -2147483648 ≤ b) (b2 : b ≤ 2147483647) (w : World) :
    Calls Try.prog 13 #[.int .i32 a, .int .i32 b] w fun e w' => e = .returned (.int .i64 (absI (a - b))) ∧ w' = w := by
  rcases Int.lt_or_le (a - b) 0 with h | h
  · go_enter Try.func13, Try.ntmps13
    go_wp2
    go_ret
    exact ⟨ret_int (by unfold absI; rw [if_pos h]), rfl⟩
  · go_enter Try.func13, Try.ntmps13
    go_wp2
    go_ret
    exact ⟨ret_int (by unfold absI; rw [if_neg (by omega)]), rfl⟩

end Go.Proofs.Ytihcioghbidblaa
