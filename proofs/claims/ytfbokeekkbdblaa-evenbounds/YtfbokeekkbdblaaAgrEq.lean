/-
  Four numbers, or four bools, are what they are: '==' of two arrays that are alike.
-/
import Derived.Test.YtfbokeekkbdblaaRows
import Derived.WalkKit
import Derived.ChangeKeysEq
namespace Go.Proofs.Ytfbokeekkbdblaa
open Go.RowKit

theorem eq4i (a b c d : Int) (w : World) : (Op.equalIn 10000 22 (.agg #[.int .i32 a, .int .i32 b, .int .i32 c, .int .i32 d]) (.agg #[.int .i32 a, .int .i32 b, .int .i32 c, .int .i32 d])).run Try.prog w = .ok true w := by
  obtain ⟨i, hi⟩ : ∃ i, Try.prog.info? 21 = some i := by
    cases h : Try.prog.info? 21 with
    | none => exact absurd (congrArg Option.isSome h) (by rw [show (Try.prog.info? 21).isSome = true from by kernel_rfl]; decide)
    | some i => exact ⟨i, rfl⟩
  rw [show (10000 : Nat) = 9999 + 1 from rfl, run_equalIn_array w 9999 _ _ Try.underlying22 hi]
  rw [show List.range 4 = [0, 1, 2, 3] from rfl, show Try.prog.cellsOf 21 = 1 from by kernel_rfl]
  simp [Op.eqItems, go_sem]

end Go.Proofs.Ytfbokeekkbdblaa
