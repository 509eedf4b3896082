/-
  '==' of two arrays of five bools, or of five counts, that are alike.
-/
import Derived.Test.YthfbdnhhmnehaaaRows
import Derived.WalkKit
import Derived.ChangeKeysEq
import Derived.Laws.StructEq
namespace Go.Proofs.Ythfbdnhhmnehaaa
open Go.RowKit

theorem eq5b (a b c d e : Bool) (w : World) : (Op.equalIn 10000 36 (.agg #[.bool a, .bool b, .bool c, .bool d, .bool e]) (.agg #[.bool a, .bool b, .bool c, .bool d, .bool e])).run Try.prog w = .ok true w := by
  obtain ⟨i, hi⟩ : ∃ i, Try.prog.info? 4 = some i := by
    cases h : Try.prog.info? 4 with
    | none => exact absurd (congrArg Option.isSome h) (by rw [show (Try.prog.info? 4).isSome = true from by kernel_rfl]; decide)
    | some i => exact ⟨i, rfl⟩
  rw [show (10000 : Nat) = 9999 + 1 from rfl, run_equalIn_array w 9999 _ _ Try.underlying36 hi]
  rw [show List.range 5 = [0, 1, 2, 3, 4] from rfl, show Try.prog.cellsOf 4 = 1 from by kernel_rfl]
  simp [Op.eqItems, go_sem]

set_option maxHeartbeats 2000000 in
theorem eq5c (n0 n1 n2 n3 n4 : Int) (s0 s1 s2 s3 s4 : Bool) (w : World) : (Op.equalIn 10000 29 (.agg #[.int .i64 n0, .bool s0, .int .i64 n1, .bool s1, .int .i64 n2, .bool s2, .int .i64 n3, .bool s3, .int .i64 n4, .bool s4]) (.agg #[.int .i64 n0, .bool s0, .int .i64 n1, .bool s1, .int .i64 n2, .bool s2, .int .i64 n3, .bool s3, .int .i64 n4, .bool s4])).run Try.prog w = .ok true w := by
  obtain ⟨i, hi⟩ : ∃ i, Try.prog.info? 28 = some i := by
    cases h : Try.prog.info? 28 with
    | none => exact absurd (congrArg Option.isSome h) (by rw [show (Try.prog.info? 28).isSome = true from by kernel_rfl]; decide)
    | some i => exact ⟨i, rfl⟩
  rw [show (10000 : Nat) = 9999 + 1 from rfl, run_equalIn_array w 9999 _ _ Try.underlying29 hi]
  rw [show List.range 5 = [0, 1, 2, 3, 4] from rfl, show Try.prog.cellsOf 28 = 2 from by kernel_rfl]
  simp [Op.eqItems, go_sem]

end Go.Proofs.Ythfbdnhhmnehaaa
