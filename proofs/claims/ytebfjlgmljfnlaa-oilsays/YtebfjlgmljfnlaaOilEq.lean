/-
  '==' of two arrays of two bools that are alike.
-/
import Derived.Test.YtebfjlgmljfnlaaRows
import Derived.WalkKit
import Derived.ChangeKeysEq
import Derived.Laws.StructEq
namespace Go.Proofs.Ytebfjlgmljfnlaa
open Go.RowKit

theorem eq2b (a b : Bool) (w : World) : (Op.equalIn 10000 22 (.agg #[.bool a, .bool b]) (.agg #[.bool a, .bool b])).run Try.prog w = .ok true w := by
  obtain ⟨i, hi⟩ : ∃ i, Try.prog.info? 4 = some i := by
    cases h : Try.prog.info? 4 with
    | none => exact absurd (congrArg Option.isSome h) (by rw [show (Try.prog.info? 4).isSome = true from by kernel_rfl]; decide)
    | some i => exact ⟨i, rfl⟩
  rw [show (10000 : Nat) = 9999 + 1 from rfl, run_equalIn_array w 9999 _ _ Try.underlying22 hi]
  rw [show List.range 2 = [0, 1] from rfl, show Try.prog.cellsOf 4 = 1 from by kernel_rfl]
  simp [Op.eqItems, go_sem]

end Go.Proofs.Ytebfjlgmljfnlaa
