/-
  math/bits.OnesCount16: how many parts a set has.
-/
import Derived.Test.YtacophekhknbpaaRows
import Derived.Test.YtacophekhknbpaaSetPlain
import Derived.WalkKit
import Derived.Below
import Derived.Handy
import Derived.ProofKit
import Derived.Deep.QuietTactic
import Derived.BigQuiet
import Derived.Laws.BitsAllLaws
import Derived.Lib.Tables
namespace Go.Proofs.Ytacophekhknbpaa
open Go.RowKit
set_option linter.unusedVariables false

theorem pop8_at : (List.range 256).all (fun s => Lib.pop8 (s : Int) == ((pop s : Nat) : Int)) = true := by decide +kernel

set_option maxHeartbeats 2000000 in
set_option maxRecDepth 100000 in
theorem ones_any (s : Nat) (hs : s < 256) (w : World) : Calls Try.prog 44 #[.int .u16 s] w fun e w' => e = .returned (.int .i64 (pop s : Nat)) ∧ Below w.heap.size w w' := by
  have x1 : (s : Int) / 256 = 0 := by omega
  have x2 : bits .and .u16 (s : Int) 255 = (s : Int) := by
    have := u16_and_nat s 255 (by omega) (by decide)
    rw [show (255 : Int) = ((255 : Nat) : Int) from rfl, this, nat_mask8, Nat.mod_eq_of_lt hs]
  have q1 : Lib.pop8 (s : Int) = ((pop s : Nat) : Int) := by simpa using allB pop8_at hs
  have q0 : Lib.pop8 0 = 0 := by decide +kernel
  have hp := allB pop_small hs
  simp only [decide_eq_true_eq] at hp
  have x3 : ((pop s : Nat) : Int) ≤ 8 := by omega
  have x4 : (s : Int) ≤ 255 := by omega
  go_enter Try.func44, Try.ntmps44
  go_wp2_with fail
  go_quiet (fail)
  go_wp2_with fail
  go_ret
  exact ⟨rfl, ⟨rfl, rfl, rfl, Nat.le_refl _, fun _ _ => rfl⟩⟩

end Go.Proofs.Ytacophekhknbpaa
