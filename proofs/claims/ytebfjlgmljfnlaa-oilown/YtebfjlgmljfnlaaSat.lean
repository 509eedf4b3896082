/-
  Contracts: each call of package sat (and of the verifier's own small helpers) returns what a plain function of whole numbers gives, and leaves memory as it was. For every input of the parameters' kinds.
-/
import Derived.Test.YtebfjlgmljfnlaaRows
import Derived.WalkKit
import Derived.WalkSpells
import Derived.WalkLawsBesides
import Derived.OpenShut
namespace Go.Proofs.Ytebfjlgmljfnlaa
open Go.RowKit

/-- n, or the end that it passes -/
def bnd (n low high : Int) : Int := if n < low then low else if high < n then high else n
/-- the nearest number of 32 bits -/
def s32 (n : Int) : Int := bnd n (-2147483648) 2147483647
/-- clamped between two ends, either way round -/
def clampI (a low high : Int) : Int := if high < low then bnd a high low else bnd a low high
def absI (a : Int) : Int := if a < 0 then -a else a

theorem ret_int {k : IntKind} {a b : Int} (h : a = b) : Ending.returned (.int k a) = .returned (.int k b) := by rw [h]
theorem bnd_low {n low high : Int} (h : n < low) : bnd n low high = low := by unfold bnd; rw [if_pos h]
theorem bnd_high {n low high : Int} (h : low ≤ n) (h' : high < n) : bnd n low high = high := by unfold bnd; rw [if_neg (by omega), if_pos h']
theorem bnd_mid {n low high : Int} (h : low ≤ n) (h' : n ≤ high) : bnd n low high = n := by unfold bnd; rw [if_neg (by omega), if_neg (by omega)]
theorem i32_of {a : Int} (h : (Lit.int .i32 a).wf = true) : -2147483648 ≤ a ∧ a ≤ 2147483647 := bounds_i32 h
theorem i64_of {a : Int} (h : (Lit.int .i64 a).wf = true) : -9223372036854775808 ≤ a ∧ a ≤ 9223372036854775807 := bounds_i64 h

end Go.Proofs.Ytebfjlgmljfnlaa
