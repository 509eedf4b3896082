/-
  Contracts: the document's own answers of filters (package steadref: Low, abs, Rate, Dead, Trip) return what a plain function of whole numbers gives, and leave memory as it was.
-/
import Derived.Test.YtebfjlgmljfnlaaFilt
import Derived.Test.YtebfjlgmljfnlaaRefSat
import Derived.Deep.LoopGhost
namespace Go.Proofs.Ytebfjlgmljfnlaa
open Go.RowKit
set_option linter.unusedVariables false

theorem div_le {S : Int} (h : 0 ≤ S) (k : Nat) : 0 ≤ S / 2 ^ k ∧ S / 2 ^ k ≤ S :=
  ⟨Int.ediv_nonneg h (by have := pow2_pos k; omega), Int.ediv_le_self _ h⟩

theorem trip_or (on : Bool) (x a b : Int) : tripB on x a b = (decide ((if a < b then b else a) < x) || (on && decide ((if a < b then a else b) ≤ x))) := by
  unfold tripB
  cases on
  · simp
  · by_cases h : a < b
    · simp [h]; omega
    · simp [h]; omega

set_option maxHeartbeats 800000 in
theorem rtrip_any (on : Bool) (x a b : Int) (w : World) :
    Calls Try.prog 14 #[.bool on, .int .i32 x, .int .i32 a, .int .i32 b] w fun e w' => e = .returned (.bool (tripB on x a b)) ∧ w' = w := by
  rw [trip_or]
  rcases Int.lt_trichotomy a b with h | h | h
  · rw [if_pos h, if_pos h]
    go_enter Try.func14, Try.ntmps14
    go_wp2
    all_goals (go_ret; exact ⟨by simp [*], rfl⟩)
  · subst h
    rw [if_neg (show ¬ a < a by omega)]
    go_enter Try.func14, Try.ntmps14
    go_wp2
    all_goals (go_ret; exact ⟨by simp [*], rfl⟩)
  · rw [if_neg (show ¬ a < b by omega), if_neg (show ¬ a < b by omega)]
    go_enter Try.func14, Try.ntmps14
    go_wp2
    all_goals (go_ret; exact ⟨by simp [*], rfl⟩)

end Go.Proofs.Ytebfjlgmljfnlaa
