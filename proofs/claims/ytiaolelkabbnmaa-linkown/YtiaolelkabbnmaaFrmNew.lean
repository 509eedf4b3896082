/-
  Contracts of frame.Newer and of the document's own: is a ahead of b, as numbers go round.
-/
import Derived.Test.YtiaolelkabbnmaaRows
import Derived.WalkKit
import Derived.WalkSpells
import Derived.WalkLawsBesides
import Derived.Handy
namespace Go.Proofs.Ytiaolelkabbnmaa
open Go.RowKit
set_option linter.unusedVariables false

/-- is a ahead of b -/
def newB (a b : Int) : Bool := decide (1 ≤ (a - b) % 256 ∧ (a - b) % 256 ≤ 127)

theorem u8_of {a : Int} (h : (Lit.int .u8 a).wf = true) : 0 ≤ a ∧ a < 256 := by
  have := bounds_u8 h
  omega

set_option maxHeartbeats 400000 in
theorem newer_any (a b : Int) (w : World) :
    Calls Try.prog 21 #[.int .u8 a, .int .u8 b] w fun e w' => e = .returned (.bool (newB a b)) ∧ w' = w := by
  have hw : IntKind.u8.wrap (a - b) = (a - b) % 256 := by rw [IntKind.wrap_u8]
  have H : Hid (newB a b = decide (1 ≤ (a - b) % 256 ∧ (a - b) % 256 ≤ 127)) := rfl
  have h0 : 0 ≤ (a - b) % 256 := Int.emod_nonneg _ (by decide)
  have h1 : (a - b) % 256 < 256 := Int.emod_lt_of_pos _ (by decide)
  generalize (a - b) % 256 = d at hw H h0 h1
  go_enter Try.func21, Try.ntmps21
  rcases Int.lt_or_le d 1 with p | p
  · have e : newB a b = false := by rw [H.out]; exact decide_eq_false (by omega)
    rw [e]
    go_wp2
    go_ret
    exact ⟨rfl, rfl⟩
  rcases Int.lt_or_le 127 d with q | q
  · have q2 : decide (d ≤ 127) = false := decide_eq_false (by omega)
    have e : newB a b = false := by rw [H.out]; exact decide_eq_false (by omega)
    rw [e]
    go_wp2
    go_ret
    exact ⟨rfl, rfl⟩
  · have e : newB a b = true := by rw [H.out]; exact decide_eq_true (by omega)
    rw [e]
    go_wp2
    go_ret
    exact ⟨rfl, rfl⟩

set_option maxHeartbeats 400000 in
theorem rnewer_any (a b : Int) (w : World) (a0 : 0 ≤ a) (a1 : a < 256) (b0 : 0 ≤ b) (b1 : b < 256) :
    Calls Try.prog 34 #[.int .u8 a, .int .u8 b] w fun e w' => e = .returned (.bool (newB a b)) ∧ w' = w := by
  have H : Hid (newB a b = decide (1 ≤ (a - b) % 256 ∧ (a - b) % 256 ≤ 127)) := rfl
  have hw : (a - b + 256).tmod 256 = (a - b) % 256 := by rw [Int.tmod_eq_emod_of_nonneg (by omega)]; omega
  have h0 : 0 ≤ (a - b) % 256 := Int.emod_nonneg _ (by decide)
  have h1 : (a - b) % 256 < 256 := Int.emod_lt_of_pos _ (by decide)
  have hw2 : (a - b + 256) % 256 = (a - b) % 256 := by omega
  generalize (a - b) % 256 = d at hw hw2 H h0 h1
  go_enter Try.func34, Try.ntmps34
  rcases Int.lt_or_le d 1 with p | p
  · have e : newB a b = false := by rw [H.out]; exact decide_eq_false (by omega)
    rw [e]
    go_wp2
    go_ret
    exact ⟨rfl, rfl⟩
  rcases Int.lt_or_le 127 d with q | q
  · have q2 : decide (d ≤ 127) = false := decide_eq_false (by omega)
    have e : newB a b = false := by rw [H.out]; exact decide_eq_false (by omega)
    rw [e]
    go_wp2
    go_ret
    exact ⟨rfl, rfl⟩
  · have e : newB a b = true := by rw [H.out]; exact decide_eq_true (by omega)
    rw [e]
    go_wp2
    go_ret
    exact ⟨rfl, rfl⟩

end Go.Proofs.Ytiaolelkabbnmaa
