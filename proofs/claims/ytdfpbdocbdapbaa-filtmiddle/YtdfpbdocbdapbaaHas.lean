/-
  slices.Index and slices.Contains of a number of 32 bits that is there.
-/
import Derived.Test.YtdfpbdocbdapbaaRows
import Derived.WalkKit
import Derived.WalkSpells
import Derived.WalkLawsBesides
import Derived.Below
import Derived.CellFam
import Derived.Deep.LoopGhost
namespace Go.Proofs.Ytdfpbdocbdapbaa
open Go.RowKit
set_option linter.unusedVariables false

set_option maxHeartbeats 1000000 in
theorem index_in (b off n c i0 : Nat) (l : Nat → Int) (m : Int) (w : World) (hn : n ≤ 1048576) (hi : i0 < n) (he : l i0 = m) (hl : ∀ t, t < n → w.cell? ⟨b, off + t, none⟩ = some (.int .i32 (l t))) :
    Calls Try.prog 36 #[.slice (some ⟨b, off, none⟩) n c, .int .i32 m] w fun e w' => ∃ j : Nat, e = .returned (.int .i64 j) ∧ w' = w := by
  have HE : Hid (l i0 = m) := he
  clear he
  go_enter Try.func36, Try.ntmps36
  go_wp2_with fail
  go_loopg [8] (n + 1) (fun g s wr => ∃ j : Nat, s = .int .i64 j ∧ n - j < g ∧ j ≤ i0 ∧ wr = w)
  case atStart => exact ⟨0, rfl, by omega, by omega, rfl⟩
  case round =>
    obtain ⟨j, rfl, hg, hj, rfl⟩ := hrel
    have z1 : (j : Int) < (n : Int) := by omega
    have x0 := hl j (by omega)
    by_cases e : m = l j
    · have q : (m == l j) = true := by simpa using e
      clear e hl
      generalize l j = y at x0 q
      go_wp2_with fail
      go_ret
      exact ⟨j, rfl, rfl⟩
    · have q : (m == l j) = false := by simpa using e
      have hlt : j < i0 := by
        rcases Nat.lt_or_ge j i0 with k | k
        · exact k
        · exfalso
          have : j = i0 := by omega
          subst this
          exact e HE.out.symm
      clear e
      go_wp2_with fail
      go_roundg (n - (j + 1) + 1)
      case measure => omega
      case rel => exact ⟨j + 1, by go_num, by omega, by omega, rfl⟩

set_option maxHeartbeats 1000000 in
theorem contains_in (b off n c i0 : Nat) (l : Nat → Int) (m : Int) (w : World) (hn : n ≤ 1048576) (hi : i0 < n) (he : l i0 = m) (hl : ∀ t, t < n → w.cell? ⟨b, off + t, none⟩ = some (.int .i32 (l t))) :
    Calls Try.prog 25 #[.slice (some ⟨b, off, none⟩) n c, .int .i32 m] w fun e w' => e = .returned (.bool true) ∧ w' = w := by
  have C := index_in b off n c i0 l m w hn hi he hl
  clear hl he
  go_enter Try.func25, Try.ntmps25
  go_wp2_with fail
  refine C.mono ?_
  rintro e w1 ⟨j, rfl, rfl⟩
  have z : (0 : Int) ≤ (j : Int) := by omega
  go_wp2_with fail
  go_ret
  exact ⟨rfl, rfl⟩

end Go.Proofs.Ytdfpbdocbdapbaa
