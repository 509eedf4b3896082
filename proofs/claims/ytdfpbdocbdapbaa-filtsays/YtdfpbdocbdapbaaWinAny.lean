/-
  filt.Window and slices.Clone, whatever comes in.
-/
import Derived.Test.YtdfpbdocbdapbaaWin
import Derived.Test.YtdfpbdocbdapbaaOpen
namespace Go.Proofs.Ytdfpbdocbdapbaa
open Go.RowKit
set_option linter.unusedVariables false

/-- how many of n numbers stay, where k shall be there in the end -/
def stays (n : Int) (ln : Nat) : Nat := if n - 1 < (ln : Int) then (n - 1).toNat else ln
theorem RowK.below {k : IntKind} {w W : World} {a : Option Addr} {n c : Nat} {l : Nat → Int} (h : RowK k w a n c l) (hb : Below w.heap.size w W) : RowK k W a n c l := by
  obtain ⟨h1, h2, h3, h4⟩ := h
  refine ⟨h1, h2, h3, fun q => ?_⟩
  obtain ⟨b, off, e, h5, h6⟩ := h4 q
  exact ⟨b, off, e, Nat.lt_of_lt_of_le h5 hb.size, fun j hj => (hb.cell (p := ⟨b, off + j, none⟩) h5).trans (h6 j hj)⟩

theorem window_any (la : Option Addr) (ln lc : Nat) (l : Nat → Int) (x n : Int) (w : World) (n1 : 1 ≤ n) (n2 : n ≤ 64) (h64 : ln ≤ 64) (h : RowK .i32 w la ln lc l) :
    Calls Try.prog 13 #[.slice la ln lc, .int .i32 x, .int .i64 n] w fun e w' => ∃ v, e = .returned (.tuple #[v, .int .i64 0]) ∧ w'.ownsRow w.heap.size 21 1 v (stays n ln + 1) (vals l (ln - stays n ln) (stays n ln) ++ [.int .i32 x]) ∧ Below w.heap.size w w' := by
  obtain ⟨h1, h2, _, h4⟩ := h
  unfold maxLen at h2
  rcases Nat.eq_zero_or_pos ln with q | q
  · subst q
    have e : stays n 0 = 0 := by unfold stays; split <;> omega
    rw [e]
    cases la with
    | none =>
      rcases Int.lt_or_le 0 (n - 1) with k | k
      · exact window_nil_gt ⟨0, 0, none⟩ 0 lc x n w n1 n2 (by omega) (by omega) (by omega) k
      · exact window_nil_eq ⟨0, 0, none⟩ 0 lc x n w n1 n2 (by omega) (by omega) (by omega) (by omega)
    | some ad =>
      rcases Int.lt_or_le 0 (n - 1) with k | k
      · exact window_some_gt ad 0 lc x n w n1 n2 (by omega) (by omega) (by omega) k
      · exact window_some_eq ad 0 lc x n w n1 n2 (by omega) (by omega) (by omega) (by omega)
  · obtain ⟨b, off, rfl, hb, hc⟩ := h4 q
    rcases Int.lt_trichotomy (n - 1) (ln : Int) with k | k | k
    · have e : stays n ln = (n - 1).toNat := by unfold stays; rw [if_pos k]
      rw [e]
      rcases Nat.eq_zero_or_pos (n - 1).toNat with z | z
      · have e1 : n = 1 := by omega
        subst e1
        by_cases hcl : lc = ln
        · exact window_one_full ⟨b, off, none⟩ ln lc x 1 w (by omega) (by omega) h64 h1 (by omega) rfl q hcl
        · exact window_one ⟨b, off, none⟩ ln lc x 1 w (by omega) (by omega) h64 h1 (by omega) rfl q hcl
      · exact window_lt b off ln lc _ l x n w n1 n2 h64 h1 (by omega) (by omega) k (by omega) z (fun _ => hb) hc
    · have e : stays n ln = ln := by unfold stays; rw [if_neg (by omega)]
      rw [e]
      exact window_eq b off ln lc ln l x n w n1 n2 h64 h1 (by omega) (Nat.le_refl _) k rfl q (fun _ => hb) hc
    · have e : stays n ln = ln := by unfold stays; rw [if_neg (by omega)]
      rw [e]
      exact window_gt b off ln lc ln l x n w n1 n2 h64 h1 (by omega) (Nat.le_refl _) k rfl q (fun _ => hb) hc

set_option maxHeartbeats 1000000 in
theorem window_arg (la : Option Addr) (ln lc : Nat) (x n : Int) (w : World) (h : n < 1 ∨ 64 < n) :
    Calls Try.prog 13 #[.slice la ln lc, .int .i32 x, .int .i64 n] w fun e w' => e = .returned (.tuple #[.slice none 0 0, .int .i64 1]) ∧ w' = w := by
  rcases h with h | h
  · go_enter Try.func13, Try.ntmps13
    go_wp2_with fail
    go_ret2
    exact ⟨rfl, rfl⟩
  · have h' : ¬ n < 1 := by omega
    go_enter Try.func13, Try.ntmps13
    go_wp2_with fail
    go_ret2
    exact ⟨rfl, rfl⟩

set_option maxHeartbeats 1000000 in
theorem window_large (la : Option Addr) (ln lc : Nat) (x n : Int) (w : World) (n1 : 1 ≤ n) (n2 : n ≤ 64) (h : 64 < ln) :
    Calls Try.prog 13 #[.slice la ln lc, .int .i32 x, .int .i64 n] w fun e w' => e = .returned (.tuple #[.slice none 0 0, .int .i64 2]) ∧ w' = w := by
  have h1 : ¬ n < 1 := by omega
  have h2 : ¬ 64 < n := by omega
  have h3 : (64 : Int) < (ln : Int) := by omega
  go_enter Try.func13, Try.ntmps13
  go_wp2_with fail
  go_ret2
  exact ⟨rfl, rfl⟩

theorem clone_any (la : Option Addr) (ln lc : Nat) (l : Nat → Int) (w : World) (hm : ln ≤ 1048576) (h : RowK .i32 w la ln lc l) :
    Calls Try.prog 14 #[.slice la ln lc] w fun e w' => ∃ v, e = .returned v ∧ w'.ownsRow w.heap.size 21 1 v ln (vals l 0 ln) ∧ Below w.heap.size w w' := by
  obtain ⟨h1, h2, _, h4⟩ := h
  rcases Nat.eq_zero_or_pos ln with q | q
  · subst q
    cases la with
    | none =>
      refine (clone_nil 0 lc w).mono ?_
      rintro e w' ⟨rfl, rfl⟩
      exact ⟨_, rfl, World.ownsRow_nil _ _ _ _, Below.refl _ _⟩
    | some ad => exact clone_some ad 0 lc l w (by omega) (fun j u hu => absurd (vals_at hu).1 (by omega)) (fun k => absurd k (by omega))
  · obtain ⟨b, off, rfl, hb, hc⟩ := h4 q
    exact clone_some ⟨b, off, none⟩ ln lc l w hm (fun j u hu => by
      obtain ⟨k1, rfl⟩ := vals_at hu
      rw [Nat.zero_add, Addr.add_lit]
      exact hc j k1) (fun _ => hb)

/-- of a row that is owned: its capacity; its cells -/
theorem owns_cap {w : World} {N g cap n : Nat} {xs : List Value} (h : w.ownsRow N 21 1 (.slice (some ⟨g, 0, none⟩) n cap) n xs) (hn : 0 < n) : n ≤ cap ∧ cap ≤ maxLen ∧ N ≤ g ∧ g < w.heap.size := by
  rcases h.2 with ⟨_, h0⟩ | ⟨g', cap', cur, hv, hb, hg, h1, h2, _⟩
  · omega
  · simp only [Value.slice.injEq, Option.some.injEq, Addr.mk.injEq] at hv
    obtain ⟨⟨rfl, _⟩, _, rfl⟩ := hv
    refine ⟨h1, h2, hb, ?_⟩
    rcases Nat.lt_or_ge g w.heap.size with q | q
    · exact q
    · rw [Array.getElem?_eq_none q] at hg; cases hg

end Go.Proofs.Ytdfpbdocbdapbaa
