/-
  Tables, whatever they are: At, Back and Turn come back, and turn nothing that was there; what Turn hands back is nothing, or two new rows.
-/
import Derived.Test.YtdfpbdocbdapbabOwn
import Derived.Test.YtdfpbdocbdapbabTabCases
import Derived.Test.YtdfpbdocbdapbabTabTurn
namespace Go.Proofs.Ytdfpbdocbdapbab
open Go.RowKit
set_option linter.unusedVariables false

theorem at_some {aX aY : Option Addr} {nX cX nY cY : Nat} {X Y : Nat → Int} {W : World} (hX : RowK .i32 W aX nX cX X) (hY : RowK .i32 W aY nY cY Y) (x : Int) (x1 : -2147483648 ≤ x) (x2 : x ≤ 2147483647) :
    Calls Try.prog 4 #[.agg #[.slice aX nX cX, .slice aY nY cY], .int .i32 x] W fun r W' => (∃ a b, r = .returned (.tuple #[.int .i32 a, .int .i64 b])) ∧ Below W.heap.size W W' := by
  rcases table_cases hX hY with ⟨e, he, hk⟩ | ⟨bX, oX, bY, oY, rfl, rfl, rfl, g⟩
  · exact (at_err _ _ _ _ _ _ e x W (by omega) hk).mono fun r W' ⟨h1, h2⟩ => ⟨⟨_, _, h1⟩, h2⟩
  · exact (at_any _ _ _ _ _ _ _ X Y x W g x1 x2).mono fun r W' ⟨h1, h2⟩ => ⟨⟨_, _, h1⟩, h2⟩
theorem back_some {aX aY : Option Addr} {nX cX nY cY : Nat} {X Y : Nat → Int} {W : World} (hX : RowK .i32 W aX nX cX X) (hY : RowK .i32 W aY nY cY Y) (x : Int) (x1 : -2147483648 ≤ x) (x2 : x ≤ 2147483647) :
    Calls Try.prog 7 #[.agg #[.slice aX nX cX, .slice aY nY cY], .int .i32 x] W fun r W' => (∃ a b, r = .returned (.tuple #[.int .i32 a, .int .i64 b])) ∧ Below W.heap.size W W' := by
  rcases table_cases hX hY with ⟨e, he, hk⟩ | ⟨bX, oX, bY, oY, rfl, rfl, rfl, g⟩
  · exact (back_err _ _ _ _ _ _ e x W (by omega) hk).mono fun r W' ⟨h1, h2⟩ => ⟨⟨_, _, h1⟩, h2⟩
  · by_cases hr : risesB Y nY = true
    · exact (back_any _ _ _ _ _ _ _ X Y x W g hr x1 x2).mono fun r W' ⟨h1, h2⟩ => ⟨⟨_, _, h1⟩, h2⟩
    · exact (back_arg _ _ _ _ _ _ _ X Y x W g (by simpa using hr)).mono fun r W' ⟨h1, h2⟩ => ⟨⟨_, _, h1⟩, h2⟩
/-- a row of n numbers, and no more, from block N on -/
def NewRow (N : Nat) (W : World) (g n : Nat) (l : Nat → Int) : Prop := N ≤ g ∧ 0 < n ∧ n ≤ 64 ∧ W.rowIs g 21 n (fun j => .int .i32 (l j))
/-- what Turn hands back: nothing, or two new rows -/
def Turned (N : Nat) (W : World) (uX uY : Value) : Prop :=
  uX = .slice none 0 0 ∧ uY = .slice none 0 0 ∨ ∃ g1 g2 n l1 l2, uX = .slice (some ⟨g1, 0, none⟩) n n ∧ uY = .slice (some ⟨g2, 0, none⟩) n n ∧ g1 ≠ g2 ∧ NewRow N W g1 n l1 ∧ NewRow N W g2 n l2
theorem turn_some {aX aY : Option Addr} {nX cX nY cY : Nat} {X Y : Nat → Int} {W : World} (hX : RowK .i32 W aX nX cX X) (hY : RowK .i32 W aY nY cY Y) :
    Calls Try.prog 6 #[.agg #[.slice aX nX cX, .slice aY nY cY]] W fun r W' => ∃ uX uY e, r = .returned (.tuple #[.agg #[uX, uY], .int .i64 e]) ∧ Turned W.heap.size W' uX uY ∧ Below W.heap.size W W' := by
  rcases table_cases hX hY with ⟨e, he, hk⟩ | ⟨bX, oX, bY, oY, rfl, rfl, rfl, g⟩
  · exact (turn_err _ _ _ _ _ _ e W (by omega) hk).mono fun r W' ⟨h1, h2⟩ => ⟨_, _, e, h1, Or.inl ⟨rfl, rfl⟩, h2⟩
  · by_cases h0 : X 0 = -2147483648
    · exact (turn_arg _ _ _ _ _ _ _ X Y W g h0).mono fun r W' ⟨h1, h2⟩ => ⟨_, _, 1, h1, Or.inl ⟨rfl, rfl⟩, h2⟩
    · refine (turn_two _ _ _ _ _ _ _ X Y W g h0).mono ?_
      rintro r W' ⟨g1, g2, h1, h2, h3, h4, h5, h6, h7⟩
      exact ⟨_, _, 0, h1, Or.inr ⟨g1, g2, _, _, _, rfl, rfl, h7, ⟨h2, g.pos, g.most, h4⟩, ⟨h3, g.pos, g.most, h5⟩⟩, h6⟩

/-- what lies in a block stays owned, as long as the block is not turned -/
theorem owns_block {W W' : World} {N g n cap : Nat} {xs : List Value} (h : W.ownsRow N 21 1 (.slice (some ⟨g, 0, none⟩) n cap) n xs) (hb : W'.heap[g]? = W.heap[g]?) : W'.ownsRow N 21 1 (.slice (some ⟨g, 0, none⟩) n cap) n xs := by
  obtain ⟨h1, h2⟩ := h
  refine ⟨h1, ?_⟩
  rcases h2 with h2 | ⟨g', cap', cur, hv, hx, hg, h3⟩
  · exact .inl h2
  · simp only [Value.slice.injEq, Option.some.injEq, Addr.mk.injEq] at hv
    obtain ⟨⟨rfl, _⟩, _, rfl⟩ := hv
    exact .inr ⟨g, cap, cur, rfl, hx, hb.trans hg, h3⟩
theorem below_drewN (W : World) (d : Nat) : Below W.heap.size W (W.drewN d) := ⟨rfl, rfl, rfl, Nat.le_refl _, fun _ _ => rfl⟩

end Go.Proofs.Ytdfpbdocbdapbab
