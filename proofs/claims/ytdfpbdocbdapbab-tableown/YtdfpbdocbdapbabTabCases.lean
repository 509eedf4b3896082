/-
  A table as it comes in: wrong in one of Check's ways, or right. Two points as a table.
-/
import Derived.Test.YtdfpbdocbdapbabTabBack
import Derived.Test.YtdfpbdocbdapbabOpen
namespace Go.Proofs.Ytdfpbdocbdapbab
open Go.RowKit

theorem in32_of {k : Nat → Int} (h : ∀ j : Nat, (Lit.int .i32 (k j)).wf = true) : In32 k := fun j => i32_of (h j)

theorem table_cases {w : World} {aX aY : Option Addr} {nX cX nY cY : Nat} {X Y : Nat → Int} (hX : RowK .i32 w aX nX cX X) (hY : RowK .i32 w aY nY cY Y) :
    (∃ e : Int, (e = 2 ∧ 64 < nX ∨ e = 4 ∧ nX ≤ 64) ∧ Chk w aX aY nX cX nY cY e) ∨ ∃ bX oX bY oY, aX = some ⟨bX, oX, none⟩ ∧ aY = some ⟨bY, oY, none⟩ ∧ nY = nX ∧ Good w bX oX bY oY nX X Y := by
  obtain ⟨lx, mx, wx, rx⟩ := hX
  obtain ⟨ly, my, wy, ry⟩ := hY
  unfold maxLen at mx my
  by_cases h1 : 64 < nX
  · exact .inl ⟨2, .inl ⟨rfl, h1⟩, fun w1 _ => check_large aX aY nX cX nY cY w1 h1 (by omega)⟩
  by_cases h2 : nX = 0
  · subst h2
    exact .inl ⟨4, .inr ⟨rfl, by omega⟩, fun w1 _ => check_none aX aY cX nY cY w1⟩
  by_cases h3 : nY = nX
  · subst h3
    have hp := Nat.pos_of_ne_zero h2
    obtain ⟨bX, oX, rfl, bx, hx⟩ := rx hp
    obtain ⟨bY, oY, rfl, bY', hy⟩ := ry hp
    clear rx ry
    by_cases h4 : risesB X nY = true
    · exact .inr ⟨bX, oX, bY, oY, rfl, rfl, rfl, by omega, by omega, in32_of wx, in32_of wy, bx, bY', hx, hy, h4⟩
    · refine .inl ⟨4, .inr ⟨rfl, by omega⟩, fun w1 hb => ?_⟩
      have c := check_row bX oX (some ⟨bY, oY, none⟩) nY cX cY X w1 (by omega) (by omega) (Nat.lt_of_lt_of_le bx hb.size) (Row32.below hx hb bx)
      rw [if_neg h4] at c
      exact c
  · exact .inl ⟨4, .inr ⟨rfl, by omega⟩, fun w1 _ => check_apart aX aY nX cX nY cY w1 (by omega) (by omega) h3⟩

/-- what a table tells is a number of 32 bits -/
theorem atI_in32 {X Y : Nat → Int} {n : Nat} (hr : Rises X n) (hn : 0 < n) (iY : In32 Y) (x : Int) : -2147483648 ≤ atI X Y n x ∧ atI X Y n x ≤ 2147483647 := by
  rcases at_cases (X := X) hn x with h | ⟨h, h'⟩ | ⟨k, hk, h, h'⟩
  · rw [atI_low h]; exact iY 0
  · rw [atI_high h h']; exact iY _
  · have d := atI_in (Y := Y) hr hk h (by omega)
    have a := iY k
    have b := iY (k + 1)
    rcases Int.le_total (Y k) (Y (k + 1)) with g | g
    · have := d.1 g; omega
    · have := d.2 g; omega
def two (a b : Int) (j : Nat) : Int := if j = 0 then a else b
theorem good2 {w : World} {b1 b2 : Nat} {x0 x1 y0 y1 : Int} (h : x0 < x1) (i0 : -2147483648 ≤ x0) (i1 : x1 ≤ 2147483647) (j0 : -2147483648 ≤ y0 ∧ y0 ≤ 2147483647) (j1 : -2147483648 ≤ y1 ∧ y1 ≤ 2147483647)
    (c0 : w.cell? ⟨b1, 0, none⟩ = some (.int .i32 x0)) (c1 : w.cell? ⟨b1, 1, none⟩ = some (.int .i32 x1)) (d0 : w.cell? ⟨b2, 0, none⟩ = some (.int .i32 y0)) (d1 : w.cell? ⟨b2, 1, none⟩ = some (.int .i32 y1)) :
    Good w b1 0 b2 0 2 (two x0 x1) (two y0 y1) where
  most := by omega
  pos := by omega
  iX := fun j => by unfold two; split <;> omega
  iY := fun j => by unfold two; split <;> omega
  lX := lt_of_cell c0
  lY := lt_of_cell d0
  hX := fun j hj => by
    rcases (show j = 0 ∨ j = 1 by omega) with rfl | rfl
    · exact c0
    · exact c1
  hY := fun j hj => by
    rcases (show j = 0 ∨ j = 1 by omega) with rfl | rfl
    · exact d0
    · exact d1
  rises := by
    rw [risesB_iff]
    intro k hk
    rcases (show k = 0 by omega) with rfl
    exact h

end Go.Proofs.Ytdfpbdocbdapbab
