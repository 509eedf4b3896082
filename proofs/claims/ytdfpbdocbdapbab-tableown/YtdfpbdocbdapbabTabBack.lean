/-
  Contracts of package table: Back answers what the plain function of the exchanged points gives.
-/
import Derived.Test.YtdfpbdocbdapbabTabAt
namespace Go.Proofs.Ytdfpbdocbdapbab
open Go.RowKit

set_option maxHeartbeats 400000 in
theorem back_err (aX aY : Option Addr) (nX cX nY cY : Nat) (e x : Int) (w : World) (he : e ≠ 0) (hk : Chk w aX aY nX cX nY cY e) :
    Calls Try.prog 7 #[.agg #[.slice aX nX cX, .slice aY nY cY], .int .i32 x] w fun r w' => r = .returned (.tuple #[.int .i32 0, .int .i64 e]) ∧ Below w.heap.size w w' := by
  have he' : (e != 0) = true := by simpa using he
  have C : Hid (Chk w aX aY nX cX nY cY e) := hk
  clear hk he
  go_enter Try.func7, Try.ntmps7
  go_wp2_with (go_at_call 12; refine (C.out _ ((Below.refl _ _).alloc (Nat.le_refl _) _)).mono ?_; rintro r w' ⟨rfl, hb⟩)
  go_ret2
  exact ⟨rfl, ((Below.refl _ _).alloc (Nat.le_refl _) _).trans (hb.mono (by simp))⟩

/-- the table with X and Y exchanged, if the Y rise -/
theorem Good.swap {w : World} {bX oX bY oY n : Nat} {X Y : Nat → Int} (g : Good w bX oX bY oY n X Y) (h : risesB Y n = true) : Good w bY oY bX oX n Y X :=
  ⟨g.most, g.pos, g.iY, g.iX, g.lY, g.lX, g.hY, g.hX, h⟩

set_option maxHeartbeats 400000 in
theorem back_arg (bX oX bY oY n cX cY : Nat) (X Y : Nat → Int) (x : Int) (w : World) (g : Good w bX oX bY oY n X Y) (hY : risesB Y n = false) :
    Calls Try.prog 7 #[.agg #[.slice (some ⟨bX, oX, none⟩) n cX, .slice (some ⟨bY, oY, none⟩) n cY], .int .i32 x] w fun r w' => r = .returned (.tuple #[.int .i32 0, .int .i64 1]) ∧ Below w.heap.size w w' := by
  have G : Hid (Good w bX oX bY oY n X Y) := g
  have h64 := g.most
  have h0 := g.pos
  clear g
  go_enter Try.func7, Try.ntmps7
  go_wp2_with fail
  refine (G.out.chk cX cY _ ((Below.refl _ _).alloc (Nat.le_refl _) _)).mono ?_
  rintro r w1 ⟨rfl, hb⟩
  have hbel : Below w.heap.size w w1 := ((Below.refl _ _).alloc (Nat.le_refl _) _).trans (hb.mono (by simp))
  have B : Hid (Below w.heap.size w w1) := hbel
  have bx1 := hb.cell (p := ⟨w.heap.size, 1, none⟩) (by simp)
  simp at bx1
  clear hb hbel
  go_wp2_with (go_at_call 15; refine (rises_any _ _ _ _ Y _ h64 h0 (G.out.below B.out).hY).mono ?_; rintro e w' ⟨rfl, d, rfl⟩)
  go_ret2
  exact ⟨rfl, below_drewN B.out _⟩

set_option maxHeartbeats 400000 in
theorem back_any (bX oX bY oY n cX cY : Nat) (X Y : Nat → Int) (x : Int) (w : World) (g : Good w bX oX bY oY n X Y) (hY : risesB Y n = true) (x1 : -2147483648 ≤ x) (x2 : x ≤ 2147483647) :
    Calls Try.prog 7 #[.agg #[.slice (some ⟨bX, oX, none⟩) n cX, .slice (some ⟨bY, oY, none⟩) n cY], .int .i32 x] w fun r w' => r = .returned (.tuple #[.int .i32 (atI Y X n x), .int .i64 0]) ∧ Below w.heap.size w w' := by
  have G : Hid (Good w bX oX bY oY n X Y) := g
  have h64 := g.most
  have h0 := g.pos
  clear g
  go_enter Try.func7, Try.ntmps7
  go_wp2_with fail
  refine (G.out.chk cX cY _ ((Below.refl _ _).alloc (Nat.le_refl _) _)).mono ?_
  rintro r w1 ⟨rfl, hb⟩
  have hbel : Below w.heap.size w w1 := ((Below.refl _ _).alloc (Nat.le_refl _) _).trans (hb.mono (by simp))
  have B : Hid (Below w.heap.size w w1) := hbel
  have bx0 := hb.cell (p := ⟨w.heap.size, 0, none⟩) (by simp)
  have bx1 := hb.cell (p := ⟨w.heap.size, 1, none⟩) (by simp)
  simp at bx0 bx1
  clear hb hbel
  go_wp2_with (first | (go_at_call 15; refine (rises_any _ _ _ _ Y _ h64 h0 (G.out.below B.out).hY).mono ?_; rintro e w' ⟨rfl, d, rfl⟩) | (go_at_call 4; refine (at_any _ _ _ _ _ _ _ Y X _ _ ((G.out.swap hY).below (below_drewN B.out d)) x1 x2).mono ?_; rintro e w' ⟨rfl, hb2⟩))
  go_ret2
  exact ⟨rfl, (below_drewN B.out d).trans (hb2.mono (below_drewN B.out d).size)⟩

end Go.Proofs.Ytdfpbdocbdapbab
