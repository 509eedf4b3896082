/-
  Contracts of package table: At and Back answer what the plain function of the points gives.
-/
import Derived.Test.YtdfpbdocbdapbabTab
import Derived.Deep.RegionHeld3
import Derived.Deep.RegionWith
namespace Go.Proofs.Ytdfpbdocbdapbab
open Go.RowKit

set_option maxHeartbeats 800000 in
theorem onLine_any (bX oX bY oY n cX cY : Nat) (X Y : Nat → Int) (k : Nat) (x : Int) (w : World) (hm : n ≤ 64) (hk : k + 1 < n) (iX : In32 X) (iY : In32 Y) (x1 : -2147483648 ≤ x) (x2 : x ≤ 2147483647)
    (h1 : X k ≤ x) (h2 : x ≤ X (k + 1)) (h3 : X k < X (k + 1)) (hbX : bX < w.heap.size) (hbY : bY < w.heap.size) (hX : Row32 w bX oX n X) (hY : Row32 w bY oY n Y) :
    Calls Try.prog 13 #[.agg #[.slice (some ⟨bX, oX, none⟩) n cX, .slice (some ⟨bY, oY, none⟩) n cY], .int .i64 k, .int .i32 x] w fun e w' => e = .returned (.int .i32 (lineI X Y k x)) ∧ Below w.heap.size w w' := by
  have cX0 := fun o => hX.alloc hbX o k (by omega)
  have cX1 := fun o => hX.alloc hbX o (k + 1) (by omega)
  have cY0 := fun o => hY.alloc hbY o k (by omega)
  have cY1 := fun o => hY.alloc hbY o (k + 1) (by omega)
  have bd : (-2147483648 ≤ lineI X Y k x ∧ lineI X Y k x ≤ 2147483647) := by
    have d := line_bd (Y := Y) h1 h2 h3
    have a := iY k
    have b := iY (k + 1)
    rcases Int.le_total (Y k) (Y (k + 1)) with g | g
    · have := d.1 g; omega
    · have := d.2 g; omega
  have eL : lineI X Y k x = Y k + risenI (x - X k) (X (k + 1) - X k) (Y (k + 1) - Y k) := rfl
  rw [eL] at bd ⊢
  clear eL
  have iX0 := iX k
  have iX1 := iX (k + 1)
  have iY0 := iY k
  have iY1 := iY (k + 1)
  have k0 : (k : Int) < (n : Int) := by omega
  have k1 : (k : Int) + 1 < (n : Int) := by omega
  clear iX iY hX hY
  go_enter Try.func13, Try.ntmps13
  go_wp2
  go_quiet (fail)
  go_wp2
  go_quiet (fail)
  go_wp2
  go_quiet ((go_at_call 16; exact (risen_any _ _ _ _ (by omega) (by omega) (by omega) (by omega) (by omega) (by omega)).mono fun _ _ h => ⟨h.1, _, h.2⟩))
  go_wp2
  go_ret
  exact ⟨rfl, below_drewN (below_drewN (below_drewN ((Below.refl _ _).alloc (Nat.le_refl _) _) _) _) _⟩

/-- whatever else there is in memory: Check answers e of this table -/
def Chk (w : World) (aX aY : Option Addr) (nX cX nY cY : Nat) (e : Int) : Prop :=
  ∀ w1 : World, Below w.heap.size w w1 → Calls Try.prog 12 #[.agg #[.slice aX nX cX, .slice aY nY cY]] w1 fun r w2 => r = .returned (.int .i64 e) ∧ Below w1.heap.size w1 w2
theorem Chk.below {w w' : World} {aX aY : Option Addr} {nX cX nY cY : Nat} {e : Int} (h : Chk w aX aY nX cX nY cY e) (hb : Below w.heap.size w w') : Chk w' aX aY nX cX nY cY e :=
  fun w1 h1 => h w1 (hb.trans (h1.mono hb.size))

set_option maxHeartbeats 400000 in
theorem at_err (aX aY : Option Addr) (nX cX nY cY : Nat) (e x : Int) (w : World) (he : e ≠ 0) (hk : Chk w aX aY nX cX nY cY e) :
    Calls Try.prog 4 #[.agg #[.slice aX nX cX, .slice aY nY cY], .int .i32 x] w fun r w' => r = .returned (.tuple #[.int .i32 0, .int .i64 e]) ∧ Below w.heap.size w w' := by
  have he' : (e != 0) = true := by simpa using he
  have C : Hid (Chk w aX aY nX cX nY cY e) := hk
  clear hk he
  go_enter Try.func4, Try.ntmps4
  go_wp2_with (go_at_call 12; refine (C.out _ ((Below.refl _ _).alloc (Nat.le_refl _) _)).mono ?_; rintro r w' ⟨rfl, hb⟩)
  go_ret2
  exact ⟨rfl, ((Below.refl _ _).alloc (Nat.le_refl _) _).trans (hb.mono (by simp))⟩

/-- a table that is right: n points, X rising -/
structure Good (w : World) (bX oX bY oY n : Nat) (X Y : Nat → Int) : Prop where
  most : n ≤ 64
  pos : 0 < n
  iX : In32 X
  iY : In32 Y
  lX : bX < w.heap.size
  lY : bY < w.heap.size
  hX : Row32 w bX oX n X
  hY : Row32 w bY oY n Y
  rises : risesB X n = true
theorem Good.below {w w' : World} {bX oX bY oY n : Nat} {X Y : Nat → Int} (h : Good w bX oX bY oY n X Y) (hb : Below w.heap.size w w') : Good w' bX oX bY oY n X Y :=
  ⟨h.most, h.pos, h.iX, h.iY, Nat.lt_of_lt_of_le h.lX hb.size, Nat.lt_of_lt_of_le h.lY hb.size, h.hX.below hb h.lX, h.hY.below hb h.lY, h.rises⟩
theorem Good.chk {w : World} {bX oX bY oY n : Nat} {X Y : Nat → Int} (h : Good w bX oX bY oY n X Y) (cX cY : Nat) : Chk w (some ⟨bX, oX, none⟩) (some ⟨bY, oY, none⟩) n cX n cY 0 := by
  intro w1 hb
  have g := h.below hb
  have c := check_row bX oX (some ⟨bY, oY, none⟩) n cX cY X w1 g.most g.pos g.lX g.hX
  rw [g.rises] at c
  exact c

set_option maxHeartbeats 400000 in
theorem at_any (bX oX bY oY n cX cY : Nat) (X Y : Nat → Int) (x : Int) (w : World) (g : Good w bX oX bY oY n X Y) (x1 : -2147483648 ≤ x) (x2 : x ≤ 2147483647) :
    Calls Try.prog 4 #[.agg #[.slice (some ⟨bX, oX, none⟩) n cX, .slice (some ⟨bY, oY, none⟩) n cY], .int .i32 x] w fun r w' => r = .returned (.tuple #[.int .i32 (atI X Y n x), .int .i64 0]) ∧ Below w.heap.size w w' := by
  obtain ⟨m, rfl⟩ : ∃ m, n = m + 1 := ⟨n - 1, by have := g.pos; omega⟩
  have G : Hid (Good w bX oX bY oY (m + 1) X Y) := g
  have h64 := g.most
  clear g
  go_enter Try.func4, Try.ntmps4
  go_wp2_with fail
  refine (G.out.chk cX cY _ ((Below.refl _ _).alloc (Nat.le_refl _) _)).mono ?_
  rintro r w1 ⟨rfl, hb⟩
  have hbel : Below w.heap.size w w1 := ((Below.refl _ _).alloc (Nat.le_refl _) _).trans (hb.mono (by simp))
  have B : Hid (Below w.heap.size w w1) := hbel
  have bx0 := hb.cell (p := ⟨w.heap.size, 0, none⟩) (by simp)
  have bx1 := hb.cell (p := ⟨w.heap.size, 1, none⟩) (by simp)
  simp at bx0 bx1
  have hs1 : w.heap.size < w1.heap.size := by have := hb.size; simp at this; omega
  clear hb hbel
  have c0 : w1.cell? ⟨bX, oX, none⟩ = _ := (G.out.below B.out).hX 0 (by omega)
  have d0 : w1.cell? ⟨bY, oY, none⟩ = _ := (G.out.below B.out).hY 0 (by omega)
  have c1 := (G.out.below B.out).hX m (by omega)
  have d1 := (G.out.below B.out).hY m (by omega)
  rcases at_cases (X := X) (n := m + 1) (by omega) x with h | ⟨h, h'⟩ | ⟨k, hk, h, h'⟩
  · go_wp2
    go_ret2
    exact ⟨by rw [atI_low h]; rfl, B.out⟩
  · rw [Nat.add_sub_cancel] at h'
    go_wp2
    go_ret2
    exact ⟨by rw [atI_high (n := m + 1) h h']; rfl, B.out⟩
  · have hR := (risesB_iff X (m + 1)).1 G.out.rises
    have e0 := rises_le hR (Nat.zero_le k) (by omega)
    have e1 := rises_le hR (show k + 1 ≤ m by omega) (by omega)
    have f0 : X 0 ≤ x := by omega
    have f1 : x < X m := by omega
    have HR : Hid (Rises X (m + 1)) := hR
    clear hR
    go_wp2
    have hz := (G.out.below B.out).lX
    have hs : w.heap.size < w1.heap.size := hs1
    go_region_held3 (fun w' => w'.cell? ⟨w.heap.size, 0, none⟩ = some (.slice (some ⟨bX, oX, none⟩) (m + 1) cX) ∧ w'.cell? ⟨w.heap.size, 1, none⟩ = some (.slice (some ⟨bY, oY, none⟩) (m + 1) cY)) (go_keep)
      (first | (go_at_call 14; refine (pointAt_any _ _ _ _ X _ k _ HR.out h64 ?_ hk h h').mono ?_; exact (G.out.below B.out.drew).hX; rintro e w' ⟨rfl, rfl⟩) | (go_at_call 13; refine (onLine_any _ _ _ _ _ _ _ X Y k _ _ h64 hk G.out.iX G.out.iY x1 x2 h (by omega) (by omega) ?_ ?_ ?_ ?_).mono ?_; exact (G.out.below B.out.drew).lX; exact (G.out.below B.out.drew).lY; exact (G.out.below B.out.drew).hX; exact (G.out.below B.out.drew).hY; rintro e w2 ⟨rfl, hb2⟩; have hbel2 : Hid (Below w.heap.size w w2) := B.out.drew.trans (hb2.mono B.out.size); have q0 := (hb2.cell (p := ⟨w.heap.size, 0, none⟩) hs).trans bx0; have q1 := (hb2.cell (p := ⟨w.heap.size, 1, none⟩) hs).trans bx1; clear hb2))
    go_wp2
    go_ret2
    exact ⟨by rw [atI_mid HR.out hk h h']; rfl, hbel2.out⟩

end Go.Proofs.Ytdfpbdocbdapbab
