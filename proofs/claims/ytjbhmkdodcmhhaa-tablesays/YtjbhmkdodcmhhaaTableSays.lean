/-
  Whatever is handed in, the law TableSays returns true: Check, At, Back and Turn answer what the document says. No condition.
-/
import Derived.Test.YtjbhmkdodcmhhaaTabWant
namespace Go.Proofs.Ytjbhmkdodcmhhaa.tableSays
open Go.ChangeShapes Go.WideShapes Go.ChangeAt Go.RowKit
set_option linter.unusedVariables false

theorem own : ownKnob Try.prog.godebug = none := by kernel_rfl
theorem laidOut : laidOutB Try.prog = true := by kernel_rfl

theorem list2 {l : List Value} (h : l.length = 2) : ∃ c0 c1, l = [c0, c1] := by
  match l, h with
  | [c0, c1], _ => exact ⟨c0, c1, rfl⟩

theorem open24 {H : Type} {enc : TypeId × Value → H} {w : World} {base : Nat} {spare : Nat → Bool} {held : Bool} {fuel : Nat} {cs : List Value} {x : DataW H × List MemPlace} (h : DataW.trod enc Try.prog w base spare held fuel 24 cs = some x) :
    ∃ (vXa : Option Addr) (vXn vXc : Nat) (vX : Nat → Int), ∃ (vYa : Option Addr) (vYn vYc : Nat) (vY : Nat → Int), cs = [.slice vXa vXn vXc, .slice vYa vYn vYc] ∧ RowK .i32 w vXa vXn vXc vX ∧ RowK .i32 w vYa vYn vYc vY := by
  obtain ⟨hl, hf⟩ := trod_field Try.underlying24 h
  rw [show Try.prog.cellsOf 24 = 2 from by kernel_rfl] at hl
  obtain ⟨c0, c1, rfl⟩ := list2 hl
  obtain ⟨n0, y0, h0⟩ := hf 0 _ rfl
  replace h0 : DataW.trod enc Try.prog w base spare held n0 22 (([c0, c1] : List Value).drop 0 |>.take (Try.prog.cellsOf 22)) = some y0 := h0
  rw [show Try.prog.cellsOf 22 = 1 from by kernel_rfl] at h0
  replace h0 : DataW.trod enc Try.prog w base spare held n0 22 [c0] = some y0 := h0
  obtain ⟨n1, y1, h1⟩ := hf 1 _ rfl
  replace h1 : DataW.trod enc Try.prog w base spare held n1 22 (([c0, c1] : List Value).drop 1 |>.take (Try.prog.cellsOf 22)) = some y1 := h1
  rw [show Try.prog.cellsOf 22 = 1 from by kernel_rfl] at h1
  replace h1 : DataW.trod enc Try.prog w base spare held n1 22 [c1] = some y1 := h1
  obtain ⟨x0a, x0n, x0c, x0, e0, f0_0⟩ := rowK_of Try.underlying22 Try.underlying21 (by kernel_rfl) h0
  simp only [List.cons.injEq, and_true] at e0
  obtain rfl := e0
  obtain ⟨x1a, x1n, x1c, x1, e1, f1_0⟩ := rowK_of Try.underlying22 Try.underlying21 (by kernel_rfl) h1
  simp only [List.cons.injEq, and_true] at e1
  obtain rfl := e1
  exact ⟨x0a, x0n, x0c, x0, x1a, x1n, x1c, x1, rfl, f0_0, f1_0⟩


set_option maxHeartbeats 400000 in
theorem walk_err (aX aY : Option Addr) (nX cX nY cY : Nat) (e x : Int) (w : World) (he : e ≠ 0) (hk : Chk w aX aY nX cX nY cY e) (hr : RErr w aX aY nX cX nY cY e) :
    Calls Try.prog 3 #[.agg #[.slice aX nX cX, .slice aY nY cY], .int .i32 x] w fun e w' => e = .returned (.bool true) ∧ Below w.heap.size w w' := by
  have K : Hid (Chk w aX aY nX cX nY cY e) := hk
  have R : Hid (RErr w aX aY nX cX nY cY e) := hr
  clear hk hr
  go_enter Try.func3, Try.ntmps3
  go_wp2_with fail
  refine (R.out _ ((Below.refl _ _).alloc (Nat.le_refl _) _)).mono ?_
  rintro r w1 ⟨rfl, hb⟩
  have B1 : Hid (Below w.heap.size w w1) := ((Below.refl _ _).alloc (Nat.le_refl _) _).trans (hb.mono (by simp))
  have cx0 : w1.cell? ⟨w.heap.size, 0, none⟩ = some (.slice aX nX cX) := (hb.cell (p := ⟨w.heap.size, 0, none⟩) (by simp)).trans (by go_simp)
  have cx1 : w1.cell? ⟨w.heap.size, 1, none⟩ = some (.slice aY nY cY) := (hb.cell (p := ⟨w.heap.size, 1, none⟩) (by simp)).trans (by go_simp)
  have hs1 : w.heap.size < w1.heap.size := by have := hb.size; simp at this; omega
  clear hb
  go_wp2_with fail
  refine (at_err _ _ _ _ _ _ e x _ he (K.out.below B1.out)).mono ?_
  rintro r w2 ⟨rfl, hb⟩
  have B2 : Hid (Below w.heap.size w w2) := B1.out.trans (hb.mono B1.out.size)
  replace cx0 := (hb.cell (p := ⟨w.heap.size, 0, none⟩) hs1).trans cx0
  replace cx1 := (hb.cell (p := ⟨w.heap.size, 1, none⟩) hs1).trans cx1
  have hs2 : w.heap.size < w2.heap.size := Nat.lt_of_lt_of_le hs1 hb.size
  clear hb hs1 B1
  go_wp2_with fail
  refine (back_err _ _ _ _ _ _ e x _ he (K.out.below B2.out)).mono ?_
  rintro r w3 ⟨rfl, hb⟩
  have B3 : Hid (Below w.heap.size w w3) := B2.out.trans (hb.mono B2.out.size)
  replace cx0 := (hb.cell (p := ⟨w.heap.size, 0, none⟩) hs2).trans cx0
  replace cx1 := (hb.cell (p := ⟨w.heap.size, 1, none⟩) hs2).trans cx1
  have hs3 : w.heap.size < w3.heap.size := Nat.lt_of_lt_of_le hs2 hb.size
  clear hb hs2 B2
  go_wp2_with fail
  refine (turn_err _ _ _ _ _ _ e _ he (K.out.below B3.out)).mono ?_
  rintro r w4 ⟨rfl, hb⟩
  have B4 : Hid (Below w.heap.size w w4) := B3.out.trans (hb.mono B3.out.size)
  replace cx0 := (hb.cell (p := ⟨w.heap.size, 0, none⟩) hs3).trans cx0
  replace cx1 := (hb.cell (p := ⟨w.heap.size, 1, none⟩) hs3).trans cx1
  have hs4 : w.heap.size < w4.heap.size := Nat.lt_of_lt_of_le hs3 hb.size
  clear hb hs3 B3
  go_wp2_with fail
  refine (K.out _ (B4.out.alloc B4.out.size _)).mono ?_
  rintro r w5 ⟨rfl, hb⟩
  have B5 : Hid (Below w.heap.size w w5) := (B4.out.alloc B4.out.size _).trans (hb.mono (Nat.le_trans B4.out.size (by simp)))
  have cu0 : w5.cell? ⟨w4.heap.size, 0, none⟩ = some (.slice none 0 0) := (hb.cell (p := ⟨w4.heap.size, 0, none⟩) (by simp)).trans (by go_simp)
  have cu1 : w5.cell? ⟨w4.heap.size, 1, none⟩ = some (.slice none 0 0) := (hb.cell (p := ⟨w4.heap.size, 1, none⟩) (by simp)).trans (by go_simp)
  have he' : (e != 0) = true := by simpa using he
  clear hb cx0 cx1
  go_wp2_with (go_at_call 12; refine (same_zero _).mono ?_; rintro r w6 ⟨rfl, hb⟩)
  go_ret
  exact ⟨rfl, B5.out.trans (hb.mono B5.out.size)⟩

/-- whatever else there is in memory: Back answers z and f -/
def Bk (w : World) (bX oX bY oY n cX cY : Nat) (x z f : Int) : Prop :=
  ∀ w1 : World, Below w.heap.size w w1 → Calls Try.prog 9 #[.agg #[.slice (some ⟨bX, oX, none⟩) n cX, .slice (some ⟨bY, oY, none⟩) n cY], .int .i32 x] w1 fun r w2 => r = .returned (.tuple #[.int .i32 z, .int .i64 f]) ∧ Below w1.heap.size w1 w2

set_option maxRecDepth 100000 in
set_option maxHeartbeats 2000000 in
theorem walk_arg (bX oX bY oY m cX cY : Nat) (X Y : Nat → Int) (x z f e2 : Int) (w : World) (g : Good w bX oX bY oY (m + 1) X Y) (x1 : -2147483648 ≤ x) (x2 : x ≤ 2147483647) (hB : Bk w bX oX bY oY (m + 1) cX cY x z f)
    (hE : RErr w (some ⟨bY, oY, none⟩) (some ⟨bX, oX, none⟩) (m + 1) cY (m + 1) cX e2) (hc : e2 = 4 ∧ z = 0 ∧ f = 1 ∨ e2 = 0 ∧ f = 0 ∧ z = atI Y X (m + 1) x ∧ risesB Y (m + 1) = true) (h0 : X 0 = -2147483648) :
    Calls Try.prog 3 #[.agg #[.slice (some ⟨bX, oX, none⟩) (m + 1) cX, .slice (some ⟨bY, oY, none⟩) (m + 1) cY], .int .i32 x] w fun e w' => e = .returned (.bool true) ∧ Below w.heap.size w w' := by
  have G : Hid (Good w bX oX bY oY (m + 1) X Y) := g
  have HB : Hid (Bk w bX oX bY oY (m + 1) cX cY x z f) := hB
  have HE : Hid (RErr w (some ⟨bY, oY, none⟩) (some ⟨bX, oX, none⟩) (m + 1) cY (m + 1) cX e2) := hE
  have HC : Hid (e2 = 4 ∧ z = 0 ∧ f = 1 ∨ e2 = 0 ∧ f = 0 ∧ z = atI Y X (m + 1) x ∧ risesB Y (m + 1) = true) := hc
  clear g hB hE hc
  go_enter Try.func3, Try.ntmps3
  go_wp2_with fail
  refine (G.out.rerr cX cY _ ((Below.refl _ _).alloc (Nat.le_refl _) _)).mono ?_
  rintro r w1 ⟨rfl, hb⟩
  have B1 : Hid (Below w.heap.size w w1) := ((Below.refl _ _).alloc (Nat.le_refl _) _).trans (hb.mono (by simp))
  have cx0 : w1.cell? ⟨w.heap.size, 0, none⟩ = some (.slice (some ⟨bX, oX, none⟩) (m + 1) cX) := (hb.cell (p := ⟨w.heap.size, 0, none⟩) (by simp)).trans (by go_simp)
  have cx1 : w1.cell? ⟨w.heap.size, 1, none⟩ = some (.slice (some ⟨bY, oY, none⟩) (m + 1) cY) := (hb.cell (p := ⟨w.heap.size, 1, none⟩) (by simp)).trans (by go_simp)
  have hs1 : w.heap.size < w1.heap.size := by have := hb.size; simp at this; omega
  clear hb
  go_wp2_with fail
  refine (at_any _ _ _ _ _ _ _ X Y x _ (G.out.below B1.out) x1 x2).mono ?_
  rintro r w2 ⟨rfl, hb⟩
  have B2 : Hid (Below w.heap.size w w2) := B1.out.trans (hb.mono B1.out.size)
  replace cx0 := (hb.cell (p := ⟨w.heap.size, 0, none⟩) hs1).trans cx0
  replace cx1 := (hb.cell (p := ⟨w.heap.size, 1, none⟩) hs1).trans cx1
  have hs2 : w.heap.size < w2.heap.size := Nat.lt_of_lt_of_le hs1 hb.size
  clear hb hs1 B1
  go_wp2_with fail
  refine (HB.out _ B2.out).mono ?_
  rintro r w3 ⟨rfl, hb⟩
  have B3 : Hid (Below w.heap.size w w3) := B2.out.trans (hb.mono B2.out.size)
  replace cx0 := (hb.cell (p := ⟨w.heap.size, 0, none⟩) hs2).trans cx0
  replace cx1 := (hb.cell (p := ⟨w.heap.size, 1, none⟩) hs2).trans cx1
  have hs3 : w.heap.size < w3.heap.size := Nat.lt_of_lt_of_le hs2 hb.size
  clear hb hs2 B2
  go_wp2_with fail
  refine (turn_arg _ _ _ _ _ _ _ X Y _ (G.out.below B3.out) h0).mono ?_
  rintro r w4 ⟨rfl, hb⟩
  have B4 : Hid (Below w.heap.size w w4) := B3.out.trans (hb.mono B3.out.size)
  replace cx0 := (hb.cell (p := ⟨w.heap.size, 0, none⟩) hs3).trans cx0
  replace cx1 := (hb.cell (p := ⟨w.heap.size, 1, none⟩) hs3).trans cx1
  have hs4 : w.heap.size < w4.heap.size := Nat.lt_of_lt_of_le hs3 hb.size
  clear hb hs3 B3
  go_wp2_with fail
  refine (G.out.chk cX cY _ (B4.out.alloc B4.out.size _)).mono ?_
  rintro r w5 ⟨rfl, hb⟩
  have B5 : Hid (Below w.heap.size w w5) := (B4.out.alloc B4.out.size _).trans (hb.mono (Nat.le_trans B4.out.size (by simp)))
  have cu0 : w5.cell? ⟨w4.heap.size, 0, none⟩ = some (.slice none 0 0) := (hb.cell (p := ⟨w4.heap.size, 0, none⟩) (by simp)).trans (by go_simp)
  have cu1 : w5.cell? ⟨w4.heap.size, 1, none⟩ = some (.slice none 0 0) := (hb.cell (p := ⟨w4.heap.size, 1, none⟩) (by simp)).trans (by go_simp)
  have bx0 : w5.cell? ⟨w.heap.size, 0, none⟩ = some (.slice (some ⟨bX, oX, none⟩) (m + 1) cX) := (hb.cell (p := ⟨w.heap.size, 0, none⟩) (by simp; omega)).trans (by go_simp)
  have bx1 : w5.cell? ⟨w.heap.size, 1, none⟩ = some (.slice (some ⟨bY, oY, none⟩) (m + 1) cY) := (hb.cell (p := ⟨w.heap.size, 1, none⟩) (by simp; omega)).trans (by go_simp)
  have hu5 : w4.heap.size < w5.heap.size := by have := hb.size; simp at this; omega
  have hs5 : w.heap.size < w5.heap.size := by omega
  clear hb cx0 cx1 hs4 B4
  go_wp2_with fail
  refine (HE.out _ (B5.out.alloc B5.out.size _)).mono ?_
  rintro r w6 ⟨rfl, hb⟩
  have B6 : Hid (Below w5.heap.size w5 w6) := ((Below.refl _ _).alloc (Nat.le_refl _) _).trans (hb.mono (by simp))
  have ct0 : w6.cell? ⟨w5.heap.size, 0, none⟩ = some (.slice (some ⟨bY, oY, none⟩) (m + 1) cY) := (hb.cell (p := ⟨w5.heap.size, 0, none⟩) (by simp)).trans (by go_simp)
  have ct1 : w6.cell? ⟨w5.heap.size, 1, none⟩ = some (.slice (some ⟨bX, oX, none⟩) (m + 1) cX) := (hb.cell (p := ⟨w5.heap.size, 1, none⟩) (by simp)).trans (by go_simp)
  clear hb
  go_upto_if 73 with (fail)
  go_cut [] (fun wc => Below w5.heap.size w5 wc)
  case first =>
    rcases HC.out with ⟨rfl, rfl, rfl⟩ | ⟨rfl, rfl, rfl, hY⟩
    · go_wp2
      go_meet
      case rel => exact B6.out
    · go_wp2_with fail
      refine (rat_any _ _ _ _ _ _ _ Y X x _ (((G.out.swap hY).below B5.out).below B6.out) x1 x2).mono ?_
      rintro r w7 ⟨rfl, hb⟩
      go_wp2
      go_meet
      case rel => exact B6.out.trans (hb.mono B6.out.size)
  case rest =>
    have BC : Hid (Below w5.heap.size w5 wc) := hcut
    have BW : Hid (Below w.heap.size w wc) := B5.out.trans (hcut.mono B5.out.size)
    have dx0 := (hcut.cell (p := ⟨w.heap.size, 0, none⟩) hs5).trans bx0
    have dx1 := (hcut.cell (p := ⟨w.heap.size, 1, none⟩) hs5).trans bx1
    have du0 := (hcut.cell (p := ⟨w4.heap.size, 0, none⟩) hu5).trans cu0
    have du1 := (hcut.cell (p := ⟨w4.heap.size, 1, none⟩) hu5).trans cu1
    have hsc : w.heap.size < wc.heap.size := Nat.lt_of_lt_of_le hs5 hcut.size
    have c0 : wc.cell? ⟨bX, oX, none⟩ = _ := (G.out.below BW.out).hX 0 (by omega)
    clear hcut bx0 bx1 cu0 cu1 ct0 ct1 hs5
    rw [h0] at c0
    go_wp2_with fail
    refine (same_zero _).mono ?_
    rintro r w8 ⟨rfl, hb⟩
    have B8 : Hid (Below w.heap.size w w8) := BW.out.trans (hb.mono BW.out.size)
    have ex0 := (hb.cell (p := ⟨w.heap.size, 0, none⟩) hsc).trans dx0
    have ex1 := (hb.cell (p := ⟨w.heap.size, 1, none⟩) hsc).trans dx1
    clear hb dx0 dx1 du0 du1
    go_wp2_with (go_at_call 13; refine (rat_any _ _ _ _ _ _ _ X Y x _ (G.out.below B8.out) x1 x2).mono ?_; rintro r w9 ⟨rfl, hb⟩)
    go_ret
    exact ⟨rfl, B8.out.trans (hb.mono B8.out.size)⟩

set_option maxRecDepth 100000 in
set_option maxHeartbeats 2000000 in
theorem walk_good (bX oX bY oY m cX cY : Nat) (X Y : Nat → Int) (x z f e2 : Int) (w : World) (g : Good w bX oX bY oY (m + 1) X Y) (x1 : -2147483648 ≤ x) (x2 : x ≤ 2147483647) (hB : Bk w bX oX bY oY (m + 1) cX cY x z f)
    (hE : RErr w (some ⟨bY, oY, none⟩) (some ⟨bX, oX, none⟩) (m + 1) cY (m + 1) cX e2) (hc : e2 = 4 ∧ z = 0 ∧ f = 1 ∨ e2 = 0 ∧ f = 0 ∧ z = atI Y X (m + 1) x ∧ risesB Y (m + 1) = true) (h0 : X 0 ≠ -2147483648) :
    Calls Try.prog 3 #[.agg #[.slice (some ⟨bX, oX, none⟩) (m + 1) cX, .slice (some ⟨bY, oY, none⟩) (m + 1) cY], .int .i32 x] w fun e w' => e = .returned (.bool true) ∧ Below w.heap.size w w' := by
  have G : Hid (Good w bX oX bY oY (m + 1) X Y) := g
  have HB : Hid (Bk w bX oX bY oY (m + 1) cX cY x z f) := hB
  have HE : Hid (RErr w (some ⟨bY, oY, none⟩) (some ⟨bX, oX, none⟩) (m + 1) cY (m + 1) cX e2) := hE
  have HC : Hid (e2 = 4 ∧ z = 0 ∧ f = 1 ∨ e2 = 0 ∧ f = 0 ∧ z = atI Y X (m + 1) x ∧ risesB Y (m + 1) = true) := hc
  clear g hB hE hc
  go_enter Try.func3, Try.ntmps3
  go_wp2_with fail
  refine (G.out.rerr cX cY _ ((Below.refl _ _).alloc (Nat.le_refl _) _)).mono ?_
  rintro r w1 ⟨rfl, hb⟩
  have B1 : Hid (Below w.heap.size w w1) := ((Below.refl _ _).alloc (Nat.le_refl _) _).trans (hb.mono (by simp))
  have cx0 : w1.cell? ⟨w.heap.size, 0, none⟩ = some (.slice (some ⟨bX, oX, none⟩) (m + 1) cX) := (hb.cell (p := ⟨w.heap.size, 0, none⟩) (by simp)).trans (by go_simp)
  have cx1 : w1.cell? ⟨w.heap.size, 1, none⟩ = some (.slice (some ⟨bY, oY, none⟩) (m + 1) cY) := (hb.cell (p := ⟨w.heap.size, 1, none⟩) (by simp)).trans (by go_simp)
  have hs1 : w.heap.size < w1.heap.size := by have := hb.size; simp at this; omega
  clear hb
  go_wp2_with fail
  refine (at_any _ _ _ _ _ _ _ X Y x _ (G.out.below B1.out) x1 x2).mono ?_
  rintro r w2 ⟨rfl, hb⟩
  have B2 : Hid (Below w.heap.size w w2) := B1.out.trans (hb.mono B1.out.size)
  replace cx0 := (hb.cell (p := ⟨w.heap.size, 0, none⟩) hs1).trans cx0
  replace cx1 := (hb.cell (p := ⟨w.heap.size, 1, none⟩) hs1).trans cx1
  have hs2 : w.heap.size < w2.heap.size := Nat.lt_of_lt_of_le hs1 hb.size
  clear hb hs1 B1
  go_wp2_with fail
  refine (HB.out _ B2.out).mono ?_
  rintro r w3 ⟨rfl, hb⟩
  have B3 : Hid (Below w.heap.size w w3) := B2.out.trans (hb.mono B2.out.size)
  replace cx0 := (hb.cell (p := ⟨w.heap.size, 0, none⟩) hs2).trans cx0
  replace cx1 := (hb.cell (p := ⟨w.heap.size, 1, none⟩) hs2).trans cx1
  have hs3 : w.heap.size < w3.heap.size := Nat.lt_of_lt_of_le hs2 hb.size
  clear hb hs2 B2
  go_wp2_with fail
  refine (turn_any _ _ _ _ _ _ _ X Y _ (G.out.below B3.out) h0).mono ?_
  rintro r w4 ⟨g1, g2, rfl, l1, l2, r1, r2, hb⟩
  have Q1 : Hid (Row32 w4 g1 0 (m + 1) (turnX X (m + 1))) := row32_of r1
  have Q2 : Hid (Row32 w4 g2 0 (m + 1) (turnY Y (m + 1))) := row32_of r2
  have p1 := r1.lt
  have p2 := r2.lt
  clear l1 l2 r1 r2
  have B4 : Hid (Below w.heap.size w w4) := B3.out.trans (hb.mono B3.out.size)
  replace cx0 := (hb.cell (p := ⟨w.heap.size, 0, none⟩) hs3).trans cx0
  replace cx1 := (hb.cell (p := ⟨w.heap.size, 1, none⟩) hs3).trans cx1
  have hs4 : w.heap.size < w4.heap.size := Nat.lt_of_lt_of_le hs3 hb.size
  clear hb hs3 B3
  go_wp2_with fail
  refine (G.out.chk cX cY _ (B4.out.alloc B4.out.size _)).mono ?_
  rintro r w5 ⟨rfl, hb⟩
  have B5 : Hid (Below w.heap.size w w5) := (B4.out.alloc B4.out.size _).trans (hb.mono (Nat.le_trans B4.out.size (by simp)))
  have cu0 : w5.cell? ⟨w4.heap.size, 0, none⟩ = some (.slice (some ⟨g1, 0, none⟩) (m + 1) (m + 1)) := (hb.cell (p := ⟨w4.heap.size, 0, none⟩) (by simp)).trans (by go_simp)
  have cu1 : w5.cell? ⟨w4.heap.size, 1, none⟩ = some (.slice (some ⟨g2, 0, none⟩) (m + 1) (m + 1)) := (hb.cell (p := ⟨w4.heap.size, 1, none⟩) (by simp)).trans (by go_simp)
  have bx0 : w5.cell? ⟨w.heap.size, 0, none⟩ = some (.slice (some ⟨bX, oX, none⟩) (m + 1) cX) := (hb.cell (p := ⟨w.heap.size, 0, none⟩) (by simp; omega)).trans (by go_simp)
  have bx1 : w5.cell? ⟨w.heap.size, 1, none⟩ = some (.slice (some ⟨bY, oY, none⟩) (m + 1) cY) := (hb.cell (p := ⟨w.heap.size, 1, none⟩) (by simp; omega)).trans (by go_simp)
  have hu5 : w4.heap.size < w5.heap.size := by have := hb.size; simp at this; omega
  have hs5 : w.heap.size < w5.heap.size := by omega
  have B45 : Hid (Below w4.heap.size w4 w5) := ((Below.refl _ _).alloc (Nat.le_refl _) _).trans (hb.mono (by simp))
  clear hb cx0 cx1 hs4 B4
  go_wp2_with fail
  refine (HE.out _ (B5.out.alloc B5.out.size _)).mono ?_
  rintro r w6 ⟨rfl, hb⟩
  have B6 : Hid (Below w5.heap.size w5 w6) := ((Below.refl _ _).alloc (Nat.le_refl _) _).trans (hb.mono (by simp))
  have ct0 : w6.cell? ⟨w5.heap.size, 0, none⟩ = some (.slice (some ⟨bY, oY, none⟩) (m + 1) cY) := (hb.cell (p := ⟨w5.heap.size, 0, none⟩) (by simp)).trans (by go_simp)
  have ct1 : w6.cell? ⟨w5.heap.size, 1, none⟩ = some (.slice (some ⟨bX, oX, none⟩) (m + 1) cX) := (hb.cell (p := ⟨w5.heap.size, 1, none⟩) (by simp)).trans (by go_simp)
  clear hb
  go_upto_if 73 with (fail)
  go_cut [] (fun wc => Below w5.heap.size w5 wc)
  case first =>
    rcases HC.out with ⟨rfl, rfl, rfl⟩ | ⟨rfl, rfl, rfl, hY⟩
    · go_wp2
      go_meet
      case rel => exact B6.out
    · go_wp2_with fail
      refine (rat_any _ _ _ _ _ _ _ Y X x _ (((G.out.swap hY).below B5.out).below B6.out) x1 x2).mono ?_
      rintro r w7 ⟨rfl, hb⟩
      go_wp2
      go_meet
      case rel => exact B6.out.trans (hb.mono B6.out.size)
  case rest =>
    have BC : Hid (Below w5.heap.size w5 wc) := hcut
    have BW : Hid (Below w.heap.size w wc) := B5.out.trans (hcut.mono B5.out.size)
    have dx0 := (hcut.cell (p := ⟨w.heap.size, 0, none⟩) hs5).trans bx0
    have dx1 := (hcut.cell (p := ⟨w.heap.size, 1, none⟩) hs5).trans bx1
    have du0 := (hcut.cell (p := ⟨w4.heap.size, 0, none⟩) hu5).trans cu0
    have du1 := (hcut.cell (p := ⟨w4.heap.size, 1, none⟩) hu5).trans cu1
    have hsc : w.heap.size < wc.heap.size := Nat.lt_of_lt_of_le hs5 hcut.size
    have c0 : wc.cell? ⟨bX, oX, none⟩ = _ := (G.out.below BW.out).hX 0 (by omega)
    clear hcut bx0 bx1 cu0 cu1 ct0 ct1 hs5
    have q0 : (X 0 == -2147483648) = false := by simpa using h0
    have h64 := G.out.most
    have huc : w4.heap.size < wc.heap.size := Nat.lt_of_lt_of_le hu5 BC.out.size
    have DU0 : Hid (wc.cell? ⟨w4.heap.size, 0, none⟩ = some (.slice (some ⟨g1, 0, none⟩) (m + 1) (m + 1))) := du0
    have DU1 : Hid (wc.cell? ⟨w4.heap.size, 1, none⟩ = some (.slice (some ⟨g2, 0, none⟩) (m + 1) (m + 1))) := du1
    clear du0 du1
    go_wp2
    go_loopw [14] (fun i wr => ∃ (k : Nat) (t : Int) (ax ay : Option Addr) (cx cy : Nat), t = (m : Int) - (k : Int) ∧ k ≤ m + 1 ∧ i = .int .i64 t ∧ Want wc wr wc.heap.size (m + 1) k ax ay cx cy X Y) (fun i _ => (intOf i + 1).toNat)
    case atStart => exact ⟨0, m, none, none, 0, 0, by omega, by omega, rfl, want_start wc (m + 1) X Y⟩
    case round =>
      obtain ⟨k, t, ax, ay, cx, cy, ht, hk, rfl, wt⟩ := hrel
      have WT : Hid (Want wc wr wc.heap.size (m + 1) k ax ay cx cy X Y) := wt
      clear wt
      by_cases hlt : k ≤ m
      · obtain ⟨i, hi⟩ : ∃ i, i + k + 1 = m + 1 := ⟨m - k, by omega⟩
        have HI : Hid (i + k + 1 = m + 1) := hi
        obtain rfl : t = (i : Int) := by omega
        have i0 : (i : Int) < (m : Int) + 1 := by omega
        clear hi ht
        have c1 : wr.cell? ⟨wc.heap.size, 0, none⟩ = some (.slice ax k cx) := WT.out.row.cell (i := 0) (by omega)
        have c2 : wr.cell? ⟨wc.heap.size, 1, none⟩ = some (.slice ay k cy) := WT.out.row.cell (i := 1) (by omega)
        have f1 := WT.out.row.frozen 0
        have f2 := WT.out.row.frozen 1
        have a0 := (WT.out.bel.cell (p := ⟨w.heap.size, 0, none⟩) hsc).trans dx0
        have a1 := (WT.out.bel.cell (p := ⟨w.heap.size, 1, none⟩) hsc).trans dx1
        have gw : Below w.heap.size w wr := BW.out.trans (WT.out.bel.mono BW.out.size)
        have xk := (G.out.below gw).hX i (by have := HI.out; omega)
        have yk := (G.out.below gw).hY i (by have := HI.out; omega)
        have i1 := G.out.iX i
        have i2 := rises_le ((risesB_iff X (m + 1)).1 G.out.rises) (Nat.zero_le i) (by have := HI.out; omega)
        have i4 := G.out.iX 0
        have b1 : -2147483647 ≤ X i := by omega
        have b2 : X i ≤ 2147483647 := by omega
        have wn : IntKind.i32.wrap (-X i) = -X i := by rw [IntKind.wrap_i32]; omega
        have lX : bX < wc.heap.size := (G.out.below BW.out).lX
        have lY : bY < wc.heap.size := (G.out.below BW.out).lY
        have sz := WT.out.size
        clear gw i1 i2 i4 dx0 dx1 c0 q0
        go_wp2
        have HX : Hid (wr.ownsRow (wc.heap.size + 1) 21 1 (.slice ax k cx) k (wantX X (m + 1) k)) := WT.out.ownX
        have HY : Hid (wr.ownsRow (wc.heap.size + 1) 21 1 (.slice ay k cy) k (wantY Y (m + 1) k)) := WT.out.ownY
        have NE : Hid ((Value.slice ax k cx).ownBlock = none ∨ (Value.slice ax k cx).ownBlock ≠ (Value.slice ay k cy).ownBlock) := WT.out.ne
        have LX : Hid (∀ b, (Value.slice ax k cx).ownBlock = some b → wc.heap.size + 1 ≤ b) := fun b hb => (WT.out.ownX.lt b hb).1
        have LY : Hid (∀ b, (Value.slice ay k cy).ownBlock = some b → wc.heap.size + 1 ≤ b) := fun b hb => (WT.out.ownY.lt b hb).1
        have NX : Hid (∀ b, wr.heap.size ≤ b → some b ≠ (Value.slice ax k cx).ownBlock) := fun b hb e => by have := (WT.out.ownX.lt b e.symm).2; omega
        have NY : Hid (∀ b, wr.heap.size ≤ b → some b ≠ (Value.slice ay k cy).ownBlock) := fun b hb e => by have := (WT.out.ownY.lt b e.symm).2; omega
        obtain ⟨i0', hi0, hz0, hz1, hz2⟩ := info_parts info_int32
        have RUw : RU wr w.heap.size wc.heap.size bX (oX + i) bY (oY + i) (.slice (some ⟨bX, oX, none⟩) (m + 1) cX) (.slice (some ⟨bY, oY, none⟩) (m + 1) cY) (.int .i32 (X i)) (.int .i32 (Y i)) := ⟨a0, a1, xk, yk, f1, f2⟩
        have RTw : RT wr wc.heap.size (.slice ax k cx) (.slice ay k cy) := ⟨c1, c2⟩
        have hU := fun (W : World) (hb : Below (wc.heap.size + 1) wr W) => RUw.below hb (by omega) (by omega) (by omega) (by omega)
        have hT := fun (W : World) (hb : Below (wc.heap.size + 1) wr W) => RTw.below hb (by omega)
        have HU : Hid (∀ W : World, Below (wc.heap.size + 1) wr W → RU W w.heap.size wc.heap.size bX (oX + i) bY (oY + i) (.slice (some ⟨bX, oX, none⟩) (m + 1) cX) (.slice (some ⟨bY, oY, none⟩) (m + 1) cY) (.int .i32 (X i)) (.int .i32 (Y i))) := hU
        have HT : Hid (∀ W : World, Below (wc.heap.size + 1) wr W → RT W wc.heap.size (.slice ax k cx) (.slice ay k cy)) := hT
        have B0 : Hid (Below (wc.heap.size + 1) wr wr.drew) := (Below.refl _ _).drew
        clear hU hT RUw RTw a0 a1 xk yk f1 f2 c1 c2
        refine wp_region_noPanic ?_
        refine wp_region_until (q := 20) (U := fun W => RU W w.heap.size wc.heap.size bX (oX + i) bY (oY + i) (.slice (some ⟨bX, oX, none⟩) (m + 1) cX) (.slice (some ⟨bY, oY, none⟩) (m + 1) cY) (.int .i32 (X i)) (.int .i32 (Y i))) (T := fun W => RT W wc.heap.size (.slice ax k cx) (.slice ay k cy)) (by kernel_rfl) ?_
        refine until_takeU (i := 0) (v := ?_) rfl (by decide) (by kernel_rfl) (by kernel_rfl) (by kernel_rfl) (fun _ _ _ h => h) (Or.inl ⟨by rfl, ?_⟩) (HU.out _ B0.out) (.inr (HT.out _ B0.out)) ?_
        rotate_left 1
        · intro W hS
          simp only [RU] at hS
          go_simp <;> with_reducible rfl
        refine until_takeT (i := 1) (v := ?_) rfl rfl (by decide) (by kernel_rfl) (by kernel_rfl) (by kernel_rfl) (by kernel_rfl) (by kernel_rfl) (fun _ _ _ h => h) (Or.inl ⟨by rfl, ?_⟩) (HU.out _ B0.out) (HT.out _ B0.out) ?_
        rotate_left 1
        · rintro W ⟨hS0, hS⟩
          simp only [RT] at hS
          go_simp <;> with_reducible rfl
        refine until_takeU (i := 2) (v := ?_) rfl (by decide) (by kernel_rfl) (by kernel_rfl) (by kernel_rfl) (fun _ _ _ h => h) (Or.inl ⟨by rfl, ?_⟩) (HU.out _ B0.out) (.inr (HT.out _ B0.out)) ?_
        rotate_left 1
        · intro W hS
          simp only [RU] at hS
          go_simp <;> with_reducible rfl
        refine until_takeU (i := 3) (v := ?_) rfl (by decide) (by kernel_rfl) (by kernel_rfl) (by kernel_rfl) (fun _ _ _ h => h) (Or.inl ⟨by rfl, ?_⟩) (HU.out _ B0.out) (.inr (HT.out _ B0.out)) ?_
        rotate_left 1
        · intro W hS
          simp only [RU] at hS
          go_simp <;> with_reducible rfl
        refine until_takeU (i := 4) (v := ?_) rfl (by decide) (by kernel_rfl) (by kernel_rfl) (by kernel_rfl) (fun _ _ _ h => h) (Or.inl ⟨by rfl, ?_⟩) (HU.out _ B0.out) (.inr (HT.out _ B0.out)) ?_
        rotate_left 1
        · intro W hS
          simp only [RU] at hS
          go_simp <;> with_reducible rfl
        refine until_takeU (i := 5) (v := ?_) rfl (by decide) (by kernel_rfl) (by kernel_rfl) (by kernel_rfl) (fun _ _ _ h => h) (Or.inl ⟨by rfl, ?_⟩) (HU.out _ B0.out) (.inr (HT.out _ B0.out)) ?_
        rotate_left 1
        · intro W hS
          simp only [RU] at hS
          go_simp <;> with_reducible rfl
        refine until_takeU (i := 6) (v := ?_) rfl (by decide) (by kernel_rfl) (by kernel_rfl) (by kernel_rfl) (fun _ _ _ h => h) (Or.inl ⟨by rfl, ?_⟩) (HU.out _ B0.out) (.inr (HT.out _ B0.out)) ?_
        rotate_left 1
        · intro W hS
          simp only [RU] at hS
          go_simp <;> with_reducible rfl
        refine until_takeU (i := 7) (v := ?_) rfl (by decide) (by kernel_rfl) (by kernel_rfl) (by kernel_rfl) (fun _ _ _ h => h) (Or.inl ⟨by rfl, ?_⟩) (HU.out _ B0.out) (.inr (HT.out _ B0.out)) ?_
        rotate_left 1
        · intro W hS
          simp only [RU] at hS
          go_simp <;> with_reducible rfl
        refine until_takeU (i := 10) (v := ?_) rfl (by decide) (by kernel_rfl) (by kernel_rfl) (by kernel_rfl) (fun _ _ _ h => h) (Or.inl ⟨by rfl, ?_⟩) (HU.out _ B0.out) (.inr (HT.out _ B0.out)) ?_
        rotate_left 1
        · intro W hS
          simp only [RU] at hS
          go_simp <;> with_reducible rfl
        refine until_takeT (i := 11) (v := ?_) rfl rfl (by decide) (by kernel_rfl) (by kernel_rfl) (by kernel_rfl) (by kernel_rfl) (by kernel_rfl) (fun _ _ _ h => h) (Or.inl ⟨by rfl, ?_⟩) (HU.out _ B0.out) (HT.out _ B0.out) ?_
        rotate_left 1
        · rintro W ⟨hS0, hS⟩
          simp only [RT] at hS
          go_simp <;> with_reducible rfl
        refine until_takeU (i := 12) (v := ?_) rfl (by decide) (by kernel_rfl) (by kernel_rfl) (by kernel_rfl) (fun _ _ _ h => h) (Or.inl ⟨by rfl, ?_⟩) (HU.out _ B0.out) (.inr (HT.out _ B0.out)) ?_
        rotate_left 1
        · intro W hS
          simp only [RU] at hS
          go_simp <;> with_reducible rfl
        refine until_takeU (i := 13) (v := ?_) rfl (by decide) (by kernel_rfl) (by kernel_rfl) (by kernel_rfl) (fun _ _ _ h => h) (Or.inl ⟨by rfl, ?_⟩) (HU.out _ B0.out) (.inr (HT.out _ B0.out)) ?_
        rotate_left 1
        · intro W hS
          simp only [RU] at hS
          go_simp <;> with_reducible rfl
        refine until_takeU (i := 14) (v := ?_) rfl (by decide) (by kernel_rfl) (by kernel_rfl) (by kernel_rfl) (fun _ _ _ h => h) (Or.inl ⟨by rfl, ?_⟩) (HU.out _ B0.out) (.inr (HT.out _ B0.out)) ?_
        rotate_left 1
        · intro W hS
          simp only [RU] at hS
          go_simp <;> with_reducible rfl
        refine until_takeU (i := 15) (v := ?_) rfl (by decide) (by kernel_rfl) (by kernel_rfl) (by kernel_rfl) (fun _ _ _ h => h) (Or.inl ⟨by rfl, ?_⟩) (HU.out _ B0.out) (.inr (HT.out _ B0.out)) ?_
        rotate_left 1
        · intro W hS
          simp only [RU] at hS
          go_simp <;> with_reducible rfl
        refine until_takeU (i := 16) (v := ?_) rfl (by decide) (by kernel_rfl) (by kernel_rfl) (by kernel_rfl) (fun _ _ _ h => h) (Or.inl ⟨by rfl, ?_⟩) (HU.out _ B0.out) (.inr (HT.out _ B0.out)) ?_
        rotate_left 1
        · intro W hS
          simp only [RU] at hS
          go_simp <;> with_reducible rfl
        refine until_ready (rs := [8, 17]) (by kernel_rfl) (by simp) ?_
        refine AllUntil.cons rfl (fun K hK => ?_) (AllUntil.cons rfl (fun K hK => ?_) AllUntil.nil)
        · go_simp
          have B1 : Hid (Below (wc.heap.size + 1) wr (wr.alloc (.cells #[.int .i32 (-X i)] 21)).drew) := ((Below.refl _ _).alloc sz _).drew
          refine hK _ _ (HU.out _ B1.out) (.inr (HT.out _ B1.out)) ?_
          clear hK K
          refine until_ready (rs := [9, 17]) (by kernel_rfl) (by simp) ?_
          refine AllUntil.cons rfl (fun K hK => ?_) (AllUntil.cons rfl (fun K hK => ?_) AllUntil.nil)
          · skip
            refine step_append_lies _ (by rfl) (.tmp 111) (.tmp 118) 22 (by rfl) (wc.heap.size + 1) 21 i0' (.int .i32 0) 1 4 Try.underlying22 hi0 hz0 hz1 hz2 rfl (by omega) (.slice ax k cx) k (wantX X (m + 1) k) (by rfl) ((HX.out.alloc _).drew) _ 1 1 [.int .i32 (-X i)] (by rfl) (by rfl) (news1 (by go_simp)) (by simp [Value.oneCell']) (by omega) (by unfold maxLen; omega) (by omega) (by simp; omega) _ rfl ?_
            intro gx capx wx hownx hgx hatx hltx
            have szx := hgx.size
            simp at szx hatx
            have Bx : Hid (Below (wc.heap.size + 1) wr wx) := (B1.out).grown hgx (by simp; omega) LX.out
            have NXY : Hid (some gx ≠ (Value.slice ay k cy).ownBlock) := own_far hatx NE.out NY.out (by omega)
            refine hK _ _ (HU.out _ Bx.out) (.inr (HT.out _ Bx.out)) ?_
            clear hK K
            refine until_takeU (i := 19) (v := ?_) rfl (by decide) (by kernel_rfl) (by kernel_rfl) (by kernel_rfl) (fun _ _ _ h => h) (Or.inl ⟨by rfl, ?_⟩) (HU.out _ Bx.out) (.inr (HT.out _ Bx.out)) ?_
            rotate_left 1
            · intro W hS
              simp only [RU] at hS
              go_simp <;> with_reducible rfl
            refine until_ready (rs := [17]) (by kernel_rfl) (by simp) ?_
            refine AllUntil.cons rfl (fun K hK => ?_) AllUntil.nil
            go_simp
            have B2 : Hid (Below (wc.heap.size + 1) wr (wx.alloc (.cells #[.int .i32 (Y i)] 21))) := Bx.out.alloc (by omega) _
            refine hK _ _ (HU.out _ B2.out) (.inr (HT.out _ B2.out)) ?_
            clear hK K
            refine until_ready (rs := [18]) (by kernel_rfl) (by simp) ?_
            refine AllUntil.cons rfl (fun K hK => ?_) AllUntil.nil
            refine step_append_lies _ (by rfl) (.tmp 121) (.tmp 127) 22 (by rfl) (wc.heap.size + 1) 21 i0' (.int .i32 0) 1 4 Try.underlying22 hi0 hz0 hz1 hz2 rfl (by omega) (.slice ay k cy) k (wantY Y (m + 1) k) (by rfl) ((((HY.out.alloc _).drew).kept hgx (own_swap NE.out)).alloc _) _ 1 1 [.int .i32 (Y i)] (by rfl) (by rfl) (news1 (by go_simp)) (by simp [Value.oneCell']) (by omega) (by unfold maxLen; omega) (by omega) (by first | omega | (simp; omega)) _ rfl ?_
            intro gy capy wy howny hgy haty hlty
            have szy := hgy.size
            try simp at szy haty
            have By : Hid (Below (wc.heap.size + 1) wr wy) := (B2.out).grown hgy (by first | omega | (simp; omega)) LY.out
            have NG : Hid (gx ≠ gy) := own_apart NXY.out haty hltx (by omega)
            have OX : Hid (wy.ownsRow (wc.heap.size + 1) 21 1 (.slice (some ⟨gx, 0, none⟩) (k + 1) capx) (k + 1) (wantX X (m + 1) (k + 1))) := by
              have g := (hownx.alloc _).kept hgy (.inr NXY.out)
              rw [wantX_snoc X (m + 1) k i HI.out] at g
              exact g
            have OY : Hid (wy.ownsRow (wc.heap.size + 1) 21 1 (.slice (some ⟨gy, 0, none⟩) (k + 1) capy) (k + 1) (wantY Y (m + 1) (k + 1))) := by
              have g := howny
              rw [wantY_snoc Y (m + 1) k i HI.out] at g
              exact g
            clear hownx howny hgx hgy hatx haty
            refine hK _ _ (HU.out _ By.out) (.inr (HT.out _ By.out)) ?_
            clear hK K
            have U0 := HU.out _ By.out
            have T0 := HT.out _ By.out
            have U1 := fun v => U0.set (j := 0) (v := v) (Nat.ne_of_gt hsc) (Nat.ne_of_gt lX) (Nat.ne_of_gt lY)
            have U2 := fun v v' => (U1 v).set (j := 1) (v := v') (Nat.ne_of_gt hsc) (Nat.ne_of_gt lX) (Nat.ne_of_gt lY)
            have HU1 : Hid (∀ v, RU (wy.setCell ⟨wc.heap.size, 0, none⟩ v) w.heap.size wc.heap.size bX (oX + i) bY (oY + i) (.slice (some ⟨bX, oX, none⟩) (m + 1) cX) (.slice (some ⟨bY, oY, none⟩) (m + 1) cY) (.int .i32 (X i)) (.int .i32 (Y i))) := U1
            have HU2 : Hid (∀ v v', RU ((wy.setCell ⟨wc.heap.size, 0, none⟩ v).setCell ⟨wc.heap.size, 1, none⟩ v') w.heap.size wc.heap.size bX (oX + i) bY (oY + i) (.slice (some ⟨bX, oX, none⟩) (m + 1) cX) (.slice (some ⟨bY, oY, none⟩) (m + 1) cY) (.int .i32 (X i)) (.int .i32 (Y i))) := U2
            clear U1 U2
            simp only [RU] at U0
            simp only [RT] at T0
            refine until_ready (rs := [20]) (by kernel_rfl) (by simp) ?_
            refine AllUntil.cons rfl (fun K hK => ?_) AllUntil.nil
            go_simp
            refine hK _ _ (HU1.out _) (.inl (by kernel_rfl)) ?_
            clear hK K
            refine until_takeU (i := 21) (v := ?_) rfl (by decide) (by kernel_rfl) (by kernel_rfl) (by kernel_rfl) (fun _ _ _ h => h) (Or.inl ⟨by rfl, ?_⟩) (HU1.out _) (.inl (by kernel_rfl)) ?_
            rotate_left 1
            · intro W hS
              simp only [RU] at hS
              go_simp <;> with_reducible rfl
            refine until_ready (rs := [22]) (by kernel_rfl) (by simp) ?_
            refine AllUntil.cons rfl (fun K hK => ?_) AllUntil.nil
            go_simp
            refine hK _ _ (HU2.out _ _) (.inl (by kernel_rfl)) ?_
            clear hK K
            refine until_done (by kernel_rfl) ?_ _
            refine NoPanic.normal ?_
            clear U0 T0 HU HT HU1 HU2
            go_wp2
            go_roundw
            case rel => exact ⟨k + 1, (i : Int) - 1, _, _, _, _, by have := HI.out; omega, by omega, rfl, want_step WT.out By.out OX.out OY.out NG.out⟩
            case measure => simp [intOf]
          · go_simp
            have B2 : Hid (Below (wc.heap.size + 1) wr ((wr.alloc (.cells #[.int .i32 (-X i)] 21)).alloc (.cells #[.int .i32 (Y i)] 21)).drew) := (((Below.refl _ _).alloc sz _).alloc (by simp; omega) _).drew
            refine hK _ _ (HU.out _ B2.out) (.inr (HT.out _ B2.out)) ?_
            clear hK K
            refine until_ready (rs := [9]) (by kernel_rfl) (by simp) ?_
            refine AllUntil.cons rfl (fun K hK => ?_) AllUntil.nil
            refine step_append_lies _ (by rfl) (.tmp 111) (.tmp 118) 22 (by rfl) (wc.heap.size + 1) 21 i0' (.int .i32 0) 1 4 Try.underlying22 hi0 hz0 hz1 hz2 rfl (by omega) (.slice ax k cx) k (wantX X (m + 1) k) (by rfl) (((HX.out.alloc _).alloc _).drew) _ 1 1 [.int .i32 (-X i)] (by rfl) (by rfl) (news1 (by go_simp)) (by simp [Value.oneCell']) (by omega) (by unfold maxLen; omega) (by omega) (by simp; omega) _ rfl ?_
            intro gx capx wx hownx hgx hatx hltx
            have szx := hgx.size
            simp at szx hatx
            have Bx : Hid (Below (wc.heap.size + 1) wr wx) := (B2.out).grown hgx (by simp; omega) LX.out
            have NXY : Hid (some gx ≠ (Value.slice ay k cy).ownBlock) := own_far hatx NE.out NY.out (by omega)
            refine hK _ _ (HU.out _ Bx.out) (.inr (HT.out _ Bx.out)) ?_
            clear hK K
            refine until_takeU (i := 19) (v := ?_) rfl (by decide) (by kernel_rfl) (by kernel_rfl) (by kernel_rfl) (fun _ _ _ h => h) (Or.inl ⟨by rfl, ?_⟩) (HU.out _ Bx.out) (.inr (HT.out _ Bx.out)) ?_
            rotate_left 1
            · intro W hS
              simp only [RU] at hS
              go_simp <;> with_reducible rfl
            refine until_ready (rs := [18]) (by kernel_rfl) (by simp) ?_
            refine AllUntil.cons rfl (fun K hK => ?_) AllUntil.nil
            refine step_append_lies _ (by rfl) (.tmp 121) (.tmp 127) 22 (by rfl) (wc.heap.size + 1) 21 i0' (.int .i32 0) 1 4 Try.underlying22 hi0 hz0 hz1 hz2 rfl (by omega) (.slice ay k cy) k (wantY Y (m + 1) k) (by rfl) ((((HY.out.alloc _).alloc _).drew).kept hgx (own_swap NE.out)) _ 1 1 [.int .i32 (Y i)] (by rfl) (by rfl) (news1 ((hgx.cell_far ⟨wr.heap.size + 1, 0, none⟩ (by simp) (NX.out (wr.heap.size + 1) (Nat.le_succ _))).trans (by go_simp))) (by simp [Value.oneCell']) (by omega) (by unfold maxLen; omega) (by omega) (by first | omega | (simp; omega)) _ rfl ?_
            intro gy capy wy howny hgy haty hlty
            have szy := hgy.size
            try simp at szy haty
            have By : Hid (Below (wc.heap.size + 1) wr wy) := (Bx.out).grown hgy (by first | omega | (simp; omega)) LY.out
            have NG : Hid (gx ≠ gy) := own_apart NXY.out haty hltx (by omega)
            have OX : Hid (wy.ownsRow (wc.heap.size + 1) 21 1 (.slice (some ⟨gx, 0, none⟩) (k + 1) capx) (k + 1) (wantX X (m + 1) (k + 1))) := by
              have g := hownx.kept hgy (.inr NXY.out)
              rw [wantX_snoc X (m + 1) k i HI.out] at g
              exact g
            have OY : Hid (wy.ownsRow (wc.heap.size + 1) 21 1 (.slice (some ⟨gy, 0, none⟩) (k + 1) capy) (k + 1) (wantY Y (m + 1) (k + 1))) := by
              have g := howny
              rw [wantY_snoc Y (m + 1) k i HI.out] at g
              exact g
            clear hownx howny hgx hgy hatx haty
            refine hK _ _ (HU.out _ By.out) (.inr (HT.out _ By.out)) ?_
            clear hK K
            have U0 := HU.out _ By.out
            have T0 := HT.out _ By.out
            have U1 := fun v => U0.set (j := 0) (v := v) (Nat.ne_of_gt hsc) (Nat.ne_of_gt lX) (Nat.ne_of_gt lY)
            have U2 := fun v v' => (U1 v).set (j := 1) (v := v') (Nat.ne_of_gt hsc) (Nat.ne_of_gt lX) (Nat.ne_of_gt lY)
            have HU1 : Hid (∀ v, RU (wy.setCell ⟨wc.heap.size, 0, none⟩ v) w.heap.size wc.heap.size bX (oX + i) bY (oY + i) (.slice (some ⟨bX, oX, none⟩) (m + 1) cX) (.slice (some ⟨bY, oY, none⟩) (m + 1) cY) (.int .i32 (X i)) (.int .i32 (Y i))) := U1
            have HU2 : Hid (∀ v v', RU ((wy.setCell ⟨wc.heap.size, 0, none⟩ v).setCell ⟨wc.heap.size, 1, none⟩ v') w.heap.size wc.heap.size bX (oX + i) bY (oY + i) (.slice (some ⟨bX, oX, none⟩) (m + 1) cX) (.slice (some ⟨bY, oY, none⟩) (m + 1) cY) (.int .i32 (X i)) (.int .i32 (Y i))) := U2
            clear U1 U2
            simp only [RU] at U0
            simp only [RT] at T0
            refine until_ready (rs := [20]) (by kernel_rfl) (by simp) ?_
            refine AllUntil.cons rfl (fun K hK => ?_) AllUntil.nil
            go_simp
            refine hK _ _ (HU1.out _) (.inl (by kernel_rfl)) ?_
            clear hK K
            refine until_takeU (i := 21) (v := ?_) rfl (by decide) (by kernel_rfl) (by kernel_rfl) (by kernel_rfl) (fun _ _ _ h => h) (Or.inl ⟨by rfl, ?_⟩) (HU1.out _) (.inl (by kernel_rfl)) ?_
            rotate_left 1
            · intro W hS
              simp only [RU] at hS
              go_simp <;> with_reducible rfl
            refine until_ready (rs := [22]) (by kernel_rfl) (by simp) ?_
            refine AllUntil.cons rfl (fun K hK => ?_) AllUntil.nil
            go_simp
            refine hK _ _ (HU2.out _ _) (.inl (by kernel_rfl)) ?_
            clear hK K
            refine until_done (by kernel_rfl) ?_ _
            refine NoPanic.normal ?_
            clear U0 T0 HU HT HU1 HU2
            go_wp2
            go_roundw
            case rel => exact ⟨k + 1, (i : Int) - 1, _, _, _, _, by have := HI.out; omega, by omega, rfl, want_step WT.out By.out OX.out OY.out NG.out⟩
            case measure => simp [intOf]
        · go_simp
          have B1 : Hid (Below (wc.heap.size + 1) wr (wr.alloc (.cells #[.int .i32 (Y i)] 21)).drew) := ((Below.refl _ _).alloc sz _).drew
          refine hK _ _ (HU.out _ B1.out) (.inr (HT.out _ B1.out)) ?_
          clear hK K
          refine until_ready (rs := [8]) (by kernel_rfl) (by simp) ?_
          refine AllUntil.cons rfl (fun K hK => ?_) AllUntil.nil
          go_simp
          have B2 : Hid (Below (wc.heap.size + 1) wr ((wr.alloc (.cells #[.int .i32 (Y i)] 21)).alloc (.cells #[.int .i32 (-X i)] 21)).drew) := (((Below.refl _ _).alloc sz _).alloc (by simp; omega) _).drew
          refine hK _ _ (HU.out _ B2.out) (.inr (HT.out _ B2.out)) ?_
          clear hK K
          refine until_ready (rs := [9]) (by kernel_rfl) (by simp) ?_
          refine AllUntil.cons rfl (fun K hK => ?_) AllUntil.nil
          refine step_append_lies _ (by rfl) (.tmp 111) (.tmp 118) 22 (by rfl) (wc.heap.size + 1) 21 i0' (.int .i32 0) 1 4 Try.underlying22 hi0 hz0 hz1 hz2 rfl (by omega) (.slice ax k cx) k (wantX X (m + 1) k) (by rfl) (((HX.out.alloc _).alloc _).drew) _ 1 1 [.int .i32 (-X i)] (by rfl) (by rfl) (news1 (by go_simp)) (by simp [Value.oneCell']) (by omega) (by unfold maxLen; omega) (by omega) (by simp; omega) _ rfl ?_
          intro gx capx wx hownx hgx hatx hltx
          have szx := hgx.size
          simp at szx hatx
          have Bx : Hid (Below (wc.heap.size + 1) wr wx) := (B2.out).grown hgx (by simp; omega) LX.out
          have NXY : Hid (some gx ≠ (Value.slice ay k cy).ownBlock) := own_far hatx NE.out NY.out (by omega)
          refine hK _ _ (HU.out _ Bx.out) (.inr (HT.out _ Bx.out)) ?_
          clear hK K
          refine until_takeU (i := 19) (v := ?_) rfl (by decide) (by kernel_rfl) (by kernel_rfl) (by kernel_rfl) (fun _ _ _ h => h) (Or.inl ⟨by rfl, ?_⟩) (HU.out _ Bx.out) (.inr (HT.out _ Bx.out)) ?_
          rotate_left 1
          · intro W hS
            simp only [RU] at hS
            go_simp <;> with_reducible rfl
          refine until_ready (rs := [18]) (by kernel_rfl) (by simp) ?_
          refine AllUntil.cons rfl (fun K hK => ?_) AllUntil.nil
          refine step_append_lies _ (by rfl) (.tmp 121) (.tmp 127) 22 (by rfl) (wc.heap.size + 1) 21 i0' (.int .i32 0) 1 4 Try.underlying22 hi0 hz0 hz1 hz2 rfl (by omega) (.slice ay k cy) k (wantY Y (m + 1) k) (by rfl) ((((HY.out.alloc _).alloc _).drew).kept hgx (own_swap NE.out)) _ 1 1 [.int .i32 (Y i)] (by rfl) (by rfl) (news1 ((hgx.cell_far ⟨wr.heap.size, 0, none⟩ (by simp; omega) (NX.out wr.heap.size (Nat.le_refl _))).trans (by go_simp))) (by simp [Value.oneCell']) (by omega) (by unfold maxLen; omega) (by omega) (by first | omega | (simp; omega)) _ rfl ?_
          intro gy capy wy howny hgy haty hlty
          have szy := hgy.size
          try simp at szy haty
          have By : Hid (Below (wc.heap.size + 1) wr wy) := (Bx.out).grown hgy (by first | omega | (simp; omega)) LY.out
          have NG : Hid (gx ≠ gy) := own_apart NXY.out haty hltx (by omega)
          have OX : Hid (wy.ownsRow (wc.heap.size + 1) 21 1 (.slice (some ⟨gx, 0, none⟩) (k + 1) capx) (k + 1) (wantX X (m + 1) (k + 1))) := by
            have g := hownx.kept hgy (.inr NXY.out)
            rw [wantX_snoc X (m + 1) k i HI.out] at g
            exact g
          have OY : Hid (wy.ownsRow (wc.heap.size + 1) 21 1 (.slice (some ⟨gy, 0, none⟩) (k + 1) capy) (k + 1) (wantY Y (m + 1) (k + 1))) := by
            have g := howny
            rw [wantY_snoc Y (m + 1) k i HI.out] at g
            exact g
          clear hownx howny hgx hgy hatx haty
          refine hK _ _ (HU.out _ By.out) (.inr (HT.out _ By.out)) ?_
          clear hK K
          have U0 := HU.out _ By.out
          have T0 := HT.out _ By.out
          have U1 := fun v => U0.set (j := 0) (v := v) (Nat.ne_of_gt hsc) (Nat.ne_of_gt lX) (Nat.ne_of_gt lY)
          have U2 := fun v v' => (U1 v).set (j := 1) (v := v') (Nat.ne_of_gt hsc) (Nat.ne_of_gt lX) (Nat.ne_of_gt lY)
          have HU1 : Hid (∀ v, RU (wy.setCell ⟨wc.heap.size, 0, none⟩ v) w.heap.size wc.heap.size bX (oX + i) bY (oY + i) (.slice (some ⟨bX, oX, none⟩) (m + 1) cX) (.slice (some ⟨bY, oY, none⟩) (m + 1) cY) (.int .i32 (X i)) (.int .i32 (Y i))) := U1
          have HU2 : Hid (∀ v v', RU ((wy.setCell ⟨wc.heap.size, 0, none⟩ v).setCell ⟨wc.heap.size, 1, none⟩ v') w.heap.size wc.heap.size bX (oX + i) bY (oY + i) (.slice (some ⟨bX, oX, none⟩) (m + 1) cX) (.slice (some ⟨bY, oY, none⟩) (m + 1) cY) (.int .i32 (X i)) (.int .i32 (Y i))) := U2
          clear U1 U2
          simp only [RU] at U0
          simp only [RT] at T0
          refine until_ready (rs := [20]) (by kernel_rfl) (by simp) ?_
          refine AllUntil.cons rfl (fun K hK => ?_) AllUntil.nil
          go_simp
          refine hK _ _ (HU1.out _) (.inl (by kernel_rfl)) ?_
          clear hK K
          refine until_takeU (i := 21) (v := ?_) rfl (by decide) (by kernel_rfl) (by kernel_rfl) (by kernel_rfl) (fun _ _ _ h => h) (Or.inl ⟨by rfl, ?_⟩) (HU1.out _) (.inl (by kernel_rfl)) ?_
          rotate_left 1
          · intro W hS
            simp only [RU] at hS
            go_simp <;> with_reducible rfl
          refine until_ready (rs := [22]) (by kernel_rfl) (by simp) ?_
          refine AllUntil.cons rfl (fun K hK => ?_) AllUntil.nil
          go_simp
          refine hK _ _ (HU2.out _ _) (.inl (by kernel_rfl)) ?_
          clear hK K
          refine until_done (by kernel_rfl) ?_ _
          refine NoPanic.normal ?_
          clear U0 T0 HU HT HU1 HU2
          go_wp2
          go_roundw
          case rel => exact ⟨k + 1, (i : Int) - 1, _, _, _, _, by have := HI.out; omega, by omega, rfl, want_step WT.out By.out OX.out OY.out NG.out⟩
          case measure => simp [intOf]
      · obtain rfl : k = m + 1 := by omega
        obtain rfl : t = -1 := by omega
        clear hlt hk
        obtain ⟨gx, gy, rfl, rfl, lx, ly, rx, ry⟩ := want_rows WT.out (by omega)
        have RX : Hid (Row32 wr gx 0 (m + 1) (turnX X (m + 1))) := rx
        have RY : Hid (Row32 wr gy 0 (m + 1) (turnY Y (m + 1))) := ry
        have c1 : wr.cell? ⟨wc.heap.size, 0, none⟩ = some (.slice (some ⟨gx, 0, none⟩) (m + 1) cx) := WT.out.row.cell (i := 0) (by omega)
        have c2 : wr.cell? ⟨wc.heap.size, 1, none⟩ = some (.slice (some ⟨gy, 0, none⟩) (m + 1) cy) := WT.out.row.cell (i := 1) (by omega)
        have a0 := (WT.out.bel.cell (p := ⟨w.heap.size, 0, none⟩) hsc).trans dx0
        have a1 := (WT.out.bel.cell (p := ⟨w.heap.size, 1, none⟩) hsc).trans dx1
        have u0 := (WT.out.bel.cell (p := ⟨w4.heap.size, 0, none⟩) huc).trans DU0.out
        have u1 := (WT.out.bel.cell (p := ⟨w4.heap.size, 1, none⟩) huc).trans DU1.out
        have B4r : Hid (Below w4.heap.size w4 wr) := (B45.out.trans (BC.out.mono B45.out.size)).trans (WT.out.bel.mono (Nat.le_trans B45.out.size BC.out.size))
        have GW : Hid (Below w.heap.size w wr) := BW.out.trans (WT.out.bel.mono BW.out.size)
        have hsr : w.heap.size < wr.heap.size := Nat.lt_of_lt_of_le hsc WT.out.bel.size
        clear rx ry dx0 dx1 c0 q0 ht
        go_wp2_with fail
        refine (same_rows g1 g2 gx gy (m + 1) _ _ _ _ (turnX X (m + 1)) (turnY Y (m + 1)) (turnX X (m + 1)) (turnY Y (m + 1)) _ h64 (Nat.lt_of_lt_of_le p1 B4r.out.size) (Nat.lt_of_lt_of_le p2 B4r.out.size) lx ly (Q1.out.below B4r.out p1) (Q2.out.below B4r.out p2) RX.out RY.out (fun _ _ => rfl) (fun _ _ => rfl)).mono ?_
        rintro r w8 ⟨rfl, hb⟩
        have B8 : Hid (Below w.heap.size w w8) := GW.out.trans (hb.mono GW.out.size)
        have ex0 := (hb.cell (p := ⟨w.heap.size, 0, none⟩) hsr).trans a0
        have ex1 := (hb.cell (p := ⟨w.heap.size, 1, none⟩) hsr).trans a1
        clear hb a0 a1 u0 u1 c1 c2
        go_wp2_with (go_at_call 13; refine (rat_any _ _ _ _ _ _ _ X Y x _ (G.out.below B8.out) x1 x2).mono ?_; rintro r w9 ⟨rfl, hb⟩)
        go_ret
        exact ⟨rfl, B8.out.trans (hb.mono B8.out.size)⟩

theorem walk (tXa : Option Addr) (tXn tXc : Nat) (tX : Nat → Int) (tYa : Option Addr) (tYn tYc : Nat) (tY : Nat → Int) (x : Int) (w : World) (h_tX : RowK .i32 w tXa tXn tXc tX) (h_tY : RowK .i32 w tYa tYn tYc tY) (h_x : (Lit.int .i32 x).wf = true) :
    Calls Try.prog 3 #[.agg #[.slice tXa tXn tXc, .slice tYa tYn tYc], .int .i32 x] w fun e w' => e = .returned (.bool true) ∧ Below w.heap.size w w' := by
  rcases table_cases2 h_tX h_tY with ⟨e, he, hk, hr⟩ | ⟨bX, oX, bY, oY, rfl, rfl, rfl, g⟩
  · exact walk_err _ _ _ _ _ _ e x w he hk hr
  · have b := i32_of h_x
    obtain ⟨m, rfl⟩ : ∃ m, tYn = m + 1 := ⟨tYn - 1, by have := g.pos; omega⟩
    obtain ⟨z, f, e2, hB, hE, hc⟩ : ∃ z f e2 : Int, Bk w bX oX bY oY (m + 1) tXc tYc x z f ∧ RErr w (some ⟨bY, oY, none⟩) (some ⟨bX, oX, none⟩) (m + 1) tYc (m + 1) tXc e2 ∧ (e2 = 4 ∧ z = 0 ∧ f = 1 ∨ e2 = 0 ∧ f = 0 ∧ z = atI tY tX (m + 1) x ∧ risesB tY (m + 1) = true) := by
      rcases hr : risesB tY (m + 1) with _ | _
      · exact ⟨0, 1, 4, fun w1 hb => back_arg _ _ _ _ _ _ _ tX tY x w1 (g.below hb) hr, g.rback hr _ _, .inl ⟨rfl, rfl, rfl⟩⟩
      · exact ⟨_, 0, 0, fun w1 hb => back_any _ _ _ _ _ _ _ tX tY x w1 (g.below hb) hr b.1 b.2, (g.swap hr).rerr _ _, .inr ⟨rfl, rfl, rfl, rfl⟩⟩
    by_cases h0 : tX 0 = -2147483648
    · exact walk_arg _ _ _ _ _ _ _ tX tY x z f e2 w g b.1 b.2 hB hE hc h0
    · exact walk_good _ _ _ _ _ _ _ tX tY x z f e2 w g b.1 b.2 hB hE hc h0

/-! ### THE ROW's STEP -/
set_option maxRecDepth 100000 in
theorem lifted (os : Os) (started : os.Started) (H : Type) (enc : TypeId × Value → H) :
    ReturnsInHanded {} Try.checked os 3 .any (Rows.tableSaysSpec.pre6 enc Try.prog Try.f3 Rows.tableSaysRow.domain false) (Rows.tableSaysSpec.post enc Try.prog Try.f3 false true false false) := by
  refine returnsInHanded_of_change (C := Try.checked) own started (by kernel_rfl) Try.func3
    (ChangeSpec.witness6 (enc := enc) (C := Try.checked) false ⟨#[], #[.agg #[.slice none 0 0, .slice none 0 0], .int .i32 0], []⟩ 8 (by kernel_rfl) (by kernel_rfl) (by kernel_rfl) (by kernel_rfl)) ?_
  intro W base args ds gs before hval0 hW hcnd _
  have hval : ∀ (j : Nat) t v, Try.f3.params[j]? = some t → args[j]? = some v → Value.okWide Try.prog W .any base t v := hval0
  have hW' := hW
  obtain ⟨p, q, hA0, hV, rfl, hfz, hnd⟩ := hW
  have hA : DataW.TrodAll enc Try.prog W 0 (fun _ => true) true Try.f3.params.toList args.toList ds p := hA0
  rw [Try.params3] at hA hval
  obtain ⟨v0, vs0, d0, ds0, p0, q0, hargs, rfl, rfl, h0, r0⟩ := trodAll_cons hA
  obtain ⟨v1, vs1, d1, ds1, p1, q1, rfl, rfl, rfl, h1, r1⟩ := trodAll_cons r0
  obtain ⟨rfl, rfl, rfl⟩ := trodAll_nil r1
  obtain rfl : args = #[v0, v1] := by cases args; simp_all
  obtain ⟨rfl, rfl⟩ := trodVars_none hV
  have k0 := h0
  have lt0 : ∀ x ∈ p0, x.block < W.heap.size := by obtain ⟨m, hm⟩ := k0; exact DataW.trod_lt m _ _ _ hm
  obtain ⟨cs0, rfl, _⟩ := okWide_struct Try.underlying24 (hval 0 24 v0 rfl rfl)
  obtain ⟨tXa, tXn, tXc, tX, tYa, tYn, tYc, tY, e0, h_tX, h_tY⟩ := (by obtain ⟨fuel, hf⟩ := h0; exact open24 hf : ∃ (tXa : Option Addr) (tXn tXc : Nat) (tX : Nat → Int), ∃ (tYa : Option Addr) (tYn tYc : Nat) (tY : Nat → Int), cs0.toList = [.slice tXa tXn tXc, .slice tYa tYn tYc] ∧ RowK .i32 W tXa tXn tXc tX ∧ RowK .i32 W tYa tYn tYc tY)
  obtain rfl : cs0 = #[.slice tXa tXn tXc, .slice tYa tYn tYc] := by cases cs0; simp_all
  clear e0
  have k1 := h1
  have lt1 : ∀ x ∈ p1, x.block < W.heap.size := by obtain ⟨m, hm⟩ := k1; exact DataW.trod_lt m _ _ _ hm
  obtain ⟨x, rfl, rfl, rfl, h_x⟩ := open_int Try.underlying21 (hval 1 21 v1 rfl rfl) h1
  clear hA0 hval0
  refine (walk tXa tXn tXc tX tYa tYn tYc tY x W h_tX h_tY h_x).mono fun e W' ⟨he, bel⟩ => ?_
  subst he
  exact ⟨_, rfl, _, _, _, [], _, [], hW', trodAll_mk1 (shut_bool Try.underlying4 _), (trodAll_cons_mk (Below.trod laidOut (by kernel_rfl) (of_decide_eq_true (by kernel_rfl)) k0 bel lt0) (trodAll_cons_mk (Below.trod laidOut (by kernel_rfl) (of_decide_eq_true (by kernel_rfl)) k1 bel lt1) trodAll_mk0)), rfl, bel.frame _, fun h => by cases h⟩

theorem over : Rows.tableSaysRow.holds Try.pinned (OpenSpec.ofChange Rows.tableSaysSpec) :=
  OpenClaim.holds_of_wide 3 Try.f3 rfl rfl rfl rfl rfl rfl rfl ⟨rfl, rfl, rfl, rfl, rfl⟩ rfl rfl rfl rfl rfl (by kernel_rfl) Try.func3 (by kernel_rfl)
    (of_decide_eq_true (by kernel_rfl)) (by unfold Func.isWrapper; first | (rw [if_pos (by decide +kernel)]; kernel_rfl) | (rw [if_neg (by decide +kernel)]; exact ⟨rfl, rfl⟩))
    (fun os started H enc _ => lifted os started H enc)


end Go.Proofs.Ytjbhmkdodcmhhaa.tableSays
namespace Go.Proofs.Ytjbhmkdodcmhhaa
/-- THE STATEMENT -/
theorem tableSays_holds : Rows.TableSaysSaid := tableSays.over
#print axioms tableSays_holds
end Go.Proofs.Ytjbhmkdodcmhhaa
