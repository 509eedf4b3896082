/-
  Whatever is handed in, the law TableRises returns true: of points that rise what comes rises; back from there it is no farther than it was, and by no more than a step ahead. No condition.
-/
import Derived.Test.YtjbhmkdodcmhhaaTabCases
namespace Go.Proofs.Ytjbhmkdodcmhhaa.tableRises
open Go.ChangeShapes Go.WideShapes Go.ChangeAt Go.RowKit
set_option linter.unusedVariables false

theorem own : ownKnob Try.prog.godebug = none := by kernel_rfl
theorem laidOut : laidOutB Try.prog = true := by kernel_rfl

theorem list2 {l : List Value} (h : l.length = 2) : ∃ c0 c1, l = [c0, c1] := by
  match l, h with
  | [c0, c1], _ => exact ⟨c0, c1, rfl⟩

theorem open24 {H : Type} {enc : TypeId × Value → H} {w : World} {base : Nat} {spare : Nat → Bool} {held : Bool} {fuel : Nat} {cs : List Value} {x : DataW H × List MemPlace} (h : DataW.trod enc Try.prog w base spare held fuel 24 cs = some x) :
    ∃ (vXa : Option Addr) (vXn vXc : Nat) (vX : Nat → Int), ∃ (vYa : Option Addr) (vYn vYc : Nat) (vY : Nat → Int), cs = [.slice vXa vXn vXc, .slice vYa vYn vYc] ∧ RowK .i32 w vXa vXn vXc vX ∧ RowK .i32 w vYa vYn vYc vY := by
  obtain ⟨hl, hf⟩ := trod_field Try.underlying24 h
  rw [show Try.prog.cellsOf 24 = 2 from by kernel_rfl] at hl
  obtain ⟨c0, c1, rfl⟩ := list2 hl
  obtain ⟨n0, y0, h0⟩ := hf 0 _ rfl
  replace h0 : DataW.trod enc Try.prog w base spare held n0 22 (([c0, c1] : List Value).drop 0 |>.take (Try.prog.cellsOf 22)) = some y0 := h0
  rw [show Try.prog.cellsOf 22 = 1 from by kernel_rfl] at h0
  replace h0 : DataW.trod enc Try.prog w base spare held n0 22 [c0] = some y0 := h0
  obtain ⟨n1, y1, h1⟩ := hf 1 _ rfl
  replace h1 : DataW.trod enc Try.prog w base spare held n1 22 (([c0, c1] : List Value).drop 1 |>.take (Try.prog.cellsOf 22)) = some y1 := h1
  rw [show Try.prog.cellsOf 22 = 1 from by kernel_rfl] at h1
  replace h1 : DataW.trod enc Try.prog w base spare held n1 22 [c1] = some y1 := h1
  obtain ⟨x0a, x0n, x0c, x0, e0, f0_0⟩ := rowK_of Try.underlying22 Try.underlying21 (by kernel_rfl) h0
  simp only [List.cons.injEq, and_true] at e0
  obtain rfl := e0
  obtain ⟨x1a, x1n, x1c, x1, e1, f1_0⟩ := rowK_of Try.underlying22 Try.underlying21 (by kernel_rfl) h1
  simp only [List.cons.injEq, and_true] at e1
  obtain rfl := e1
  exact ⟨x0a, x0n, x0c, x0, x1a, x1n, x1c, x1, rfl, f0_0, f1_0⟩


set_option maxHeartbeats 400000 in
theorem walk_err (aX aY : Option Addr) (nX cX nY cY : Nat) (e x z : Int) (w : World) (he : e ≠ 0) (hk : Chk w aX aY nX cX nY cY e) :
    Calls Try.prog 5 #[.agg #[.slice aX nX cX, .slice aY nY cY], .int .i32 x, .int .i32 z] w fun e w' => e = .returned (.bool true) ∧ Below w.heap.size w w' := by
  have K : Hid (Chk w aX aY nX cX nY cY e) := hk
  clear hk
  go_enter Try.func5, Try.ntmps5
  go_wp2_with fail
  refine (back_any _ 0 _ 0 2 2 2 (two 0 4) (two 0 8) 6 _ (good2 (by omega) (by omega) (by omega) (by omega) (by omega) (by go_simp) (by go_simp) (by go_simp) (by go_simp)) (by decide) (by omega) (by omega)).mono ?_
  rintro r w1 ⟨rfl, hb⟩
  rw [show atI (two 0 8) (two 0 4) 2 6 = 3 from by decide]
  have B : Hid (Below w.heap.size w w1) := ((((Below.refl _ _).alloc (Nat.le_refl _) _).alloc (by simp) _).alloc (by simp; omega) _).trans (hb.mono (by simp; omega))
  have bx0 : w1.cell? ⟨w.heap.size, 0, none⟩ = some (.slice aX nX cX) := (hb.cell (p := ⟨w.heap.size, 0, none⟩) (by simp; omega)).trans (by go_simp)
  have bx1 : w1.cell? ⟨w.heap.size, 1, none⟩ = some (.slice aY nY cY) := (hb.cell (p := ⟨w.heap.size, 1, none⟩) (by simp; omega)).trans (by go_simp)
  have hs1 : w.heap.size < w1.heap.size := by have := hb.size; simp at this; omega
  clear hb
  go_wp2_with fail
  refine (back_err _ _ _ _ _ _ e z _ he (K.out.below B.out)).mono ?_
  rintro r w2 ⟨rfl, hb⟩
  have he' : (e != 0) = true := by simpa using he
  clear bx0 bx1 hs1
  go_wp2
  go_ret
  exact ⟨rfl, B.out.trans (hb.mono B.out.size)⟩

set_option maxHeartbeats 400000 in
theorem walk_arg (bX oX bY oY n cX cY : Nat) (X Y : Nat → Int) (x z : Int) (w : World) (g : Good w bX oX bY oY n X Y) (hY : risesB Y n = false) :
    Calls Try.prog 5 #[.agg #[.slice (some ⟨bX, oX, none⟩) n cX, .slice (some ⟨bY, oY, none⟩) n cY], .int .i32 x, .int .i32 z] w fun e w' => e = .returned (.bool true) ∧ Below w.heap.size w w' := by
  have G : Hid (Good w bX oX bY oY n X Y) := g
  clear g
  go_enter Try.func5, Try.ntmps5
  go_wp2_with fail
  refine (back_any _ 0 _ 0 2 2 2 (two 0 4) (two 0 8) 6 _ (good2 (by omega) (by omega) (by omega) (by omega) (by omega) (by go_simp) (by go_simp) (by go_simp) (by go_simp)) (by decide) (by omega) (by omega)).mono ?_
  rintro r w1 ⟨rfl, hb⟩
  rw [show atI (two 0 8) (two 0 4) 2 6 = 3 from by decide]
  have B : Hid (Below w.heap.size w w1) := ((((Below.refl _ _).alloc (Nat.le_refl _) _).alloc (by simp) _).alloc (by simp; omega) _).trans (hb.mono (by simp; omega))
  have bx0 : w1.cell? ⟨w.heap.size, 0, none⟩ = some (.slice (some ⟨bX, oX, none⟩) n cX) := (hb.cell (p := ⟨w.heap.size, 0, none⟩) (by simp; omega)).trans (by go_simp)
  have bx1 : w1.cell? ⟨w.heap.size, 1, none⟩ = some (.slice (some ⟨bY, oY, none⟩) n cY) := (hb.cell (p := ⟨w.heap.size, 1, none⟩) (by simp; omega)).trans (by go_simp)
  have hs1 : w.heap.size < w1.heap.size := by have := hb.size; simp at this; omega
  clear hb
  go_wp2_with fail
  refine (back_arg _ _ _ _ _ _ _ X Y z _ (G.out.below B.out) hY).mono ?_
  rintro r w2 ⟨rfl, hb⟩
  clear bx0 bx1 hs1
  go_wp2
  go_ret
  exact ⟨rfl, B.out.trans (hb.mono B.out.size)⟩

set_option maxRecDepth 100000 in
set_option maxHeartbeats 2000000 in
theorem walk_good (bX oX bY oY m cX cY : Nat) (X Y : Nat → Int) (x z lo hi : Int) (w : World) (x1 : -2147483648 ≤ x) (x2 : x ≤ 2147483647) (z1 : -2147483648 ≤ z) (z2 : z ≤ 2147483647) (g : Good w bX oX bY oY (m + 1) X Y) (hY : risesB Y (m + 1) = true)
    (hm : x < z ∧ lo = x ∧ hi = z ∨ z < x ∧ lo = z ∧ hi = x ∨ x = z) :
    Calls Try.prog 5 #[.agg #[.slice (some ⟨bX, oX, none⟩) (m + 1) cX, .slice (some ⟨bY, oY, none⟩) (m + 1) cY], .int .i32 x, .int .i32 z] w fun e w' => e = .returned (.bool true) ∧ Below w.heap.size w w' := by
  have G : Hid (Good w bX oX bY oY (m + 1) X Y) := g
  have HY : Hid (risesB Y (m + 1) = true) := hY
  clear g hY
  go_enter Try.func5, Try.ntmps5
  go_wp2_with fail
  refine (back_any _ 0 _ 0 2 2 2 (two 0 4) (two 0 8) 6 _ (good2 (by omega) (by omega) (by omega) (by omega) (by omega) (by go_simp) (by go_simp) (by go_simp) (by go_simp)) (by decide) (by omega) (by omega)).mono ?_
  rintro r w1 ⟨rfl, hb⟩
  rw [show atI (two 0 8) (two 0 4) 2 6 = 3 from by decide]
  have B : Hid (Below w.heap.size w w1) := ((((Below.refl _ _).alloc (Nat.le_refl _) _).alloc (by simp) _).alloc (by simp; omega) _).trans (hb.mono (by simp; omega))
  have bx0 : w1.cell? ⟨w.heap.size, 0, none⟩ = some (.slice (some ⟨bX, oX, none⟩) (m + 1) cX) := (hb.cell (p := ⟨w.heap.size, 0, none⟩) (by simp; omega)).trans (by go_simp)
  have bx1 : w1.cell? ⟨w.heap.size, 1, none⟩ = some (.slice (some ⟨bY, oY, none⟩) (m + 1) cY) := (hb.cell (p := ⟨w.heap.size, 1, none⟩) (by simp; omega)).trans (by go_simp)
  have hs1 : w.heap.size < w1.heap.size := by have := hb.size; simp at this; omega
  clear hb
  go_wp2_with fail
  refine (back_any _ _ _ _ _ _ _ X Y z _ (G.out.below B.out) HY.out z1 z2).mono ?_
  rintro r w2 ⟨rfl, hb⟩
  have B2 : Hid (Below w.heap.size w w2) := B.out.trans (hb.mono B.out.size)
  have cx0 := (hb.cell (p := ⟨w.heap.size, 0, none⟩) hs1).trans bx0
  have cx1 := (hb.cell (p := ⟨w.heap.size, 1, none⟩) hs1).trans bx1
  have hs2 : w.heap.size < w2.heap.size := Nat.lt_of_lt_of_le hs1 hb.size
  clear hb bx0 bx1 hs1 B
  have hR : Rises X (m + 1) := (risesB_iff X (m + 1)).1 G.out.rises
  have hR' : Rises Y (m + 1) := (risesB_iff Y (m + 1)).1 HY.out
  have yb : -2147483648 ≤ atI X Y (m + 1) x ∧ atI X Y (m + 1) x ≤ 2147483647 := by
    have a := atI_within hR hR' x
    have b := G.out.iY 0
    have c := G.out.iY m
    omega
  have again : X 0 ≤ atI Y X (m + 1) (atI X Y (m + 1) x) ∧ atI Y X (m + 1) (atI X Y (m + 1) x) ≤ clampI x (X 0) (X m) := by
    have a := atI_back hR hR' x
    have o := rises_le hR (Nat.zero_le m) (by omega)
    have c : clampI x (X 0) (X m) = bnd x (X 0) (X m) := by unfold clampI; rw [if_neg (by omega)]
    refine ⟨a.1, ?_⟩
    rw [c]
    rcases Int.lt_or_le x (X 0) with h | h
    · rw [a.2.1 (by omega), bnd_low h]; omega
    · rcases Int.lt_or_le (X m) x with h' | h'
      · rw [a.2.2.1 (by omega), bnd_high h h']; omega
      · rw [bnd_mid h h']; exact a.2.2.2 h h'
  obtain ⟨ag1, ag2⟩ := again
  rcases hm with ⟨h, rfl, rfl⟩ | ⟨h, rfl, rfl⟩ | rfl
  · have mo := atI_mono hR hR' (show lo ≤ hi by omega)
    clear hR hR'
    go_wp2_with fail
    refine (at_any _ _ _ _ _ _ _ X Y lo _ (G.out.below B2.out) x1 x2).mono ?_
    rintro r w3 ⟨rfl, hb⟩
    have B3 : Hid (Below w.heap.size w w3) := B2.out.trans (hb.mono B2.out.size)
    replace cx0 := (hb.cell (p := ⟨w.heap.size, 0, none⟩) hs2).trans cx0
    replace cx1 := (hb.cell (p := ⟨w.heap.size, 1, none⟩) hs2).trans cx1
    have hs3 : w.heap.size < w3.heap.size := Nat.lt_of_lt_of_le hs2 hb.size
    clear hb hs2
    go_wp2_with fail
    refine (at_any _ _ _ _ _ _ _ X Y hi _ (G.out.below B3.out) z1 z2).mono ?_
    rintro r w4 ⟨rfl, hb⟩
    have B4 : Hid (Below w.heap.size w w4) := B3.out.trans (hb.mono B3.out.size)
    replace cx0 := (hb.cell (p := ⟨w.heap.size, 0, none⟩) hs3).trans cx0
    replace cx1 := (hb.cell (p := ⟨w.heap.size, 1, none⟩) hs3).trans cx1
    have hs4 : w.heap.size < w4.heap.size := Nat.lt_of_lt_of_le hs3 hb.size
    clear hb hs3
    go_wp2_with fail
    refine (at_any _ _ _ _ _ _ _ X Y lo _ (G.out.below B4.out) x1 x2).mono ?_
    rintro r w5 ⟨rfl, hb⟩
    have B5 : Hid (Below w.heap.size w w5) := B4.out.trans (hb.mono B4.out.size)
    replace cx0 := (hb.cell (p := ⟨w.heap.size, 0, none⟩) hs4).trans cx0
    replace cx1 := (hb.cell (p := ⟨w.heap.size, 1, none⟩) hs4).trans cx1
    have hs5 : w.heap.size < w5.heap.size := Nat.lt_of_lt_of_le hs4 hb.size
    clear hb hs4
    go_wp2_with fail
    refine (back_any _ _ _ _ _ _ _ X Y _ _ (G.out.below B5.out) HY.out yb.1 yb.2).mono ?_
    rintro r w6 ⟨rfl, hb⟩
    have B6 : Hid (Below w.heap.size w w6) := B5.out.trans (hb.mono B5.out.size)
    replace cx0 := (hb.cell (p := ⟨w.heap.size, 0, none⟩) hs5).trans cx0
    replace cx1 := (hb.cell (p := ⟨w.heap.size, 1, none⟩) hs5).trans cx1
    have hs6 : w.heap.size < w6.heap.size := Nat.lt_of_lt_of_le hs5 hb.size
    clear hb hs5
    have e0 : w6.cell? ⟨bX, oX, none⟩ = _ := (G.out.below B6.out).hX 0 (by omega)
    have e1 := (G.out.below B6.out).hX m (by omega)
    have h64 := G.out.most
    have m0 : (m : Int) < (m : Int) + 1 := by omega
    go_wp2
    go_quiet ((go_at_call 14; exact (clamp_any _ _ _ _).mono fun _ _ h => ⟨h.1, _, h.2⟩))
    go_wp2
    go_ret
    exact ⟨rfl, below_drewN B6.out _⟩
  · have mo := atI_mono hR hR' (show lo ≤ hi by omega)
    clear hR hR'
    go_wp2_with fail
    refine (at_any _ _ _ _ _ _ _ X Y lo _ (G.out.below B2.out) z1 z2).mono ?_
    rintro r w3 ⟨rfl, hb⟩
    have B3 : Hid (Below w.heap.size w w3) := B2.out.trans (hb.mono B2.out.size)
    replace cx0 := (hb.cell (p := ⟨w.heap.size, 0, none⟩) hs2).trans cx0
    replace cx1 := (hb.cell (p := ⟨w.heap.size, 1, none⟩) hs2).trans cx1
    have hs3 : w.heap.size < w3.heap.size := Nat.lt_of_lt_of_le hs2 hb.size
    clear hb hs2
    go_wp2_with fail
    refine (at_any _ _ _ _ _ _ _ X Y hi _ (G.out.below B3.out) x1 x2).mono ?_
    rintro r w4 ⟨rfl, hb⟩
    have B4 : Hid (Below w.heap.size w w4) := B3.out.trans (hb.mono B3.out.size)
    replace cx0 := (hb.cell (p := ⟨w.heap.size, 0, none⟩) hs3).trans cx0
    replace cx1 := (hb.cell (p := ⟨w.heap.size, 1, none⟩) hs3).trans cx1
    have hs4 : w.heap.size < w4.heap.size := Nat.lt_of_lt_of_le hs3 hb.size
    clear hb hs3
    go_wp2_with fail
    refine (at_any _ _ _ _ _ _ _ X Y hi _ (G.out.below B4.out) x1 x2).mono ?_
    rintro r w5 ⟨rfl, hb⟩
    have B5 : Hid (Below w.heap.size w w5) := B4.out.trans (hb.mono B4.out.size)
    replace cx0 := (hb.cell (p := ⟨w.heap.size, 0, none⟩) hs4).trans cx0
    replace cx1 := (hb.cell (p := ⟨w.heap.size, 1, none⟩) hs4).trans cx1
    have hs5 : w.heap.size < w5.heap.size := Nat.lt_of_lt_of_le hs4 hb.size
    clear hb hs4
    go_wp2_with fail
    refine (back_any _ _ _ _ _ _ _ X Y _ _ (G.out.below B5.out) HY.out yb.1 yb.2).mono ?_
    rintro r w6 ⟨rfl, hb⟩
    have B6 : Hid (Below w.heap.size w w6) := B5.out.trans (hb.mono B5.out.size)
    replace cx0 := (hb.cell (p := ⟨w.heap.size, 0, none⟩) hs5).trans cx0
    replace cx1 := (hb.cell (p := ⟨w.heap.size, 1, none⟩) hs5).trans cx1
    have hs6 : w.heap.size < w6.heap.size := Nat.lt_of_lt_of_le hs5 hb.size
    clear hb hs5
    have e0 : w6.cell? ⟨bX, oX, none⟩ = _ := (G.out.below B6.out).hX 0 (by omega)
    have e1 := (G.out.below B6.out).hX m (by omega)
    have h64 := G.out.most
    have m0 : (m : Int) < (m : Int) + 1 := by omega
    go_wp2
    go_quiet ((go_at_call 14; exact (clamp_any _ _ _ _).mono fun _ _ h => ⟨h.1, _, h.2⟩))
    go_wp2
    go_ret
    exact ⟨rfl, below_drewN B6.out _⟩
  · clear hR hR'
    go_wp2_with fail
    refine (at_any _ _ _ _ _ _ _ X Y x _ (G.out.below B2.out) x1 x2).mono ?_
    rintro r w3 ⟨rfl, hb⟩
    have B3 : Hid (Below w.heap.size w w3) := B2.out.trans (hb.mono B2.out.size)
    replace cx0 := (hb.cell (p := ⟨w.heap.size, 0, none⟩) hs2).trans cx0
    replace cx1 := (hb.cell (p := ⟨w.heap.size, 1, none⟩) hs2).trans cx1
    have hs3 : w.heap.size < w3.heap.size := Nat.lt_of_lt_of_le hs2 hb.size
    clear hb hs2
    go_wp2_with fail
    refine (at_any _ _ _ _ _ _ _ X Y x _ (G.out.below B3.out) x1 x2).mono ?_
    rintro r w4 ⟨rfl, hb⟩
    have B4 : Hid (Below w.heap.size w w4) := B3.out.trans (hb.mono B3.out.size)
    replace cx0 := (hb.cell (p := ⟨w.heap.size, 0, none⟩) hs3).trans cx0
    replace cx1 := (hb.cell (p := ⟨w.heap.size, 1, none⟩) hs3).trans cx1
    have hs4 : w.heap.size < w4.heap.size := Nat.lt_of_lt_of_le hs3 hb.size
    clear hb hs3
    go_wp2_with fail
    refine (at_any _ _ _ _ _ _ _ X Y x _ (G.out.below B4.out) x1 x2).mono ?_
    rintro r w5 ⟨rfl, hb⟩
    have B5 : Hid (Below w.heap.size w w5) := B4.out.trans (hb.mono B4.out.size)
    replace cx0 := (hb.cell (p := ⟨w.heap.size, 0, none⟩) hs4).trans cx0
    replace cx1 := (hb.cell (p := ⟨w.heap.size, 1, none⟩) hs4).trans cx1
    have hs5 : w.heap.size < w5.heap.size := Nat.lt_of_lt_of_le hs4 hb.size
    clear hb hs4
    go_wp2_with fail
    refine (back_any _ _ _ _ _ _ _ X Y _ _ (G.out.below B5.out) HY.out yb.1 yb.2).mono ?_
    rintro r w6 ⟨rfl, hb⟩
    have B6 : Hid (Below w.heap.size w w6) := B5.out.trans (hb.mono B5.out.size)
    replace cx0 := (hb.cell (p := ⟨w.heap.size, 0, none⟩) hs5).trans cx0
    replace cx1 := (hb.cell (p := ⟨w.heap.size, 1, none⟩) hs5).trans cx1
    have hs6 : w.heap.size < w6.heap.size := Nat.lt_of_lt_of_le hs5 hb.size
    clear hb hs5
    have e0 : w6.cell? ⟨bX, oX, none⟩ = _ := (G.out.below B6.out).hX 0 (by omega)
    have e1 := (G.out.below B6.out).hX m (by omega)
    have h64 := G.out.most
    have m0 : (m : Int) < (m : Int) + 1 := by omega
    go_wp2
    go_quiet ((go_at_call 14; exact (clamp_any _ _ _ _).mono fun _ _ h => ⟨h.1, _, h.2⟩))
    go_wp2
    go_ret
    exact ⟨rfl, below_drewN B6.out _⟩

theorem walk (tXa : Option Addr) (tXn tXc : Nat) (tX : Nat → Int) (tYa : Option Addr) (tYn tYc : Nat) (tY : Nat → Int) (x : Int) (z : Int) (w : World) (h_tX : RowK .i32 w tXa tXn tXc tX) (h_tY : RowK .i32 w tYa tYn tYc tY) (h_x : (Lit.int .i32 x).wf = true) (h_z : (Lit.int .i32 z).wf = true) :
    Calls Try.prog 5 #[.agg #[.slice tXa tXn tXc, .slice tYa tYn tYc], .int .i32 x, .int .i32 z] w fun e w' => e = .returned (.bool true) ∧ Below w.heap.size w w' := by
  rcases table_cases h_tX h_tY with ⟨e, he, hk⟩ | ⟨bX, oX, bY, oY, rfl, rfl, rfl, g⟩
  · exact walk_err _ _ _ _ _ _ e x z w (by omega) hk
  · have b := i32_of h_x
    have c := i32_of h_z
    obtain ⟨m, rfl⟩ : ∃ m, tYn = m + 1 := ⟨tYn - 1, by have := g.pos; omega⟩
    rcases hr : risesB tY (m + 1) with _ | _
    · exact walk_arg _ _ _ _ _ _ _ tX tY x z w g hr
    · rcases Int.lt_trichotomy x z with h | h | h
      · exact walk_good _ _ _ _ _ _ _ tX tY x z x z w b.1 b.2 c.1 c.2 g hr (.inl ⟨h, rfl, rfl⟩)
      · exact walk_good _ _ _ _ _ _ _ tX tY x z x z w b.1 b.2 c.1 c.2 g hr (.inr (.inr h))
      · exact walk_good _ _ _ _ _ _ _ tX tY x z z x w b.1 b.2 c.1 c.2 g hr (.inr (.inl ⟨h, rfl, rfl⟩))

/-! ### THE ROW's STEP -/
set_option maxRecDepth 100000 in
theorem lifted (os : Os) (started : os.Started) (H : Type) (enc : TypeId × Value → H) :
    ReturnsInHanded {} Try.checked os 5 .any (Rows.tableRisesSpec.pre6 enc Try.prog Try.f5 Rows.tableRisesRow.domain false) (Rows.tableRisesSpec.post enc Try.prog Try.f5 false true false false) := by
  refine returnsInHanded_of_change (C := Try.checked) own started (by kernel_rfl) Try.func5
    (ChangeSpec.witness6 (enc := enc) (C := Try.checked) false ⟨#[], #[.agg #[.slice none 0 0, .slice none 0 0], .int .i32 0, .int .i32 0], []⟩ 8 (by kernel_rfl) (by kernel_rfl) (by kernel_rfl) (by kernel_rfl)) ?_
  intro W base args ds gs before hval0 hW hcnd _
  have hval : ∀ (j : Nat) t v, Try.f5.params[j]? = some t → args[j]? = some v → Value.okWide Try.prog W .any base t v := hval0
  have hW' := hW
  obtain ⟨p, q, hA0, hV, rfl, hfz, hnd⟩ := hW
  have hA : DataW.TrodAll enc Try.prog W 0 (fun _ => true) true Try.f5.params.toList args.toList ds p := hA0
  rw [Try.params5] at hA hval
  obtain ⟨v0, vs0, d0, ds0, p0, q0, hargs, rfl, rfl, h0, r0⟩ := trodAll_cons hA
  obtain ⟨v1, vs1, d1, ds1, p1, q1, rfl, rfl, rfl, h1, r1⟩ := trodAll_cons r0
  obtain ⟨v2, vs2, d2, ds2, p2, q2, rfl, rfl, rfl, h2, r2⟩ := trodAll_cons r1
  obtain ⟨rfl, rfl, rfl⟩ := trodAll_nil r2
  obtain rfl : args = #[v0, v1, v2] := by cases args; simp_all
  obtain ⟨rfl, rfl⟩ := trodVars_none hV
  have k0 := h0
  have lt0 : ∀ x ∈ p0, x.block < W.heap.size := by obtain ⟨m, hm⟩ := k0; exact DataW.trod_lt m _ _ _ hm
  obtain ⟨cs0, rfl, _⟩ := okWide_struct Try.underlying24 (hval 0 24 v0 rfl rfl)
  obtain ⟨tXa, tXn, tXc, tX, tYa, tYn, tYc, tY, e0, h_tX, h_tY⟩ := (by obtain ⟨fuel, hf⟩ := h0; exact open24 hf : ∃ (tXa : Option Addr) (tXn tXc : Nat) (tX : Nat → Int), ∃ (tYa : Option Addr) (tYn tYc : Nat) (tY : Nat → Int), cs0.toList = [.slice tXa tXn tXc, .slice tYa tYn tYc] ∧ RowK .i32 W tXa tXn tXc tX ∧ RowK .i32 W tYa tYn tYc tY)
  obtain rfl : cs0 = #[.slice tXa tXn tXc, .slice tYa tYn tYc] := by cases cs0; simp_all
  clear e0
  have k1 := h1
  have lt1 : ∀ x ∈ p1, x.block < W.heap.size := by obtain ⟨m, hm⟩ := k1; exact DataW.trod_lt m _ _ _ hm
  obtain ⟨x, rfl, rfl, rfl, h_x⟩ := open_int Try.underlying21 (hval 1 21 v1 rfl rfl) h1
  have k2 := h2
  have lt2 : ∀ x ∈ p2, x.block < W.heap.size := by obtain ⟨m, hm⟩ := k2; exact DataW.trod_lt m _ _ _ hm
  obtain ⟨z, rfl, rfl, rfl, h_z⟩ := open_int Try.underlying21 (hval 2 21 v2 rfl rfl) h2
  clear hA0 hval0
  refine (walk tXa tXn tXc tX tYa tYn tYc tY x z W h_tX h_tY h_x h_z).mono fun e W' ⟨he, bel⟩ => ?_
  subst he
  exact ⟨_, rfl, _, _, _, [], _, [], hW', trodAll_mk1 (shut_bool Try.underlying4 _), (trodAll_cons_mk (Below.trod laidOut (by kernel_rfl) (of_decide_eq_true (by kernel_rfl)) k0 bel lt0) (trodAll_cons_mk (Below.trod laidOut (by kernel_rfl) (of_decide_eq_true (by kernel_rfl)) k1 bel lt1) (trodAll_cons_mk (Below.trod laidOut (by kernel_rfl) (of_decide_eq_true (by kernel_rfl)) k2 bel lt2) trodAll_mk0))), rfl, bel.frame _, fun h => by cases h⟩

theorem over : Rows.tableRisesRow.holds Try.pinned (OpenSpec.ofChange Rows.tableRisesSpec) :=
  OpenClaim.holds_of_wide 5 Try.f5 rfl rfl rfl rfl rfl rfl rfl ⟨rfl, rfl, rfl, rfl, rfl⟩ rfl rfl rfl rfl rfl (by kernel_rfl) Try.func5 (by kernel_rfl)
    (of_decide_eq_true (by kernel_rfl)) (by unfold Func.isWrapper; first | (rw [if_pos (by decide +kernel)]; kernel_rfl) | (rw [if_neg (by decide +kernel)]; exact ⟨rfl, rfl⟩))
    (fun os started H enc _ => lifted os started H enc)


end Go.Proofs.Ytjbhmkdodcmhhaa.tableRises
namespace Go.Proofs.Ytjbhmkdodcmhhaa
/-- THE STATEMENT -/
theorem tableRises_holds : Rows.TableRisesSaid := tableRises.over
#print axioms tableRises_holds
end Go.Proofs.Ytjbhmkdodcmhhaa
