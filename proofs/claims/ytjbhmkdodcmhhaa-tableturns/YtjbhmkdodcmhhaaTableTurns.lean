/-
  Whatever is handed in, the law TableTurns returns true: turned twice a table is as it was; what it tells is what it told of the number with its sign turned. No condition.
-/
import Derived.Test.YtjbhmkdodcmhhaaTabTurned
import Derived.Test.YtjbhmkdodcmhhaaKeep
namespace Go.Proofs.Ytjbhmkdodcmhhaa.tableTurns
open Go.ChangeShapes Go.WideShapes Go.ChangeAt Go.RowKit
set_option linter.unusedVariables false

theorem own : ownKnob Try.prog.godebug = none := by kernel_rfl
theorem laidOut : laidOutB Try.prog = true := by kernel_rfl

theorem list2 {l : List Value} (h : l.length = 2) : ∃ c0 c1, l = [c0, c1] := by
  match l, h with
  | [c0, c1], _ => exact ⟨c0, c1, rfl⟩

theorem open24 {H : Type} {enc : TypeId × Value → H} {w : World} {base : Nat} {spare : Nat → Bool} {held : Bool} {fuel : Nat} {cs : List Value} {x : DataW H × List MemPlace} (h : DataW.trod enc Try.prog w base spare held fuel 24 cs = some x) :
    ∃ (vXa : Option Addr) (vXn vXc : Nat) (vX : Nat → Int), ∃ (vYa : Option Addr) (vYn vYc : Nat) (vY : Nat → Int), cs = [.slice vXa vXn vXc, .slice vYa vYn vYc] ∧ RowK .i32 w vXa vXn vXc vX ∧ RowK .i32 w vYa vYn vYc vY := by
  obtain ⟨hl, hf⟩ := trod_field Try.underlying24 h
  rw [show Try.prog.cellsOf 24 = 2 from by kernel_rfl] at hl
  obtain ⟨c0, c1, rfl⟩ := list2 hl
  obtain ⟨n0, y0, h0⟩ := hf 0 _ rfl
  replace h0 : DataW.trod enc Try.prog w base spare held n0 22 (([c0, c1] : List Value).drop 0 |>.take (Try.prog.cellsOf 22)) = some y0 := h0
  rw [show Try.prog.cellsOf 22 = 1 from by kernel_rfl] at h0
  replace h0 : DataW.trod enc Try.prog w base spare held n0 22 [c0] = some y0 := h0
  obtain ⟨n1, y1, h1⟩ := hf 1 _ rfl
  replace h1 : DataW.trod enc Try.prog w base spare held n1 22 (([c0, c1] : List Value).drop 1 |>.take (Try.prog.cellsOf 22)) = some y1 := h1
  rw [show Try.prog.cellsOf 22 = 1 from by kernel_rfl] at h1
  replace h1 : DataW.trod enc Try.prog w base spare held n1 22 [c1] = some y1 := h1
  obtain ⟨x0a, x0n, x0c, x0, e0, f0_0⟩ := rowK_of Try.underlying22 Try.underlying21 (by kernel_rfl) h0
  simp only [List.cons.injEq, and_true] at e0
  obtain rfl := e0
  obtain ⟨x1a, x1n, x1c, x1, e1, f1_0⟩ := rowK_of Try.underlying22 Try.underlying21 (by kernel_rfl) h1
  simp only [List.cons.injEq, and_true] at e1
  obtain rfl := e1
  exact ⟨x0a, x0n, x0c, x0, x1a, x1n, x1c, x1, rfl, f0_0, f1_0⟩


set_option maxHeartbeats 400000 in
theorem walk_err (aX aY : Option Addr) (nX cX nY cY : Nat) (e x : Int) (w : World) (he : e ≠ 0) (hk : Chk w aX aY nX cX nY cY e) :
    Calls Try.prog 6 #[.agg #[.slice aX nX cX, .slice aY nY cY], .int .i32 x] w fun e w' => e = .returned (.bool true) ∧ Below w.heap.size w w' := by
  have K : Hid (Chk w aX aY nX cX nY cY e) := hk
  clear hk
  go_enter Try.func6, Try.ntmps6
  go_wp2_with fail
  refine (turn_any _ 0 _ 0 2 2 2 (two 1 2) (two 5 6) _ (good2 (by omega) (by omega) (by omega) (by omega) (by omega) (by go_simp) (by go_simp) (by go_simp) (by go_simp)) (by decide)).mono ?_
  rintro r w1 ⟨g1, g2, rfl, l1, l2, r1, r2, hb⟩
  have B1 : Hid (Below w.heap.size w w1) := ((((Below.refl _ _).alloc (Nat.le_refl _) _).alloc (by simp) _).alloc (by simp; omega) _).trans (hb.mono (by simp; omega))
  have bx0 : w1.cell? ⟨w.heap.size, 0, none⟩ = some (.slice aX nX cX) := (hb.cell (p := ⟨w.heap.size, 0, none⟩) (by simp; omega)).trans (by go_simp)
  have bx1 : w1.cell? ⟨w.heap.size, 1, none⟩ = some (.slice aY nY cY) := (hb.cell (p := ⟨w.heap.size, 1, none⟩) (by simp; omega)).trans (by go_simp)
  have hs1 : w.heap.size < w1.heap.size := by have := hb.size; simp at this; omega
  have q1 := row32_of r1
  have q2 := row32_of r2
  have p1 := r1.lt
  have p2 := r2.lt
  clear hb l1 l2 r1 r2
  go_wp2_with fail
  refine (equal_any g1 0 _ 0 2 2 2 _ (two (-2) (-1)) _ (by omega) ((q1.alloc p1 _).alloc (by simp; omega) _) (fun j hj => ?_)).mono ?_
  · rcases (show j = 0 ∨ j = 1 by omega) with rfl | rfl
    · go_simp
      rfl
    · go_simp
      rfl
  rintro r w2 ⟨rfl, d, rfl⟩
  rw [show eqB (fun j => -two 1 2 (2 - 1 - j)) (two (-2) (-1)) 2 = true from by decide]
  go_wp2_with fail
  refine (equal_any g2 0 _ 0 2 2 2 _ (two 6 5) _ (by omega) ((((q2.alloc p2 _).alloc (by simp; omega) _).drewN d).alloc (by simp; omega) _) (fun j hj => ?_)).mono ?_
  · rcases (show j = 0 ∨ j = 1 by omega) with rfl | rfl
    · go_simp
      rfl
    · go_simp
      rfl
  rintro r w3 ⟨rfl, d', rfl⟩
  rw [show eqB (fun j => two 5 6 (2 - 1 - j)) (two 6 5) 2 = true from by decide]
  have B0 : Below w1.heap.size w1 (((((w1.alloc (.cells #[.slice (some ⟨g1, 0, none⟩) 2 2, .slice (some ⟨g2, 0, none⟩) 2 2] 24)).alloc (.cells #[.int .i32 (-2), .int .i32 (-1)] 21)).drewN d).alloc (.cells #[.int .i32 6, .int .i32 5] 21)).drewN d') :=
    below_drewN ((below_drewN (((Below.refl _ _).alloc (Nat.le_refl _) _).alloc (by simp) _) d).alloc (by simp; omega) _) d'
  generalize (((((w1.alloc (.cells #[.slice (some ⟨g1, 0, none⟩) 2 2, .slice (some ⟨g2, 0, none⟩) 2 2] 24)).alloc (.cells #[.int .i32 (-2), .int .i32 (-1)] 21)).drewN d).alloc (.cells #[.int .i32 6, .int .i32 5] 21)).drewN d') = w3 at B0 ⊢
  have B3 : Hid (Below w.heap.size w w3) := B1.out.trans (B0.mono (by omega))
  have cx0 := (B0.cell (p := ⟨w.heap.size, 0, none⟩) hs1).trans bx0
  have cx1 := (B0.cell (p := ⟨w.heap.size, 1, none⟩) hs1).trans bx1
  have hs3 : w.heap.size < w3.heap.size := Nat.lt_of_lt_of_le hs1 B0.size
  clear B0 B1 bx0 bx1 hs1
  clear q1 q2 p1 p2
  go_wp2_with fail
  refine (turn_err _ _ _ _ _ _ e _ he (K.out.below B3.out)).mono ?_
  rintro r w4 ⟨rfl, hb⟩
  have he' : (e != 0) = true := by simpa using he
  go_wp2
  go_ret
  exact ⟨rfl, (B3.out.trans (hb.mono B3.out.size)).alloc (Nat.le_trans B3.out.size hb.size) _⟩

set_option maxRecDepth 100000 in
set_option maxHeartbeats 400000 in
theorem walk_arg (bX oX bY oY n cX cY : Nat) (X Y : Nat → Int) (x : Int) (w : World) (g : Good w bX oX bY oY n X Y) (h0 : X 0 = -2147483648) :
    Calls Try.prog 6 #[.agg #[.slice (some ⟨bX, oX, none⟩) (n) cX, .slice (some ⟨bY, oY, none⟩) (n) cY], .int .i32 x] w fun e w' => e = .returned (.bool true) ∧ Below w.heap.size w w' := by
  have G : Hid (Good w bX oX bY oY (n) X Y) := g
  clear g
  go_enter Try.func6, Try.ntmps6
  go_wp2_with fail
  refine (turn_any _ 0 _ 0 2 2 2 (two 1 2) (two 5 6) _ (good2 (by omega) (by omega) (by omega) (by omega) (by omega) (by go_simp) (by go_simp) (by go_simp) (by go_simp)) (by decide)).mono ?_
  rintro r w1 ⟨g1, g2, rfl, l1, l2, r1, r2, hb⟩
  have B1 : Hid (Below w.heap.size w w1) := ((((Below.refl _ _).alloc (Nat.le_refl _) _).alloc (by simp) _).alloc (by simp; omega) _).trans (hb.mono (by simp; omega))
  have bx0 : w1.cell? ⟨w.heap.size, 0, none⟩ = some (.slice (some ⟨bX, oX, none⟩) (n) cX) := (hb.cell (p := ⟨w.heap.size, 0, none⟩) (by simp; omega)).trans (by go_simp)
  have bx1 : w1.cell? ⟨w.heap.size, 1, none⟩ = some (.slice (some ⟨bY, oY, none⟩) (n) cY) := (hb.cell (p := ⟨w.heap.size, 1, none⟩) (by simp; omega)).trans (by go_simp)
  have hs1 : w.heap.size < w1.heap.size := by have := hb.size; simp at this; omega
  have q1 := row32_of r1
  have q2 := row32_of r2
  have p1 := r1.lt
  have p2 := r2.lt
  clear hb l1 l2 r1 r2
  go_wp2_with fail
  refine (equal_any g1 0 _ 0 2 2 2 _ (two (-2) (-1)) _ (by omega) ((q1.alloc p1 _).alloc (by simp; omega) _) (fun j hj => ?_)).mono ?_
  · rcases (show j = 0 ∨ j = 1 by omega) with rfl | rfl
    · go_simp
      rfl
    · go_simp
      rfl
  rintro r w2 ⟨rfl, d, rfl⟩
  rw [show eqB (fun j => -two 1 2 (2 - 1 - j)) (two (-2) (-1)) 2 = true from by decide]
  go_wp2_with fail
  refine (equal_any g2 0 _ 0 2 2 2 _ (two 6 5) _ (by omega) ((((q2.alloc p2 _).alloc (by simp; omega) _).drewN d).alloc (by simp; omega) _) (fun j hj => ?_)).mono ?_
  · rcases (show j = 0 ∨ j = 1 by omega) with rfl | rfl
    · go_simp
      rfl
    · go_simp
      rfl
  rintro r w3 ⟨rfl, d', rfl⟩
  rw [show eqB (fun j => two 5 6 (2 - 1 - j)) (two 6 5) 2 = true from by decide]
  have B0 : Below w1.heap.size w1 (((((w1.alloc (.cells #[.slice (some ⟨g1, 0, none⟩) 2 2, .slice (some ⟨g2, 0, none⟩) 2 2] 24)).alloc (.cells #[.int .i32 (-2), .int .i32 (-1)] 21)).drewN d).alloc (.cells #[.int .i32 6, .int .i32 5] 21)).drewN d') :=
    below_drewN ((below_drewN (((Below.refl _ _).alloc (Nat.le_refl _) _).alloc (by simp) _) d).alloc (by simp; omega) _) d'
  generalize (((((w1.alloc (.cells #[.slice (some ⟨g1, 0, none⟩) 2 2, .slice (some ⟨g2, 0, none⟩) 2 2] 24)).alloc (.cells #[.int .i32 (-2), .int .i32 (-1)] 21)).drewN d).alloc (.cells #[.int .i32 6, .int .i32 5] 21)).drewN d') = w3 at B0 ⊢
  have B3 : Hid (Below w.heap.size w w3) := B1.out.trans (B0.mono (by omega))
  have cx0 := (B0.cell (p := ⟨w.heap.size, 0, none⟩) hs1).trans bx0
  have cx1 := (B0.cell (p := ⟨w.heap.size, 1, none⟩) hs1).trans bx1
  have hs3 : w.heap.size < w3.heap.size := Nat.lt_of_lt_of_le hs1 B0.size
  clear B0 B1 bx0 bx1 hs1
  clear q1 q2 p1 p2
  go_wp2_with fail
  refine (turn_arg _ _ _ _ _ _ _ X Y _ (G.out.below B3.out) h0).mono ?_
  rintro r w4 ⟨rfl, hb⟩
  go_wp2
  go_ret
  exact ⟨rfl, (B3.out.trans (hb.mono B3.out.size)).alloc (Nat.le_trans B3.out.size hb.size) _⟩

set_option maxRecDepth 100000 in
set_option maxHeartbeats 400000 in
theorem walk_least (bX oX bY oY n cX cY : Nat) (X Y : Nat → Int) (x : Int) (w : World) (g : Good w bX oX bY oY n X Y) (h0 : X 0 ≠ -2147483648) (hx : x = -2147483648) :
    Calls Try.prog 6 #[.agg #[.slice (some ⟨bX, oX, none⟩) (n) cX, .slice (some ⟨bY, oY, none⟩) (n) cY], .int .i32 x] w fun e w' => e = .returned (.bool true) ∧ Below w.heap.size w w' := by
  have G : Hid (Good w bX oX bY oY (n) X Y) := g
  clear g
  go_enter Try.func6, Try.ntmps6
  go_wp2_with fail
  refine (turn_any _ 0 _ 0 2 2 2 (two 1 2) (two 5 6) _ (good2 (by omega) (by omega) (by omega) (by omega) (by omega) (by go_simp) (by go_simp) (by go_simp) (by go_simp)) (by decide)).mono ?_
  rintro r w1 ⟨g1, g2, rfl, l1, l2, r1, r2, hb⟩
  have B1 : Hid (Below w.heap.size w w1) := ((((Below.refl _ _).alloc (Nat.le_refl _) _).alloc (by simp) _).alloc (by simp; omega) _).trans (hb.mono (by simp; omega))
  have bx0 : w1.cell? ⟨w.heap.size, 0, none⟩ = some (.slice (some ⟨bX, oX, none⟩) (n) cX) := (hb.cell (p := ⟨w.heap.size, 0, none⟩) (by simp; omega)).trans (by go_simp)
  have bx1 : w1.cell? ⟨w.heap.size, 1, none⟩ = some (.slice (some ⟨bY, oY, none⟩) (n) cY) := (hb.cell (p := ⟨w.heap.size, 1, none⟩) (by simp; omega)).trans (by go_simp)
  have hs1 : w.heap.size < w1.heap.size := by have := hb.size; simp at this; omega
  have q1 := row32_of r1
  have q2 := row32_of r2
  have p1 := r1.lt
  have p2 := r2.lt
  clear hb l1 l2 r1 r2
  go_wp2_with fail
  refine (equal_any g1 0 _ 0 2 2 2 _ (two (-2) (-1)) _ (by omega) ((q1.alloc p1 _).alloc (by simp; omega) _) (fun j hj => ?_)).mono ?_
  · rcases (show j = 0 ∨ j = 1 by omega) with rfl | rfl
    · go_simp
      rfl
    · go_simp
      rfl
  rintro r w2 ⟨rfl, d, rfl⟩
  rw [show eqB (fun j => -two 1 2 (2 - 1 - j)) (two (-2) (-1)) 2 = true from by decide]
  go_wp2_with fail
  refine (equal_any g2 0 _ 0 2 2 2 _ (two 6 5) _ (by omega) ((((q2.alloc p2 _).alloc (by simp; omega) _).drewN d).alloc (by simp; omega) _) (fun j hj => ?_)).mono ?_
  · rcases (show j = 0 ∨ j = 1 by omega) with rfl | rfl
    · go_simp
      rfl
    · go_simp
      rfl
  rintro r w3 ⟨rfl, d', rfl⟩
  rw [show eqB (fun j => two 5 6 (2 - 1 - j)) (two 6 5) 2 = true from by decide]
  have B0 : Below w1.heap.size w1 (((((w1.alloc (.cells #[.slice (some ⟨g1, 0, none⟩) 2 2, .slice (some ⟨g2, 0, none⟩) 2 2] 24)).alloc (.cells #[.int .i32 (-2), .int .i32 (-1)] 21)).drewN d).alloc (.cells #[.int .i32 6, .int .i32 5] 21)).drewN d') :=
    below_drewN ((below_drewN (((Below.refl _ _).alloc (Nat.le_refl _) _).alloc (by simp) _) d).alloc (by simp; omega) _) d'
  generalize (((((w1.alloc (.cells #[.slice (some ⟨g1, 0, none⟩) 2 2, .slice (some ⟨g2, 0, none⟩) 2 2] 24)).alloc (.cells #[.int .i32 (-2), .int .i32 (-1)] 21)).drewN d).alloc (.cells #[.int .i32 6, .int .i32 5] 21)).drewN d') = w3 at B0 ⊢
  have B3 : Hid (Below w.heap.size w w3) := B1.out.trans (B0.mono (by omega))
  have cx0 := (B0.cell (p := ⟨w.heap.size, 0, none⟩) hs1).trans bx0
  have cx1 := (B0.cell (p := ⟨w.heap.size, 1, none⟩) hs1).trans bx1
  have hs3 : w.heap.size < w3.heap.size := Nat.lt_of_lt_of_le hs1 B0.size
  clear B0 B1 bx0 bx1 hs1
  clear q1 q2 p1 p2
  go_wp2_with fail
  refine (turn_any _ _ _ _ _ _ _ X Y _ (G.out.below B3.out) h0).mono ?_
  rintro r w4 ⟨h1, h2, rfl, l1, l2, r1, r2, hb⟩
  clear l1 l2 r1 r2
  go_wp2
  go_ret
  exact ⟨rfl, (B3.out.trans (hb.mono B3.out.size)).alloc (Nat.le_trans B3.out.size hb.size) _⟩

set_option maxRecDepth 100000 in
set_option maxHeartbeats 2000000 in
theorem walk_good (bX oX bY oY m cX cY : Nat) (X Y : Nat → Int) (x : Int) (w : World) (g : Good w bX oX bY oY (m + 1) X Y) (h0 : X 0 ≠ -2147483648) (x1 : -2147483648 < x) (x2 : x ≤ 2147483647) :
    Calls Try.prog 6 #[.agg #[.slice (some ⟨bX, oX, none⟩) (m + 1) cX, .slice (some ⟨bY, oY, none⟩) (m + 1) cY], .int .i32 x] w fun e w' => e = .returned (.bool true) ∧ Below w.heap.size w w' := by
  have G : Hid (Good w bX oX bY oY (m + 1) X Y) := g
  clear g
  go_enter Try.func6, Try.ntmps6
  go_wp2_with fail
  refine (turn_any _ 0 _ 0 2 2 2 (two 1 2) (two 5 6) _ (good2 (by omega) (by omega) (by omega) (by omega) (by omega) (by go_simp) (by go_simp) (by go_simp) (by go_simp)) (by decide)).mono ?_
  rintro r w1 ⟨g1, g2, rfl, l1, l2, r1, r2, hb⟩
  have B1 : Hid (Below w.heap.size w w1) := ((((Below.refl _ _).alloc (Nat.le_refl _) _).alloc (by simp) _).alloc (by simp; omega) _).trans (hb.mono (by simp; omega))
  have bx0 : w1.cell? ⟨w.heap.size, 0, none⟩ = some (.slice (some ⟨bX, oX, none⟩) (m + 1) cX) := (hb.cell (p := ⟨w.heap.size, 0, none⟩) (by simp; omega)).trans (by go_simp)
  have bx1 : w1.cell? ⟨w.heap.size, 1, none⟩ = some (.slice (some ⟨bY, oY, none⟩) (m + 1) cY) := (hb.cell (p := ⟨w.heap.size, 1, none⟩) (by simp; omega)).trans (by go_simp)
  have hs1 : w.heap.size < w1.heap.size := by have := hb.size; simp at this; omega
  have q1 := row32_of r1
  have q2 := row32_of r2
  have p1 := r1.lt
  have p2 := r2.lt
  clear hb l1 l2 r1 r2
  go_wp2_with fail
  refine (equal_any g1 0 _ 0 2 2 2 _ (two (-2) (-1)) _ (by omega) ((q1.alloc p1 _).alloc (by simp; omega) _) (fun j hj => ?_)).mono ?_
  · rcases (show j = 0 ∨ j = 1 by omega) with rfl | rfl
    · go_simp
      rfl
    · go_simp
      rfl
  rintro r w2 ⟨rfl, d, rfl⟩
  rw [show eqB (fun j => -two 1 2 (2 - 1 - j)) (two (-2) (-1)) 2 = true from by decide]
  go_wp2_with fail
  refine (equal_any g2 0 _ 0 2 2 2 _ (two 6 5) _ (by omega) ((((q2.alloc p2 _).alloc (by simp; omega) _).drewN d).alloc (by simp; omega) _) (fun j hj => ?_)).mono ?_
  · rcases (show j = 0 ∨ j = 1 by omega) with rfl | rfl
    · go_simp
      rfl
    · go_simp
      rfl
  rintro r w3 ⟨rfl, d', rfl⟩
  rw [show eqB (fun j => two 5 6 (2 - 1 - j)) (two 6 5) 2 = true from by decide]
  have B0 : Below w1.heap.size w1 (((((w1.alloc (.cells #[.slice (some ⟨g1, 0, none⟩) 2 2, .slice (some ⟨g2, 0, none⟩) 2 2] 24)).alloc (.cells #[.int .i32 (-2), .int .i32 (-1)] 21)).drewN d).alloc (.cells #[.int .i32 6, .int .i32 5] 21)).drewN d') :=
    below_drewN ((below_drewN (((Below.refl _ _).alloc (Nat.le_refl _) _).alloc (by simp) _) d).alloc (by simp; omega) _) d'
  generalize (((((w1.alloc (.cells #[.slice (some ⟨g1, 0, none⟩) 2 2, .slice (some ⟨g2, 0, none⟩) 2 2] 24)).alloc (.cells #[.int .i32 (-2), .int .i32 (-1)] 21)).drewN d).alloc (.cells #[.int .i32 6, .int .i32 5] 21)).drewN d') = w3 at B0 ⊢
  have B3 : Hid (Below w.heap.size w w3) := B1.out.trans (B0.mono (by omega))
  have cx0 := (B0.cell (p := ⟨w.heap.size, 0, none⟩) hs1).trans bx0
  have cx1 := (B0.cell (p := ⟨w.heap.size, 1, none⟩) hs1).trans bx1
  have hs3 : w.heap.size < w3.heap.size := Nat.lt_of_lt_of_le hs1 B0.size
  clear B0 B1 bx0 bx1 hs1
  clear q1 q2 p1 p2
  go_wp2_with fail
  refine (turn_any _ _ _ _ _ _ _ X Y _ (G.out.below B3.out) h0).mono ?_
  rintro r w4 ⟨h1, h2, rfl, l1, l2, r1, r2, hb⟩
  have G4 : Hid (Good w4 h1 0 h2 0 (m + 1) (turnX X (m + 1)) (turnY Y (m + 1))) := good_turn G.out h0 r1 r2
  have B4 : Hid (Below w.heap.size w w4) := B3.out.trans (hb.mono B3.out.size)
  have bx0 := (hb.cell (p := ⟨w.heap.size, 0, none⟩) hs3).trans cx0
  have bx1 := (hb.cell (p := ⟨w.heap.size, 1, none⟩) hs3).trans cx1
  have hs4 : w.heap.size < w4.heap.size := Nat.lt_of_lt_of_le hs3 hb.size
  clear l1 l2 r1 r2 hb cx0 cx1 hs3 B3
  go_wp2_with fail
  refine (turn_any h1 0 h2 0 (m + 1) (m + 1) (m + 1) (turnX X (m + 1)) (turnY Y (m + 1)) _ (G4.out.below ((Below.refl _ _).alloc (Nat.le_refl _) _)) (turn_first G.out.iX)).mono ?_
  rintro r w5 ⟨k1, k2, rfl, l1, l2, r1, r2, hb⟩
  have B5 : Hid (Below w.heap.size w w5) := (B4.out.alloc B4.out.size _).trans (hb.mono (by simp; omega))
  have G5 : Hid (Good w5 h1 0 h2 0 (m + 1) (turnX X (m + 1)) (turnY Y (m + 1))) := G4.out.below (((Below.refl _ _).alloc (Nat.le_refl _) _).trans (hb.mono (by simp)))
  have R1 : Hid (Row32 w5 k1 0 (m + 1) (turnX (turnX X (m + 1)) (m + 1))) := row32_of r1
  have R2 : Hid (Row32 w5 k2 0 (m + 1) (turnY (turnY Y (m + 1)) (m + 1))) := row32_of r2
  have p1 := r1.lt
  have p2 := r2.lt
  have cx0 : w5.cell? ⟨w.heap.size, 0, none⟩ = some (.slice (some ⟨bX, oX, none⟩) (m + 1) cX) := (hb.cell (p := ⟨w.heap.size, 0, none⟩) (by simp; omega)).trans (by go_simp)
  have cx1 : w5.cell? ⟨w.heap.size, 1, none⟩ = some (.slice (some ⟨bY, oY, none⟩) (m + 1) cY) := (hb.cell (p := ⟨w.heap.size, 1, none⟩) (by simp; omega)).trans (by go_simp)
  have cu0 : w5.cell? ⟨w4.heap.size, 0, none⟩ = some (.slice (some ⟨h1, 0, none⟩) (m + 1) (m + 1)) := (hb.cell (p := ⟨w4.heap.size, 0, none⟩) (by simp)).trans (by go_simp)
  have cu1 : w5.cell? ⟨w4.heap.size, 1, none⟩ = some (.slice (some ⟨h2, 0, none⟩) (m + 1) (m + 1)) := (hb.cell (p := ⟨w4.heap.size, 1, none⟩) (by simp)).trans (by go_simp)
  have hu5 : w4.heap.size < w5.heap.size := by have := hb.size; simp at this; omega
  have hs5 : w.heap.size < w5.heap.size := by omega
  clear hb l1 l2 r1 r2 bx0 bx1 hs4 B4 G4
  go_wp2_with fail
  refine (at_any _ _ _ _ _ _ _ X Y x _ (G.out.below (B5.out.alloc B5.out.size _)) (by omega) x2).mono ?_
  rintro r w6 ⟨rfl, hb⟩
  have B6 : Hid (Below w5.heap.size w5 w6) := ((Below.refl _ _).alloc (Nat.le_refl _) _).trans (hb.mono (by simp))
  have dx0 := (B6.out.cell (p := ⟨w.heap.size, 0, none⟩) hs5).trans cx0
  have dx1 := (B6.out.cell (p := ⟨w.heap.size, 1, none⟩) hs5).trans cx1
  have du0 := (B6.out.cell (p := ⟨w4.heap.size, 0, none⟩) hu5).trans cu0
  have du1 := (B6.out.cell (p := ⟨w4.heap.size, 1, none⟩) hu5).trans cu1
  have dv0 : w6.cell? ⟨w5.heap.size, 0, none⟩ = some (.slice (some ⟨k1, 0, none⟩) (m + 1) (m + 1)) := (hb.cell (p := ⟨w5.heap.size, 0, none⟩) (by simp)).trans (by go_simp)
  have dv1 : w6.cell? ⟨w5.heap.size, 1, none⟩ = some (.slice (some ⟨k2, 0, none⟩) (m + 1) (m + 1)) := (hb.cell (p := ⟨w5.heap.size, 1, none⟩) (by simp)).trans (by go_simp)
  have hv6 : w5.heap.size < w6.heap.size := by have := hb.size; simp at this; omega
  clear hb cx0 cx1 cu0 cu1
  have xn1 : -2147483648 ≤ -x := by omega
  have xn2 : -x ≤ 2147483647 := by omega
  go_wp2_with fail
  refine (at_any _ _ _ _ _ _ _ (turnX X (m + 1)) (turnY Y (m + 1)) (-x) _ (G5.out.below B6.out) xn1 xn2).mono ?_
  rintro r w7 ⟨rfl, hb⟩
  rw [atI_turn ((risesB_iff X (m + 1)).1 G.out.rises) x]
  have B7 : Hid (Below w5.heap.size w5 w7) := B6.out.trans (hb.mono B6.out.size)
  have ex0 := (hb.cell (p := ⟨w.heap.size, 0, none⟩) (by show w.heap.size < w6.heap.size; omega)).trans dx0
  have ex1 := (hb.cell (p := ⟨w.heap.size, 1, none⟩) (by show w.heap.size < w6.heap.size; omega)).trans dx1
  have ev0 := (hb.cell (p := ⟨w5.heap.size, 0, none⟩) hv6).trans dv0
  have ev1 := (hb.cell (p := ⟨w5.heap.size, 1, none⟩) hv6).trans dv1
  clear hb dx0 dx1 du0 du1 dv0 dv1
  have Q1 : Hid (eqB (turnX (turnX X (m + 1)) (m + 1)) X (m + 1) = true) := (eqB_iff _ _ _).2 (fun k hk => turn_back k hk)
  have Q2 : Hid (eqB (turnY (turnY Y (m + 1)) (m + 1)) Y (m + 1) = true) := (eqB_iff _ _ _).2 (fun k hk => turn_backY k hk)
  have h64 := G.out.most
  have B8 : Hid (Below w.heap.size w w7) := B5.out.trans (B7.out.mono B5.out.size)
  have yb : -2147483648 ≤ atI X Y (m + 1) x ∧ atI X Y (m + 1) x ≤ 2147483647 := atI_in32 ((risesB_iff X (m + 1)).1 G.out.rises) G.out.pos G.out.iY x
  go_wp2_with fail
  refine (equal_any k1 0 bX oX (m + 1) (m + 1) cX _ X _ (by omega) (R1.out.below B7.out p1) (G.out.below B8.out).hX).mono ?_
  rintro r w8 ⟨rfl, d1, rfl⟩
  rw [Q1.out]
  go_wp2_with fail
  refine (equal_any k2 0 bY oY (m + 1) (m + 1) cY _ Y _ (by omega) ((R2.out.below B7.out p2).drewN d1) ((G.out.below B8.out).hY.drewN d1)).mono ?_
  rintro r w9 ⟨rfl, d2, rfl⟩
  rw [Q2.out]
  have ab : absI (atI X Y (m + 1) x - atI X Y (m + 1) x) ≤ 1 := by rw [Int.sub_self]; decide
  go_wp2_with (go_at_call 16; refine (apart_any _ _ yb.1 yb.2 yb.1 yb.2 _).mono ?_; rintro e w' ⟨rfl, rfl⟩)
  go_ret
  exact ⟨rfl, below_drewN B8.out _⟩

theorem walk (tXa : Option Addr) (tXn tXc : Nat) (tX : Nat → Int) (tYa : Option Addr) (tYn tYc : Nat) (tY : Nat → Int) (x : Int) (w : World) (h_tX : RowK .i32 w tXa tXn tXc tX) (h_tY : RowK .i32 w tYa tYn tYc tY) (h_x : (Lit.int .i32 x).wf = true) :
    Calls Try.prog 6 #[.agg #[.slice tXa tXn tXc, .slice tYa tYn tYc], .int .i32 x] w fun e w' => e = .returned (.bool true) ∧ Below w.heap.size w w' := by
  rcases table_cases h_tX h_tY with ⟨e, he, hk⟩ | ⟨bX, oX, bY, oY, rfl, rfl, rfl, g⟩
  · exact walk_err _ _ _ _ _ _ e x w (by omega) hk
  · have b := i32_of h_x
    by_cases h0 : tX 0 = -2147483648
    · exact walk_arg _ _ _ _ _ _ _ tX tY x w g h0
    · by_cases hx : x = -2147483648
      · exact walk_least _ _ _ _ _ _ _ tX tY x w g h0 hx
      · obtain ⟨m, rfl⟩ : ∃ m, tYn = m + 1 := ⟨tYn - 1, by have := g.pos; omega⟩
        exact walk_good _ _ _ _ _ _ _ tX tY x w g h0 (by omega) b.2

/-! ### THE ROW's STEP -/
set_option maxRecDepth 100000 in
theorem lifted (os : Os) (started : os.Started) (H : Type) (enc : TypeId × Value → H) :
    ReturnsInHanded {} Try.checked os 6 .any (Rows.tableTurnsSpec.pre6 enc Try.prog Try.f6 Rows.tableTurnsRow.domain false) (Rows.tableTurnsSpec.post enc Try.prog Try.f6 false true false false) := by
  refine returnsInHanded_of_change (C := Try.checked) own started (by kernel_rfl) Try.func6
    (ChangeSpec.witness6 (enc := enc) (C := Try.checked) false ⟨#[], #[.agg #[.slice none 0 0, .slice none 0 0], .int .i32 0], []⟩ 8 (by kernel_rfl) (by kernel_rfl) (by kernel_rfl) (by kernel_rfl)) ?_
  intro W base args ds gs before hval0 hW hcnd _
  have hval : ∀ (j : Nat) t v, Try.f6.params[j]? = some t → args[j]? = some v → Value.okWide Try.prog W .any base t v := hval0
  have hW' := hW
  obtain ⟨p, q, hA0, hV, rfl, hfz, hnd⟩ := hW
  have hA : DataW.TrodAll enc Try.prog W 0 (fun _ => true) true Try.f6.params.toList args.toList ds p := hA0
  rw [Try.params6] at hA hval
  obtain ⟨v0, vs0, d0, ds0, p0, q0, hargs, rfl, rfl, h0, r0⟩ := trodAll_cons hA
  obtain ⟨v1, vs1, d1, ds1, p1, q1, rfl, rfl, rfl, h1, r1⟩ := trodAll_cons r0
  obtain ⟨rfl, rfl, rfl⟩ := trodAll_nil r1
  obtain rfl : args = #[v0, v1] := by cases args; simp_all
  obtain ⟨rfl, rfl⟩ := trodVars_none hV
  have k0 := h0
  have lt0 : ∀ x ∈ p0, x.block < W.heap.size := by obtain ⟨m, hm⟩ := k0; exact DataW.trod_lt m _ _ _ hm
  obtain ⟨cs0, rfl, _⟩ := okWide_struct Try.underlying24 (hval 0 24 v0 rfl rfl)
  obtain ⟨tXa, tXn, tXc, tX, tYa, tYn, tYc, tY, e0, h_tX, h_tY⟩ := (by obtain ⟨fuel, hf⟩ := h0; exact open24 hf : ∃ (tXa : Option Addr) (tXn tXc : Nat) (tX : Nat → Int), ∃ (tYa : Option Addr) (tYn tYc : Nat) (tY : Nat → Int), cs0.toList = [.slice tXa tXn tXc, .slice tYa tYn tYc] ∧ RowK .i32 W tXa tXn tXc tX ∧ RowK .i32 W tYa tYn tYc tY)
  obtain rfl : cs0 = #[.slice tXa tXn tXc, .slice tYa tYn tYc] := by cases cs0; simp_all
  clear e0
  have k1 := h1
  have lt1 : ∀ x ∈ p1, x.block < W.heap.size := by obtain ⟨m, hm⟩ := k1; exact DataW.trod_lt m _ _ _ hm
  obtain ⟨x, rfl, rfl, rfl, h_x⟩ := open_int Try.underlying21 (hval 1 21 v1 rfl rfl) h1
  clear hA0 hval0
  refine (walk tXa tXn tXc tX tYa tYn tYc tY x W h_tX h_tY h_x).mono fun e W' ⟨he, bel⟩ => ?_
  subst he
  exact ⟨_, rfl, _, _, _, [], _, [], hW', trodAll_mk1 (shut_bool Try.underlying4 _), (trodAll_cons_mk (Below.trod laidOut (by kernel_rfl) (of_decide_eq_true (by kernel_rfl)) k0 bel lt0) (trodAll_cons_mk (Below.trod laidOut (by kernel_rfl) (of_decide_eq_true (by kernel_rfl)) k1 bel lt1) trodAll_mk0)), rfl, bel.frame _, fun h => by cases h⟩

theorem over : Rows.tableTurnsRow.holds Try.pinned (OpenSpec.ofChange Rows.tableTurnsSpec) :=
  OpenClaim.holds_of_wide 6 Try.f6 rfl rfl rfl rfl rfl rfl rfl ⟨rfl, rfl, rfl, rfl, rfl⟩ rfl rfl rfl rfl rfl (by kernel_rfl) Try.func6 (by kernel_rfl)
    (of_decide_eq_true (by kernel_rfl)) (by unfold Func.isWrapper; first | (rw [if_pos (by decide +kernel)]; kernel_rfl) | (rw [if_neg (by decide +kernel)]; exact ⟨rfl, rfl⟩))
    (fun os started H enc _ => lifted os started H enc)


end Go.Proofs.Ytjbhmkdodcmhhaa.tableTurns
namespace Go.Proofs.Ytjbhmkdodcmhhaa
/-- THE STATEMENT -/
theorem tableTurns_holds : Rows.TableTurnsSaid := tableTurns.over
#print axioms tableTurns_holds
end Go.Proofs.Ytjbhmkdodcmhhaa
