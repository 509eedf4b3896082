/-
  Whatever is handed in, the law TableKnots returns true: at a point a table is that point, between two it is between theirs, outside it is the end. No condition.
-/
import Derived.Test.YtjbhmkdodcmhhaaTabCases
namespace Go.Proofs.Ytjbhmkdodcmhhaa.tableKnots
open Go.ChangeShapes Go.WideShapes Go.ChangeAt Go.RowKit
set_option linter.unusedVariables false

theorem own : ownKnob Try.prog.godebug = none := by kernel_rfl
theorem laidOut : laidOutB Try.prog = true := by kernel_rfl

theorem list2 {l : List Value} (h : l.length = 2) : ∃ c0 c1, l = [c0, c1] := by
  match l, h with
  | [c0, c1], _ => exact ⟨c0, c1, rfl⟩

theorem open24 {H : Type} {enc : TypeId × Value → H} {w : World} {base : Nat} {spare : Nat → Bool} {held : Bool} {fuel : Nat} {cs : List Value} {x : DataW H × List MemPlace} (h : DataW.trod enc Try.prog w base spare held fuel 24 cs = some x) :
    ∃ (vXa : Option Addr) (vXn vXc : Nat) (vX : Nat → Int), ∃ (vYa : Option Addr) (vYn vYc : Nat) (vY : Nat → Int), cs = [.slice vXa vXn vXc, .slice vYa vYn vYc] ∧ RowK .i32 w vXa vXn vXc vX ∧ RowK .i32 w vYa vYn vYc vY := by
  obtain ⟨hl, hf⟩ := trod_field Try.underlying24 h
  rw [show Try.prog.cellsOf 24 = 2 from by kernel_rfl] at hl
  obtain ⟨c0, c1, rfl⟩ := list2 hl
  obtain ⟨n0, y0, h0⟩ := hf 0 _ rfl
  replace h0 : DataW.trod enc Try.prog w base spare held n0 22 (([c0, c1] : List Value).drop 0 |>.take (Try.prog.cellsOf 22)) = some y0 := h0
  rw [show Try.prog.cellsOf 22 = 1 from by kernel_rfl] at h0
  replace h0 : DataW.trod enc Try.prog w base spare held n0 22 [c0] = some y0 := h0
  obtain ⟨n1, y1, h1⟩ := hf 1 _ rfl
  replace h1 : DataW.trod enc Try.prog w base spare held n1 22 (([c0, c1] : List Value).drop 1 |>.take (Try.prog.cellsOf 22)) = some y1 := h1
  rw [show Try.prog.cellsOf 22 = 1 from by kernel_rfl] at h1
  replace h1 : DataW.trod enc Try.prog w base spare held n1 22 [c1] = some y1 := h1
  obtain ⟨x0a, x0n, x0c, x0, e0, f0_0⟩ := rowK_of Try.underlying22 Try.underlying21 (by kernel_rfl) h0
  simp only [List.cons.injEq, and_true] at e0
  obtain rfl := e0
  obtain ⟨x1a, x1n, x1c, x1, e1, f1_0⟩ := rowK_of Try.underlying22 Try.underlying21 (by kernel_rfl) h1
  simp only [List.cons.injEq, and_true] at e1
  obtain rfl := e1
  exact ⟨x0a, x0n, x0c, x0, x1a, x1n, x1c, x1, rfl, f0_0, f1_0⟩


set_option maxHeartbeats 400000 in
theorem walk_err (aX aY : Option Addr) (nX cX nY cY : Nat) (e x : Int) (w : World) (he : e ≠ 0) (hk : Chk w aX aY nX cX nY cY e) :
    Calls Try.prog 4 #[.agg #[.slice aX nX cX, .slice aY nY cY], .int .i32 x] w fun e w' => e = .returned (.bool true) ∧ Below w.heap.size w w' := by
  have K : Hid (Chk w aX aY nX cX nY cY e) := hk
  clear hk
  go_enter Try.func4, Try.ntmps4
  go_wp2_with fail
  refine (at_any _ 0 _ 0 2 2 2 (two 0 4) (two 0 8) 3 _ (good2 (by omega) (by omega) (by omega) (by omega) (by omega) (by go_simp) (by go_simp) (by go_simp) (by go_simp)) (by omega) (by omega)).mono ?_
  rintro r w1 ⟨rfl, hb⟩
  rw [show atI (two 0 4) (two 0 8) 2 3 = 6 from by decide]
  have B : Hid (Below w.heap.size w w1) := ((((Below.refl _ _).alloc (Nat.le_refl _) _).alloc (by simp) _).alloc (by simp; omega) _).trans (hb.mono (by simp; omega))
  have bx0 : w1.cell? ⟨w.heap.size, 0, none⟩ = some (.slice aX nX cX) := (hb.cell (p := ⟨w.heap.size, 0, none⟩) (by simp; omega)).trans (by go_simp)
  have bx1 : w1.cell? ⟨w.heap.size, 1, none⟩ = some (.slice aY nY cY) := (hb.cell (p := ⟨w.heap.size, 1, none⟩) (by simp; omega)).trans (by go_simp)
  have hs1 : w.heap.size < w1.heap.size := by have := hb.size; simp at this; omega
  clear hb
  go_wp2_with fail
  refine (at_err _ _ _ _ _ _ e x _ he (K.out.below B.out)).mono ?_
  rintro r w2 ⟨rfl, hb⟩
  have B2 : Hid (Below w.heap.size w w2) := B.out.trans (hb.mono B.out.size)
  have bx2 := (hb.cell (p := ⟨w.heap.size, 0, none⟩) hs1).trans bx0
  have bx3 := (hb.cell (p := ⟨w.heap.size, 1, none⟩) hs1).trans bx1
  have he' : (e != 0) = true := by simpa using he
  clear hb bx0 bx1 hs1
  go_wp2_with (go_at_call 11; refine (K.out _ B2.out).mono ?_; rintro r w3 ⟨rfl, hb⟩)
  go_ret
  exact ⟨rfl, B2.out.trans (hb.mono B2.out.size)⟩

set_option maxRecDepth 100000 in
set_option maxHeartbeats 2000000 in
theorem walk_good (bX oX bY oY m cX cY : Nat) (X Y : Nat → Int) (x : Int) (w : World) (x1 : -2147483648 ≤ x) (x2 : x ≤ 2147483647) (g : Good w bX oX bY oY (m + 1) X Y) :
    Calls Try.prog 4 #[.agg #[.slice (some ⟨bX, oX, none⟩) (m + 1) cX, .slice (some ⟨bY, oY, none⟩) (m + 1) cY], .int .i32 x] w fun e w' => e = .returned (.bool true) ∧ Below w.heap.size w w' := by
  have G : Hid (Good w bX oX bY oY (m + 1) X Y) := g
  have h64 := g.most
  clear g
  go_enter Try.func4, Try.ntmps4
  go_wp2_with fail
  refine (at_any _ 0 _ 0 2 2 2 (two 0 4) (two 0 8) 3 _ (good2 (by omega) (by omega) (by omega) (by omega) (by omega) (by go_simp) (by go_simp) (by go_simp) (by go_simp)) (by omega) (by omega)).mono ?_
  rintro r w1 ⟨rfl, hb⟩
  rw [show atI (two 0 4) (two 0 8) 2 3 = 6 from by decide]
  have B : Hid (Below w.heap.size w w1) := ((((Below.refl _ _).alloc (Nat.le_refl _) _).alloc (by simp) _).alloc (by simp; omega) _).trans (hb.mono (by simp; omega))
  have bx0 : w1.cell? ⟨w.heap.size, 0, none⟩ = some (.slice (some ⟨bX, oX, none⟩) (m + 1) cX) := (hb.cell (p := ⟨w.heap.size, 0, none⟩) (by simp; omega)).trans (by go_simp)
  have bx1 : w1.cell? ⟨w.heap.size, 1, none⟩ = some (.slice (some ⟨bY, oY, none⟩) (m + 1) cY) := (hb.cell (p := ⟨w.heap.size, 1, none⟩) (by simp; omega)).trans (by go_simp)
  have hs1 : w.heap.size < w1.heap.size := by have := hb.size; simp at this; omega
  clear hb
  go_wp2_with fail
  refine (at_any _ _ _ _ _ _ _ X Y _ _ (G.out.below B.out) x1 x2).mono ?_
  rintro r w2 ⟨rfl, hb⟩
  have B2 : Below w.heap.size w w2 := B.out.trans (hb.mono B.out.size)
  have bx2 := (hb.cell (p := ⟨w.heap.size, 0, none⟩) hs1).trans bx0
  have bx3 := (hb.cell (p := ⟨w.heap.size, 1, none⟩) hs1).trans bx1
  have hs2 : w.heap.size < w2.heap.size := Nat.lt_of_lt_of_le hs1 hb.size
  clear hb bx0 bx1 hs1 B
  have HR : Hid (Rises X (m + 1)) := (risesB_iff X (m + 1)).1 G.out.rises
  go_wp2
  go_loopw [49] (fun i wr => ∃ k : Nat, k ≤ m + 1 ∧ i = .int .i64 k ∧ Below w.heap.size w wr ∧ w.heap.size < wr.heap.size ∧ wr.cell? ⟨w.heap.size, 0, none⟩ = some (.slice (some ⟨bX, oX, none⟩) (m + 1) cX) ∧ wr.cell? ⟨w.heap.size, 1, none⟩ = some (.slice (some ⟨bY, oY, none⟩) (m + 1) cY)) (fun i _ => m + 1 - (intOf i).toNat)
  case atStart => exact ⟨0, Nat.zero_le _, rfl, B2, hs2, bx2, bx3⟩
  case round =>
    obtain ⟨k, hk, rfl, B, hs, c0, c1⟩ := hrel
    have hX := (G.out.below B).hX
    have hY := (G.out.below B).hY
    clear B2 bx2 bx3 hs2
    by_cases hlt : k < m + 1
    · have HB : Hid (Below w.heap.size w wr) := B
      have hx := hX k hlt
      have ix := G.out.iX k
      clear B hX hY
      go_wp2_with fail
      refine (at_any _ _ _ _ _ _ _ X Y _ _ (G.out.below HB.out) ix.1 ix.2).mono ?_
      rintro r w3 ⟨rfl, hb⟩
      rw [atI_knot HR.out hlt]
      have B3 : Hid (Below w.heap.size w w3) := HB.out.trans (hb.mono HB.out.size)
      have d0 := (hb.cell (p := ⟨w.heap.size, 0, none⟩) hs).trans c0
      have d1 := (hb.cell (p := ⟨w.heap.size, 1, none⟩) hs).trans c1
      have hs3 : w.heap.size < w3.heap.size := Nat.lt_of_lt_of_le hs hb.size
      have y0 := (G.out.below B3.out).hY k hlt
      clear hb hs c0 c1 hx ix
      have k0 : (k : Int) < (m : Int) + 1 := by omega
      by_cases hn : k < m
      · have z0 := (G.out.below B3.out).hX (k + 1) (by omega)
        have z1 := (G.out.below B3.out).hY (k + 1) (by omega)
        have k1 : (k : Int) < (m : Int) := by omega
        rcases Int.lt_or_le x (X k) with h1 | h1
        · have q1 : decide (X k ≤ x) = false := by simp; omega
          go_wp2
          go_quiet (fail)
          clear q1
          go_wp2
          go_roundw
          case rel => exact ⟨k + 1, by omega, by go_num, below_drewN B3.out _, hs3, d0, d1⟩
          case measure => simp [intOf]; omega
        · rcases Int.lt_or_le (X (k + 1)) x with h2 | h2
          · have q2 : decide (x ≤ X (k + 1)) = false := by simp; omega
            go_wp2
            go_quiet (fail)
            clear q2
            go_wp2
            go_roundw
            case rel => exact ⟨k + 1, by omega, by go_num, below_drewN B3.out _, hs3, d0, d1⟩
            case measure => simp [intOf]; omega
          · have bt := atI_in (Y := Y) HR.out (show k + 1 < m + 1 by omega) h1 h2
            rcases Int.lt_or_le (Y k) (Y (k + 1)) with h3 | h3
            · have b1 := bt.1 (by omega)
              have q3 : decide (atI X Y (m + 1) x < Y k) = false := by simp; omega
              have q4 : decide (Y (k + 1) < atI X Y (m + 1) x) = false := by simp; omega
              clear bt
              go_wp2
              go_quiet (fail)
              clear q3 q4
              go_wp2
              go_roundw
              case rel => exact ⟨k + 1, by omega, by go_num, below_drewN B3.out _, hs3, d0, d1⟩
              case measure => simp [intOf]; omega
            · rcases Int.lt_or_le (Y (k + 1)) (Y k) with h4 | h4
              · have b1 := bt.2 (by omega)
                have q3 : decide (atI X Y (m + 1) x < Y (k + 1)) = false := by simp; omega
                have q4 : decide (Y k < atI X Y (m + 1) x) = false := by simp; omega
                clear bt
                go_wp2
                go_quiet (fail)
                clear q3 q4
                go_wp2
                go_roundw
                case rel => exact ⟨k + 1, by omega, by go_num, below_drewN B3.out _, hs3, d0, d1⟩
                case measure => simp [intOf]; omega
              · have b1 := bt.1 (by omega)
                have e4 : Y (k + 1) = Y k := by omega
                rw [e4] at z1 b1
                have q3 : decide (atI X Y (m + 1) x < Y k) = false := by simp; omega
                have q4 : decide (Y k < atI X Y (m + 1) x) = false := by simp; omega
                clear bt h3 h4 e4
                go_wp2
                go_quiet (fail)
                clear q3 q4
                go_wp2
                go_roundw
                case rel => exact ⟨k + 1, by omega, by go_num, below_drewN B3.out _, hs3, d0, d1⟩
                case measure => simp [intOf]; omega
      · have q : decide ((k : Int) < (m : Int)) = false := by simp; omega
        go_wp2
        go_quiet (fail)
        clear q
        go_wp2
        go_roundw
        case rel => exact ⟨k + 1, by omega, by go_num, below_drewN B3.out _, hs3, d0, d1⟩
        case measure => simp [intOf]; omega
    · have c2 : wr.cell? ⟨bX, oX, none⟩ = _ := hX 0 (by omega)
      have c3 : wr.cell? ⟨bY, oY, none⟩ = _ := hY 0 (by omega)
      have c4 := hX m (by omega)
      have c5 := hY m (by omega)
      have HB : Hid (Below w.heap.size w wr) := B
      clear B hX hY
      rcases Int.lt_or_le (X 0) x with h1 | h1
      · rcases Int.lt_or_le x (X m) with h2 | h2
        · go_wp2
          go_ret
          exact ⟨rfl, HB.out⟩
        · have e := atI_last (Y := Y) HR.out h2
          go_wp2
          go_ret
          exact ⟨rfl, HB.out⟩
      · have e := atI_first (Y := Y) HR.out (by omega) h1
        rcases Int.lt_or_le x (X m) with h2 | h2
        · go_wp2
          go_ret
          exact ⟨rfl, HB.out⟩
        · have e' := atI_last (Y := Y) HR.out h2
          have e2 : Y 0 = Y m := e.symm.trans e'
          clear e'
          go_wp2
          go_ret
          exact ⟨rfl, HB.out⟩

theorem walk (tXa : Option Addr) (tXn tXc : Nat) (tX : Nat → Int) (tYa : Option Addr) (tYn tYc : Nat) (tY : Nat → Int) (x : Int) (w : World) (h_tX : RowK .i32 w tXa tXn tXc tX) (h_tY : RowK .i32 w tYa tYn tYc tY) (h_x : (Lit.int .i32 x).wf = true) :
    Calls Try.prog 4 #[.agg #[.slice tXa tXn tXc, .slice tYa tYn tYc], .int .i32 x] w fun e w' => e = .returned (.bool true) ∧ Below w.heap.size w w' := by
  rcases table_cases h_tX h_tY with ⟨e, he, hk⟩ | ⟨bX, oX, bY, oY, rfl, rfl, rfl, g⟩
  · exact walk_err _ _ _ _ _ _ e x w (by omega) hk
  · have b := i32_of h_x
    obtain ⟨m, rfl⟩ : ∃ m, tYn = m + 1 := ⟨tYn - 1, by have := g.pos; omega⟩
    exact walk_good _ _ _ _ _ _ _ tX tY x w b.1 b.2 g

/-! ### THE ROW's STEP -/
set_option maxRecDepth 100000 in
theorem lifted (os : Os) (started : os.Started) (H : Type) (enc : TypeId × Value → H) :
    ReturnsInHanded {} Try.checked os 4 .any (Rows.tableKnotsSpec.pre6 enc Try.prog Try.f4 Rows.tableKnotsRow.domain false) (Rows.tableKnotsSpec.post enc Try.prog Try.f4 false true false false) := by
  refine returnsInHanded_of_change (C := Try.checked) own started (by kernel_rfl) Try.func4
    (ChangeSpec.witness6 (enc := enc) (C := Try.checked) false ⟨#[], #[.agg #[.slice none 0 0, .slice none 0 0], .int .i32 0], []⟩ 8 (by kernel_rfl) (by kernel_rfl) (by kernel_rfl) (by kernel_rfl)) ?_
  intro W base args ds gs before hval0 hW hcnd _
  have hval : ∀ (j : Nat) t v, Try.f4.params[j]? = some t → args[j]? = some v → Value.okWide Try.prog W .any base t v := hval0
  have hW' := hW
  obtain ⟨p, q, hA0, hV, rfl, hfz, hnd⟩ := hW
  have hA : DataW.TrodAll enc Try.prog W 0 (fun _ => true) true Try.f4.params.toList args.toList ds p := hA0
  rw [Try.params4] at hA hval
  obtain ⟨v0, vs0, d0, ds0, p0, q0, hargs, rfl, rfl, h0, r0⟩ := trodAll_cons hA
  obtain ⟨v1, vs1, d1, ds1, p1, q1, rfl, rfl, rfl, h1, r1⟩ := trodAll_cons r0
  obtain ⟨rfl, rfl, rfl⟩ := trodAll_nil r1
  obtain rfl : args = #[v0, v1] := by cases args; simp_all
  obtain ⟨rfl, rfl⟩ := trodVars_none hV
  have k0 := h0
  have lt0 : ∀ x ∈ p0, x.block < W.heap.size := by obtain ⟨m, hm⟩ := k0; exact DataW.trod_lt m _ _ _ hm
  obtain ⟨cs0, rfl, _⟩ := okWide_struct Try.underlying24 (hval 0 24 v0 rfl rfl)
  obtain ⟨tXa, tXn, tXc, tX, tYa, tYn, tYc, tY, e0, h_tX, h_tY⟩ := (by obtain ⟨fuel, hf⟩ := h0; exact open24 hf : ∃ (tXa : Option Addr) (tXn tXc : Nat) (tX : Nat → Int), ∃ (tYa : Option Addr) (tYn tYc : Nat) (tY : Nat → Int), cs0.toList = [.slice tXa tXn tXc, .slice tYa tYn tYc] ∧ RowK .i32 W tXa tXn tXc tX ∧ RowK .i32 W tYa tYn tYc tY)
  obtain rfl : cs0 = #[.slice tXa tXn tXc, .slice tYa tYn tYc] := by cases cs0; simp_all
  clear e0
  have k1 := h1
  have lt1 : ∀ x ∈ p1, x.block < W.heap.size := by obtain ⟨m, hm⟩ := k1; exact DataW.trod_lt m _ _ _ hm
  obtain ⟨x, rfl, rfl, rfl, h_x⟩ := open_int Try.underlying21 (hval 1 21 v1 rfl rfl) h1
  clear hA0 hval0
  refine (walk tXa tXn tXc tX tYa tYn tYc tY x W h_tX h_tY h_x).mono fun e W' ⟨he, bel⟩ => ?_
  subst he
  exact ⟨_, rfl, _, _, _, [], _, [], hW', trodAll_mk1 (shut_bool Try.underlying4 _), (trodAll_cons_mk (Below.trod laidOut (by kernel_rfl) (of_decide_eq_true (by kernel_rfl)) k0 bel lt0) (trodAll_cons_mk (Below.trod laidOut (by kernel_rfl) (of_decide_eq_true (by kernel_rfl)) k1 bel lt1) trodAll_mk0)), rfl, bel.frame _, fun h => by cases h⟩

theorem over : Rows.tableKnotsRow.holds Try.pinned (OpenSpec.ofChange Rows.tableKnotsSpec) :=
  OpenClaim.holds_of_wide 4 Try.f4 rfl rfl rfl rfl rfl rfl rfl ⟨rfl, rfl, rfl, rfl, rfl⟩ rfl rfl rfl rfl rfl (by kernel_rfl) Try.func4 (by kernel_rfl)
    (of_decide_eq_true (by kernel_rfl)) (by unfold Func.isWrapper; first | (rw [if_pos (by decide +kernel)]; kernel_rfl) | (rw [if_neg (by decide +kernel)]; exact ⟨rfl, rfl⟩))
    (fun os started H enc _ => lifted os started H enc)


end Go.Proofs.Ytjbhmkdodcmhhaa.tableKnots
namespace Go.Proofs.Ytjbhmkdodcmhhaa
/-- THE STATEMENT -/
theorem tableKnots_holds : Rows.TableKnotsSaid := tableKnots.over
#print axioms tableKnots_holds
end Go.Proofs.Ytjbhmkdodcmhhaa
