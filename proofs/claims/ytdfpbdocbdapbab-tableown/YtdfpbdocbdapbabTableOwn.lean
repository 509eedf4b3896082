/-
  Whatever is handed in, the law TableOwn returns true: points that are handed in stay, with the memory behind them; answers are new memory. No condition.
-/
import Derived.Test.YtdfpbdocbdapbabOwnSt
import Derived.ProofKit
import Derived.Deep.RegionHeld3
import Derived.Deep.DeepCutAuto
namespace Go.Proofs.Ytdfpbdocbdapbab.tableOwn
open Go.ChangeShapes Go.WideShapes Go.ChangeAt Go.RowKit
set_option linter.unusedVariables false

theorem own : ownKnob Try.prog.godebug = none := by kernel_rfl
theorem laidOut : laidOutB Try.prog = true := by kernel_rfl

theorem list2 {l : List Value} (h : l.length = 2) : ∃ c0 c1, l = [c0, c1] := by
  match l, h with
  | [c0, c1], _ => exact ⟨c0, c1, rfl⟩

theorem open24 {H : Type} {enc : TypeId × Value → H} {w : World} {base : Nat} {spare : Nat → Bool} {held : Bool} {fuel : Nat} {cs : List Value} {x : DataW H × List MemPlace} (h : DataW.trod enc Try.prog w base spare held fuel 24 cs = some x) (hz : Light Try.prog 24 x.1) :
    ∃ (vXa : Option Addr) (vXn vXc : Nat) (vX : Nat → Int), ∃ (vYa : Option Addr) (vYn vYc : Nat) (vY : Nat → Int), cs = [.slice vXa vXn vXc, .slice vYa vYn vYc] ∧ RowZ .i32 4 w vXa vXn vXc vX ∧ RowZ .i32 4 w vYa vYn vYc vY := by
  obtain ⟨hl, hf⟩ := trod_field_z Try.underlying24 h hz
  rw [show Try.prog.cellsOf 24 = 2 from by kernel_rfl] at hl
  obtain ⟨c0, c1, rfl⟩ := list2 hl
  obtain ⟨n0, y0, h0, z0⟩ := hf 0 _ rfl
  replace h0 : DataW.trod enc Try.prog w base spare held n0 22 (([c0, c1] : List Value).drop 0 |>.take (Try.prog.cellsOf 22)) = some y0 := h0
  rw [show Try.prog.cellsOf 22 = 1 from by kernel_rfl] at h0
  replace h0 : DataW.trod enc Try.prog w base spare held n0 22 [c0] = some y0 := h0
  obtain ⟨n1, y1, h1, z1⟩ := hf 1 _ rfl
  replace h1 : DataW.trod enc Try.prog w base spare held n1 22 (([c0, c1] : List Value).drop 1 |>.take (Try.prog.cellsOf 22)) = some y1 := h1
  rw [show Try.prog.cellsOf 22 = 1 from by kernel_rfl] at h1
  replace h1 : DataW.trod enc Try.prog w base spare held n1 22 [c1] = some y1 := h1
  obtain ⟨x0a, x0n, x0c, x0, e0, f0_0⟩ := rowZ_of Try.underlying22 Try.underlying21 (by kernel_rfl) (by kernel_rfl) h0 z0
  simp only [List.cons.injEq, and_true] at e0
  obtain rfl := e0
  obtain ⟨x1a, x1n, x1c, x1, e1, f1_0⟩ := rowZ_of Try.underlying22 Try.underlying21 (by kernel_rfl) (by kernel_rfl) h1 z1
  simp only [List.cons.injEq, and_true] at e1
  obtain rfl := e1
  exact ⟨x0a, x0n, x0c, x0, x1a, x1n, x1c, x1, rfl, f0_0, f1_0⟩


theorem off_none {g : Nat} : Off none g := fun b off e => by cases e
theorem off_some {b o g : Nat} (h : b ≠ g) : Off (some ⟨b, o, none⟩) g := fun b' off e => by
  cases e
  exact h
theorem off_new {a : Option Addr} {N g : Nat} (h : ∀ b off, a = some ⟨b, off, none⟩ → N ≤ b) (hg : g < N) : Off a g := fun b off e => by
  have := h b off e
  omega

set_option maxHeartbeats 8000000 in
set_option maxRecDepth 100000 in
theorem walk (tXa : Option Addr) (tXn tXc : Nat) (tX : Nat → Int) (tYa : Option Addr) (tYn tYc : Nat) (tY : Nat → Int) (x : Int) (la : Option Addr) (ln lc : Nat) (l : Nat → Int) (w : World) (h_tX : RowZ .i32 4 w tXa tXn tXc tX) (h_tY : RowZ .i32 4 w tYa tYn tYc tY) (h_x : (Lit.int .i32 x).wf = true) (h_l : RowZ .i32 4 w la ln lc l) :
    Calls Try.prog 3 #[.agg #[.slice tXa tXn tXc, .slice tYa tYn tYc], .int .i32 x, .slice la ln lc] w fun e w' => e = .returned (.bool true) ∧ Below w.heap.size w w' := by
  obtain ⟨x1, x2⟩ := i32_of h_x
  have ZX : Hid (RowZ .i32 4 w tXa tXn tXc tX) := h_tX
  have ZY : Hid (RowZ .i32 4 w tYa tYn tYc tY) := h_tY
  clear h_tX h_tY h_l h_x
  go_enter Try.func3, Try.ntmps3
  go_wp2_with fail
  refine (at_any _ 0 _ 0 1 1 1 (fun _ => 0) (fun _ => 3) 9 _ (good1 (by go_simp) (by go_simp)) (by omega) (by omega)).mono ?_
  rintro r w1 ⟨rfl, hb⟩
  rw [show atI (fun _ => 0) (fun _ => 3) 1 9 = 3 from by decide]
  have B : Hid (Below w.heap.size w w1) := ((((Below.refl _ _).alloc (Nat.le_refl _) _).alloc (by simp) _).alloc (by simp; omega) _).trans (hb.mono (by simp; omega))
  have bx0 : w1.cell? ⟨w.heap.size, 0, none⟩ = some (.slice tXa tXn tXc) := (hb.cell (p := ⟨w.heap.size, 0, none⟩) (by simp; omega)).trans (by go_simp)
  have bx1 : w1.cell? ⟨w.heap.size, 1, none⟩ = some (.slice tYa tYn tYc) := (hb.cell (p := ⟨w.heap.size, 1, none⟩) (by simp; omega)).trans (by go_simp)
  have hs1 : w.heap.size < w1.heap.size := by have := hb.size; simp at this; omega
  clear hb
  go_upto_region 4 with (fail)
  have S0 : Hid (St0 w (.slice tXa tXn tXc) (.slice tYa tYn tYc) w1) := ⟨B.out, bx0, bx1, hs1⟩
  have EX : Hid (∃ l, RowZ .i32 4 w tXa tXn tXc l) := ⟨_, ZX.out⟩
  have EY : Hid (∃ l, RowZ .i32 4 w tYa tYn tYc l) := ⟨_, ZY.out⟩
  have AA : ∀ (a : Option Addr) (n c : Nat), Hid (∃ l, RowZ .i32 4 w a n c l) → ∀ W, Hid (St0 w (.slice tXa tXn tXc) (.slice tYa tYn tYc) W) → Calls Try.prog 5 #[.slice a n c, .int .i32 77] W fun e w' => ∃ g cap, e = .returned (.slice (some ⟨g, 0, none⟩) n cap) ∧ Hid (∃ l, RowZ .i32 4 w a n c l ∧ Ample W.heap.size w' g cap n l 77 ∧ Below W.heap.size W w') ∧ Hid (St0 w (.slice tXa tXn tXc) (.slice tYa tYn tYc) w') := fun a n c hr W hW => by
    obtain ⟨l, hl⟩ := hr.out
    refine (ample_any a n c l 77 W (RowZ.below hl hW.out.bel)).mono ?_
    rintro e w' ⟨g, cap, h1, h2, h3⟩
    exact ⟨g, cap, h1, ⟨l, hl, h2, h3⟩, hW.out.step h3⟩
  go_cut [9] (fun sv wc => ∃ (p gX gY cX cY : Nat) (lX lY : Nat → Int), sv = .pointer (some ⟨p, 0, none⟩) ∧ Hid (Ins w (.slice tXa tXn tXc) (.slice tYa tYn tYc) p gX gY cX cY tXn tYn lX lY wc) ∧ Hid (RowZ .i32 4 w tXa tXn tXc lX ∧ RowZ .i32 4 w tYa tYn tYc lY))
  case first =>
    go_region_held3 (fun w' => w'.cell? ⟨w.heap.size, 0, none⟩ = some (.slice tXa tXn tXc) ∧ w'.cell? ⟨w.heap.size, 1, none⟩ = some (.slice tYa tYn tYc)) (first | exact ⟨SB.out.b0, SB.out.b1⟩ | exact ⟨SA.out.b0, SA.out.b1⟩ | exact ⟨S0.out.b0, S0.out.b1⟩ | exact ⟨(SB.out.alloc _).b0, (SB.out.alloc _).b1⟩ | exact ⟨(SA.out.alloc _).b0, (SA.out.alloc _).b1⟩ | exact ⟨(S0.out.drew.alloc _).b0, (S0.out.drew.alloc _).b1⟩ | exact ⟨(SB.out.store (by omega) _ _).b0, (SB.out.store (by omega) _ _).b1⟩ | exact ⟨((SB.out.alloc _).store (by omega) _ _).b0, ((SB.out.alloc _).store (by omega) _ _).b1⟩ | go_keep)
      (first | (go_at_call 5; refine (AA _ _ _ (by exact EY) _ (by first | exact SA | exact SA.out.alloc _)).mono ?_; rintro e wB ⟨gB, cB, rfl, HB, SB⟩; have hsB := SB.out.lt; (try have PBx := PBa.out.below (bel_of HB)); (try have PBx := (PB.new wA).below (bel_of HB)); (try obtain ⟨p0, p1, f0, f1, pl⟩ := PBx)) | (go_at_call 5; refine (AA _ _ _ (by exact EX) _ (by first | exact S0.out.drew | exact (S0.out.alloc _).drew | exact (S0.out.drew.alloc _))).mono ?_; rintro e wA ⟨gA, cA, rfl, HA, SA⟩; have hsA := SA.out.lt; (try have PBa : Hid (PB wA w1.heap.size) := (PB.new w1).drew.below (bel_of HA))))
    · obtain ⟨lX, rX, aX, bX⟩ := HA.out
      obtain ⟨lY, rY, aY, bY⟩ := HB.out
      all_goals (try go_wp2)
      go_meet
      exact ⟨_, gA, gB, cA, cB, lX, lY, rfl, ins_last (by simp; omega) SB.out aX aY hsA bY, ⟨rX, rY⟩⟩
    · obtain ⟨lX, rX, aX, bX⟩ := HA.out
      obtain ⟨lY, rY, aY, bY⟩ := HB.out
      obtain ⟨_, _, _, kX, _⟩ := cap_of aX (by omega)
      obtain ⟨_, _, mY, _⟩ := cap_of aY (by omega)
      simp at mY
      all_goals (try go_wp2)
      go_meet
      exact ⟨_, gA, gB, cA, cB, lX, lY, rfl, ins_store (by simp; omega) (by simp; omega) SB.out aX aY ((bY.block gA (by simp; omega)).trans (Below.heap_alloc wA _ gA kX)) ⟨p0, p1, f0, f1, pl⟩ hsA (by omega) (by omega) (by omega), ⟨rX, rY⟩⟩
    · obtain ⟨lX, rX, aX, bX⟩ := HA.out
      obtain ⟨lY, rY, aY, bY⟩ := HB.out
      obtain ⟨_, _, mX, kX, _⟩ := cap_of aX (by omega)
      obtain ⟨_, _, mY, _⟩ := cap_of aY (by omega)
      simp at mX
      have hsX := bX.size
      simp at hsX
      all_goals (try go_wp2)
      go_meet
      exact ⟨_, gA, gB, cA, cB, lX, lY, rfl, ins_store (by simp; omega) (by omega) SB.out aX aY (bY.block gA kX) ⟨p0, p1, f0, f1, pl⟩ hs1 (by omega) (by omega) (by omega), ⟨rX, rY⟩⟩
  case rest =>
    obtain ⟨p, gX, gY, cX, cY, lX, lY, rfl, I, Z⟩ := hcut
    clear AA S0 EX EY bx0 bx1 hs1 B ZX ZY
    have i0 := I.out.p0
    have i1 := I.out.p1
    go_wp2_with fail
    refine (turn_some (ample_rowK I.out.aX Z.out.1.1.2.2.1) (ample_rowK I.out.aY Z.out.2.1.2.2.1)).mono ?_
    rintro r w2 ⟨uX, uY, e, rfl, hT, hb⟩
    obtain ⟨a1, a2, n, l1, l2, rfl, rfl, hS⟩ := st3_of I.out hb hT
    clear hT hb i0 i1 I
    go_upto_region 6 with (fail)
    generalize w2.alloc (.cells #[.slice a1 n n, .slice a2 n n] 24) = w3 at hS ⊢
    generalize w2.heap.size = ub at hS ⊢
    have H3 : Hid (St3 w (.slice tXa tXn tXc) (.slice tYa tYn tYc) p gX gY cX cY tXn tYn lX lY ub a1 a2 n l1 l2 w3) := hS
    clear hS
    have i0 := H3.out.ins.p0
    have i1 := H3.out.ins.p1
    go_wp2_with fail
    refine (at_some (ample_rowK H3.out.ins.aX Z.out.1.1.2.2.1) (ample_rowK H3.out.ins.aY Z.out.2.1.2.2.1) x x1 x2).mono ?_
    rintro r w4 ⟨⟨va, vb, rfl⟩, hb⟩
    have H4 : Hid (St3 w (.slice tXa tXn tXc) (.slice tYa tYn tYc) p gX gY cX cY tXn tYn lX lY ub a1 a2 n l1 l2 w4) := H3.out.step hb
    clear hb i0 i1 H3
    have i0 := H4.out.ins.p0
    have i1 := H4.out.ins.p1
    go_wp2_with fail
    refine (back_some (ample_rowK H4.out.ins.aX Z.out.1.1.2.2.1) (ample_rowK H4.out.ins.aY Z.out.2.1.2.2.1) x x1 x2).mono ?_
    rintro r w5 ⟨⟨va, vb, rfl⟩, hb⟩
    have H5 : Hid (St3 w (.slice tXa tXn tXc) (.slice tYa tYn tYc) p gX gY cX cY tXn tYn lX lY ub a1 a2 n l1 l2 w5) := H4.out.step hb
    clear hb i0 i1 H4
    have i0 := H5.out.ins.p0
    have i1 := H5.out.ins.p1
    have b0 := H5.out.ins.st.b0
    have b1 := H5.out.ins.st.b1
    go_wp2_with fail
    refine (stays_any _ gX cX tXn tXa tXc lX 77 _ Z.out.1.2.1 H5.out.ins.aX (RowK.below Z.out.1.1 H5.out.ins.st.bel)).mono ?_
    rintro r w6 ⟨rfl, d6, hw6⟩
    have H6 : Hid (St3 w (.slice tXa tXn tXc) (.slice tYa tYn tYc) p gX gY cX cY tXn tYn lX lY ub a1 a2 n l1 l2 w6) := by rw [hw6]; exact H5.out.step (below_drewN _ _)
    clear hw6 H5 i0 i1 b0 b1
    have i0 := H6.out.ins.p0
    have i1 := H6.out.ins.p1
    have b0 := H6.out.ins.st.b0
    have b1 := H6.out.ins.st.b1
    go_wp2_with fail
    refine (stays_any _ gY cY tYn tYa tYc lY 77 _ Z.out.2.2.1 H6.out.ins.aY (RowK.below Z.out.2.1 H6.out.ins.st.bel)).mono ?_
    rintro r w7 ⟨rfl, d7, hw7⟩
    have H7 : Hid (St3 w (.slice tXa tXn tXc) (.slice tYa tYn tYc) p gX gY cX cY tXn tYn lX lY ub a1 a2 n l1 l2 w7) := by rw [hw7]; exact H6.out.step (below_drewN _ _)
    clear hw7 H6 i0 i1 b0 b1
    have u0 := H7.out.u0
    have u1 := H7.out.u1
    have EX : Hid (∃ l, ∀ W, St3 w (.slice tXa tXn tXc) (.slice tYa tYn tYc) p gX gY cX cY tXn tYn lX lY ub a1 a2 n l1 l2 W → RowC W a1 n n l) := ⟨l1, fun W h => h.rX⟩
    have EY : Hid (∃ l, ∀ W, St3 w (.slice tXa tXn tXc) (.slice tYa tYn tYc) p gX gY cX cY tXn tYn lX lY ub a1 a2 n l1 l2 W → RowC W a2 n n l) := ⟨l2, fun W h => h.rY⟩
    have CL : ∀ (a : Option Addr), Hid (∃ l, ∀ W, St3 w (.slice tXa tXn tXc) (.slice tYa tYn tYc) p gX gY cX cY tXn tYn lX lY ub a1 a2 n l1 l2 W → RowC W a n n l) → ∀ W, Hid (St3 w (.slice tXa tXn tXc) (.slice tYa tYn tYc) p gX gY cX cY tXn tYn lX lY ub a1 a2 n l1 l2 W) → Calls Try.prog 9 #[.slice a n n] W fun e w' => ∃ a' c', e = .returned (.slice a' n c') ∧ Hid (Pair w' a a' n n c' ∧ (∀ b off, a' = some ⟨b, off, none⟩ → W.heap.size ≤ b) ∧ Below W.heap.size W w') ∧ Hid (St3 w (.slice tXa tXn tXc) (.slice tYa tYn tYc) p gX gY cX cY tXn tYn lX lY ub a1 a2 n l1 l2 w') := fun a hr W hW => by
      obtain ⟨l, hl⟩ := hr.out
      refine (clone_row (by have := hW.out.n64; omega) (hl W hW.out)).mono ?_
      rintro e w' ⟨a', c', h1, h2, h3, h4⟩
      exact ⟨a', c', h1, ⟨⟨l, (hl W hW.out).step h4, h2⟩, h3, h4⟩, hW.out.step h4⟩
    go_wp2_with fail
    go_region_held3 (fun w' => w'.cell? ⟨ub, 0, none⟩ = some (.slice a1 n n) ∧ w'.cell? ⟨ub, 1, none⟩ = some (.slice a2 n n)) (first | exact ⟨SB.out.u0, SB.out.u1⟩ | exact ⟨SA.out.u0, SA.out.u1⟩ | exact ⟨H7.out.u0, H7.out.u1⟩ | go_keep)
      (first | (go_at_call 9; refine (CL _ (by exact EY) _ (by exact SA)).mono ?_; rintro e wB ⟨a4, c4, rfl, HB, SB⟩) | (go_at_call 9; refine (CL _ (by exact EX) _ (by exact H7.out.step (below_drewN _ 1))).mono ?_; rintro e wA ⟨a3, c3, rfl, HA, SA⟩))
    have i0 := SB.out.ins.p0
    have i1 := SB.out.ins.p1
    have n64 := SB.out.n64
    obtain ⟨fX, fX2, fX3⟩ := ample_full SB.out.ins.aX
    obtain ⟨fY, fY2, fY3⟩ := ample_full SB.out.ins.aY
    obtain ⟨_, _, lX1, lX2, _⟩ := cap_of H7.out.ins.aX (by omega)
    obtain ⟨_, _, lY1, lY2, _⟩ := cap_of H7.out.ins.aY (by omega)
    have hsA := HA.out.2.2.size
    have hsB := HB.out.2.2.size
    have hsA' : w7.heap.size ≤ wA.heap.size := hsA
    have T0 : St5 w ub a1 a2 a3 a4 n c3 c4 wB := ⟨SB.out.ins.st.bel, SB.out.u0, SB.out.u1, SB.out.ul, HA.out.1.step HB.out.2.2, HB.out.1⟩
    have oX : Off a1 gX ∧ Off a2 gX ∧ Off a1 gY ∧ Off a2 gY := by
      rcases SB.out.fu with ⟨rfl, rfl, _⟩ | ⟨g1, g2, rfl, rfl, _, _, q1, q2, q3, q4, _⟩
      · exact ⟨off_none, off_none, off_none, off_none⟩
      · exact ⟨off_some (Ne.symm q1), off_some (Ne.symm q2), off_some (Ne.symm q3), off_some (Ne.symm q4)⟩
    have o3 : ∀ g, g < w7.heap.size → Off a3 g := fun g hg => off_new HA.out.2.1 hg
    have o4 : ∀ g, g < w7.heap.size → Off a4 g := fun g hg => off_new HB.out.2.1 (by omega)
    have HT0 : Hid (St5 w ub a1 a2 a3 a4 n c3 c4 wB) := T0
    have HO : Hid ((Off a1 gX ∧ Off a2 gX ∧ Off a1 gY ∧ Off a2 gY) ∧ (∀ g, g < w7.heap.size → Off a3 g) ∧ ∀ g, g < w7.heap.size → Off a4 g) := ⟨oX, o3, o4⟩
    have FX : Hid (Full wB gX cX) := fX
    have FY : Hid (Full wB gY cY) := fY
    clear T0 oX o3 o4 fX fY CL EX EY u0 u1 SA
    go_wp2_with fail
    refine (spoil_any gX tXn cX 5 _ fX2 fX3 FX.out).mono ?_
    rintro r wC ⟨rfl, hO⟩
    have T1 : Hid (St5 w ub a1 a2 a3 a4 n c3 c4 wC) := HT0.out.only hO (by omega) (Ne.symm SB.out.m1) HO.out.1.1 HO.out.1.2.1 (HO.out.2.1 gX lX2) (HO.out.2.2 gX lX2)
    have j1 := (World.cell?_of_block (a := ⟨p, 1, none⟩) (hO.block p (Ne.symm SB.out.ins.n2))).trans i1
    have FY1 : Hid (Full wC gY cY) := full_block FY.out (hO.block gY (Ne.symm SB.out.ins.n1))
    have O1 : Hid (Only gX wB wC) := hO
    clear hO i0 i1 HT0 FX FY
    go_wp2_with fail
    refine (spoil_any gY tYn cY 5 _ fY2 fY3 FY1.out).mono ?_
    rintro r wD ⟨rfl, hO⟩
    have T2 : Hid (St5 w ub a1 a2 a3 a4 n c3 c4 wD) := T1.out.only hO (by omega) (Ne.symm SB.out.m2) HO.out.1.2.2.1 HO.out.1.2.2.2 (HO.out.2.1 gY lY2) (HO.out.2.2 gY lY2)
    have O2 : Hid (Only gY wC wD) := hO
    clear hO j1 T1 FY1
    have u0 := T2.out.u0
    have u1 := T2.out.u1
    go_wp2_with fail
    refine (T2.out.pX.equal n64).mono ?_
    rintro r wE ⟨rfl, hb⟩
    have T3 : Hid (St5 w ub a1 a2 a3 a4 n c3 c4 wE) := T2.out.step hb
    have B3 : Hid (Below wD.heap.size wD wE) := hb
    clear hb u0 u1 T2
    have u0 := T3.out.u0
    have u1 := T3.out.u1
    go_wp2_with fail
    refine (T3.out.pY.equal n64).mono ?_
    rintro r wF ⟨rfl, hb⟩
    have T4 : Hid (St5 w ub a1 a2 a3 a4 n c3 c4 wF) := T3.out.step hb
    have B4 : Hid (Below wE.heap.size wE wF) := hb
    clear hb u0 u1 T3
    have u0 := T4.out.u0
    have u1 := T4.out.u1
    rcases SB.out.fu with ⟨e1, e2, e3⟩ | ⟨g1, g2, e1, e2, q0, q1, q2, q3, q4, q5, q6, q7, q8⟩
    · subst e1
      subst e2
      subst e3
      go_wp2_with fail
      refine (spoil_nil 9 _).mono ?_
      rintro r wG ⟨rfl, hG⟩
      subst hG
      go_wp2_with fail
      refine (T4.out.pY.equal n64).mono ?_
      rintro r wH ⟨rfl, hb⟩
      have BF : Hid (Below w.heap.size w wH) := (T4.out.step hb).bel
      clear hb
      go_wp2_with fail
      go_ret
      exact ⟨by simp, BF.out⟩
    · subst e1
      have F1 : Full wF g1 n := by
        have k1 := full_block q8 (O1.out.block g1 (Ne.symm q2))
        have k2 := full_block k1 (O2.out.block g1 (Ne.symm q4))
        have s1 : g1 < wD.heap.size := by rw [O2.out.size, O1.out.size]; exact q7
        have k3 := full_block k2 (B3.out.block g1 s1)
        exact full_block k3 (B4.out.block g1 (Nat.lt_of_lt_of_le s1 B3.out.size))
      have F2 : Hid (Full wF g1 n) := F1
      have Q : Hid (Off a2 g1 ∧ Off a4 g1) := by
        refine ⟨by rw [e2]; exact off_some (Ne.symm q0), ?_⟩
        obtain ⟨_, _, h4⟩ := H7.out.rX
        rcases H7.out.fu with ⟨z1, _⟩ | ⟨h1, h2, z1, _, _, _, _, _, _, _, _, z8, _⟩
        · cases z1
        · cases z1
          exact HO.out.2.2 g1 z8
      clear F1 q8 e2
      go_wp2_with fail
      refine (spoil_any g1 n n 9 _ (Nat.le_refl _) (by omega) F2.out).mono ?_
      rintro r wG ⟨rfl, hO⟩
      have u1' := (World.cell?_of_block (a := ⟨ub, 1, none⟩) (hO.block ub (Ne.symm q1))).trans u1
      have PY : Hid (Pair wG a2 a4 n n c4) := T4.out.pY.only hO Q.out.1 Q.out.2
      have BG : Hid (Below w.heap.size w wG) := T4.out.bel.trans (hO.below q6)
      clear hO u0 u1
      go_wp2_with fail
      refine (PY.out.equal n64).mono ?_
      rintro r wH ⟨rfl, hb⟩
      have BF : Hid (Below w.heap.size w wH) := BG.out.trans (hb.mono BG.out.size)
      clear hb
      go_wp2_with fail
      go_ret
      exact ⟨by simp, BF.out⟩

/-! ### THE ROW's STEP -/
set_option maxRecDepth 100000 in
theorem lifted (os : Os) (started : os.Started) (H : Type) (enc : TypeId × Value → H) :
    ReturnsInHanded {} Try.checked os 3 .any (Rows.tableOwnSpec.pre6 enc Try.prog Try.f3 Rows.tableOwnRow.domain false) (Rows.tableOwnSpec.post enc Try.prog Try.f3 false true false false) := by
  refine returnsInHanded_of_change_sized (C := Try.checked) own started (by kernel_rfl) Try.func3
    (ChangeSpec.witness6 (enc := enc) (C := Try.checked) false ⟨#[], #[.agg #[.slice none 0 0, .slice none 0 0], .int .i32 0, .slice none 0 0], []⟩ 8 (by kernel_rfl) (by kernel_rfl) (by kernel_rfl) (by kernel_rfl)) ?_
  intro W base args ds gs before hval0 hW hcnd hsz0 _
  have hval : ∀ (j : Nat) t v, Try.f3.params[j]? = some t → args[j]? = some v → Value.okWide Try.prog W .any base t v := hval0
  have hW' := hW
  obtain ⟨p, q, hA0, hV, rfl, hfz, hnd⟩ := hW
  have hA : DataW.TrodAll enc Try.prog W 0 (fun _ => true) true Try.f3.params.toList args.toList ds p := hA0
  rw [Try.params3] at hA hval
  obtain ⟨v0, vs0, d0, ds0, p0, q0, hargs, rfl, rfl, h0, r0⟩ := trodAll_cons hA
  obtain ⟨v1, vs1, d1, ds1, p1, q1, rfl, rfl, rfl, h1, r1⟩ := trodAll_cons r0
  obtain ⟨v2, vs2, d2, ds2, p2, q2, rfl, rfl, rfl, h2, r2⟩ := trodAll_cons r1
  obtain ⟨rfl, rfl, rfl⟩ := trodAll_nil r2
  obtain rfl : args = #[v0, v1, v2] := by cases args; simp_all
  obtain ⟨rfl, rfl⟩ := trodVars_none hV
  have hz0 : Light Try.prog 24 d0 := light_of hsz0 (j := 0) (by first | rfl | (rw [Try.params3]; rfl)) rfl
  have k0 := h0
  have lt0 : ∀ x ∈ p0, x.block < W.heap.size := by obtain ⟨m, hm⟩ := k0; exact DataW.trod_lt m _ _ _ hm
  obtain ⟨cs0, rfl, _⟩ := okWide_struct Try.underlying24 (hval 0 24 v0 rfl rfl)
  obtain ⟨tXa, tXn, tXc, tX, tYa, tYn, tYc, tY, e0, h_tX, h_tY⟩ := (by obtain ⟨fuel, hf⟩ := h0; exact open24 hf hz0 : ∃ (tXa : Option Addr) (tXn tXc : Nat) (tX : Nat → Int), ∃ (tYa : Option Addr) (tYn tYc : Nat) (tY : Nat → Int), cs0.toList = [.slice tXa tXn tXc, .slice tYa tYn tYc] ∧ RowZ .i32 4 W tXa tXn tXc tX ∧ RowZ .i32 4 W tYa tYn tYc tY)
  obtain rfl : cs0 = #[.slice tXa tXn tXc, .slice tYa tYn tYc] := by cases cs0; simp_all
  clear e0
  have hz1 : Light Try.prog 21 d1 := light_of hsz0 (j := 1) (by first | rfl | (rw [Try.params3]; rfl)) rfl
  have k1 := h1
  have lt1 : ∀ x ∈ p1, x.block < W.heap.size := by obtain ⟨m, hm⟩ := k1; exact DataW.trod_lt m _ _ _ hm
  obtain ⟨x, rfl, rfl, rfl, h_x⟩ := open_int Try.underlying21 (hval 1 21 v1 rfl rfl) h1
  have hz2 : Light Try.prog 22 d2 := light_of hsz0 (j := 2) (by first | rfl | (rw [Try.params3]; rfl)) rfl
  have k2 := h2
  have lt2 : ∀ x ∈ p2, x.block < W.heap.size := by obtain ⟨m, hm⟩ := k2; exact DataW.trod_lt m _ _ _ hm
  obtain ⟨la, ln, lc, rfl⟩ := okWide_slice Try.underlying22 (hval 2 22 v2 rfl rfl)
  obtain ⟨l, h_l⟩ : ∃ l, RowZ .i32 4 W la ln lc l := by
    obtain ⟨fuel, hf⟩ := h2
    obtain ⟨a, m, c, l, hcs, hr⟩ := rowZ_of Try.underlying22 Try.underlying21 (by kernel_rfl) (by kernel_rfl) hf hz2
    simp [Value.cells] at hcs
    obtain ⟨rfl, rfl, rfl⟩ := hcs
    exact ⟨l, hr⟩
  clear hA0 hval0
  refine (walk tXa tXn tXc tX tYa tYn tYc tY x la ln lc l W h_tX h_tY h_x h_l).mono fun e W' ⟨he, bel⟩ => ?_
  subst he
  exact ⟨_, rfl, _, _, _, [], _, [], hW', trodAll_mk1 (shut_bool Try.underlying4 _), (trodAll_cons_mk (Below.trod laidOut (by kernel_rfl) (of_decide_eq_true (by kernel_rfl)) k0 bel lt0) (trodAll_cons_mk (Below.trod laidOut (by kernel_rfl) (of_decide_eq_true (by kernel_rfl)) k1 bel lt1) (trodAll_cons_mk (Below.trod laidOut (by kernel_rfl) (of_decide_eq_true (by kernel_rfl)) k2 bel lt2) trodAll_mk0))), rfl, bel.frame _, fun h => by cases h⟩

theorem over : Rows.tableOwnRow.holds Try.pinned (OpenSpec.ofChange Rows.tableOwnSpec) :=
  OpenClaim.holds_of_wide 3 Try.f3 rfl rfl rfl rfl rfl rfl rfl ⟨rfl, rfl, rfl, rfl, rfl⟩ rfl rfl rfl rfl rfl (by kernel_rfl) Try.func3 (by kernel_rfl)
    (of_decide_eq_true (by kernel_rfl)) (by unfold Func.isWrapper; first | (rw [if_pos (by decide +kernel)]; kernel_rfl) | (rw [if_neg (by decide +kernel)]; exact ⟨rfl, rfl⟩))
    (fun os started H enc _ => lifted os started H enc)


end Go.Proofs.Ytdfpbdocbdapbab.tableOwn
namespace Go.Proofs.Ytdfpbdocbdapbab
/-- THE STATEMENT -/
theorem tableOwn_holds : Rows.TableOwnSaid := tableOwn.over
#print axioms tableOwn_holds
end Go.Proofs.Ytdfpbdocbdapbab
