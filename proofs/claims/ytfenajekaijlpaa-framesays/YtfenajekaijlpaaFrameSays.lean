/-
  Whatever is handed in, the law FrameSays returns true: all calls of package frame answer what the document says. No condition.
-/
import Derived.Test.YtfenajekaijlpaaFrmSame
import Derived.Test.YtfenajekaijlpaaFrmNew
import Derived.Test.YtfenajekaijlpaaFrmOpen
import Derived.ProofKit
namespace Go.Proofs.Ytfenajekaijlpaa.frameSays
open Go.ChangeShapes Go.WideShapes Go.ChangeAt Go.RowKit
set_option linter.unusedVariables false

theorem own : ownKnob Try.prog.godebug = none := by kernel_rfl
theorem laidOut : laidOutB Try.prog = true := by kernel_rfl

theorem list4 {l : List Value} (h : l.length = 4) : ∃ c0 c1 c2 c3, l = [c0, c1, c2, c3] := by
  match l, h with
  | [c0, c1, c2, c3], _ => exact ⟨c0, c1, c2, c3, rfl⟩

theorem open24 {H : Type} {enc : TypeId × Value → H} {w : World} {base : Nat} {spare : Nat → Bool} {held : Bool} {fuel : Nat} {cs : List Value} {x : DataW H × List MemPlace} (h : DataW.trod enc Try.prog w base spare held fuel 24 cs = some x) (hz : Light Try.prog 24 x.1) :
    ∃ vKind : Int, ∃ vLane : Int, ∃ vSeq : Int, ∃ (vWordsa : Option Addr) (vWordsn vWordsc : Nat) (vWords : Nat → Int), cs = [.int .i64 vKind, .int .i64 vLane, .int .u8 vSeq, .slice vWordsa vWordsn vWordsc] ∧ (Lit.int .i64 vKind).wf = true ∧ (Lit.int .i64 vLane).wf = true ∧ (Lit.int .u8 vSeq).wf = true ∧ RowZ .i32 4 w vWordsa vWordsn vWordsc vWords := by
  obtain ⟨hl, hf⟩ := trod_field_z Try.underlying24 h hz
  rw [show Try.prog.cellsOf 24 = 4 from by kernel_rfl] at hl
  obtain ⟨c0, c1, c2, c3, rfl⟩ := list4 hl
  obtain ⟨n0, y0, h0, z0⟩ := hf 0 _ rfl
  replace h0 : DataW.trod enc Try.prog w base spare held n0 3 (([c0, c1, c2, c3] : List Value).drop 0 |>.take (Try.prog.cellsOf 3)) = some y0 := h0
  rw [show Try.prog.cellsOf 3 = 1 from by kernel_rfl] at h0
  replace h0 : DataW.trod enc Try.prog w base spare held n0 3 [c0] = some y0 := h0
  obtain ⟨n1, y1, h1, z1⟩ := hf 1 _ rfl
  replace h1 : DataW.trod enc Try.prog w base spare held n1 3 (([c0, c1, c2, c3] : List Value).drop 1 |>.take (Try.prog.cellsOf 3)) = some y1 := h1
  rw [show Try.prog.cellsOf 3 = 1 from by kernel_rfl] at h1
  replace h1 : DataW.trod enc Try.prog w base spare held n1 3 [c1] = some y1 := h1
  obtain ⟨n2, y2, h2, z2⟩ := hf 2 _ rfl
  replace h2 : DataW.trod enc Try.prog w base spare held n2 5 (([c0, c1, c2, c3] : List Value).drop 2 |>.take (Try.prog.cellsOf 5)) = some y2 := h2
  rw [show Try.prog.cellsOf 5 = 1 from by kernel_rfl] at h2
  replace h2 : DataW.trod enc Try.prog w base spare held n2 5 [c2] = some y2 := h2
  obtain ⟨n3, y3, h3, z3⟩ := hf 3 _ rfl
  replace h3 : DataW.trod enc Try.prog w base spare held n3 22 (([c0, c1, c2, c3] : List Value).drop 3 |>.take (Try.prog.cellsOf 22)) = some y3 := h3
  rw [show Try.prog.cellsOf 22 = 1 from by kernel_rfl] at h3
  replace h3 : DataW.trod enc Try.prog w base spare held n3 22 [c3] = some y3 := h3
  obtain ⟨x0, e0, _, f0_0⟩ := DataW.trod_int Try.underlying3 h0
  simp only [List.cons.injEq, and_true] at e0
  obtain rfl := e0
  obtain ⟨x1, e1, _, f1_0⟩ := DataW.trod_int Try.underlying3 h1
  simp only [List.cons.injEq, and_true] at e1
  obtain rfl := e1
  obtain ⟨x2, e2, _, f2_0⟩ := DataW.trod_int Try.underlying5 h2
  simp only [List.cons.injEq, and_true] at e2
  obtain rfl := e2
  obtain ⟨x3a, x3n, x3c, x3, e3, f3_0⟩ := rowZ_of Try.underlying22 Try.underlying21 (by kernel_rfl) (by kernel_rfl) h3 z3
  simp only [List.cons.injEq, and_true] at e3
  obtain rfl := e3
  exact ⟨x0, x1, x2, x3a, x3n, x3c, x3, rfl, f0_0, f1_0, f2_0, f3_0⟩


set_option maxHeartbeats 4000000 in
set_option maxRecDepth 100000 in
theorem walk (xKind : Int) (xLane : Int) (xSeq : Int) (xWordsa : Option Addr) (xWordsn xWordsc : Nat) (xWords : Nat → Int) (s : ByteArray) (a : Int) (b : Int) (w : World) (h_xKind : (Lit.int .i64 xKind).wf = true) (h_xLane : (Lit.int .i64 xLane).wf = true) (h_xSeq : (Lit.int .u8 xSeq).wf = true) (h_xWords : RowZ .i32 4 w xWordsa xWordsn xWordsc xWords) (h_s : s.size ≤ 140737488351232) (h_a : (Lit.int .u8 a).wf = true) (h_b : (Lit.int .u8 b).wf = true) :
    Calls Try.prog 3 #[.agg #[.int .i64 xKind, .int .i64 xLane, .int .u8 xSeq, .slice xWordsa xWordsn xWordsc], .string s, .int .u8 a, .int .u8 b] w fun e w' => e = .returned (.bool true) ∧ Below w.heap.size w w' := by
  obtain ⟨s0, s1⟩ := u8_of h_xSeq
  obtain ⟨a0, a1⟩ := u8_of h_a
  obtain ⟨b0, b1⟩ := u8_of h_b
  obtain ⟨hw, hl, hn⟩ := wds_of h_xWords
  have CE : Hid (∀ W, Calls Try.prog 6 #[.agg #[.int .i64 xKind, .int .i64 xLane, .int .u8 xSeq, .slice xWordsa xWordsn xWordsc]] W fun e w' => e = .returned (.int .i64 (pkE ⟨xKind, xLane, xSeq, xWordsn, xWords⟩)) ∧ Below W.heap.size W w') := fun W => rcheck_any _ _ _ _ _ _ W
  have CC : Hid (∀ W, Calls Try.prog 11 #[.agg #[.int .i64 xKind, .int .i64 xLane, .int .u8 xSeq, .slice xWordsa xWordsn xWordsc]] W fun e w' => e = .returned (.int .i64 (pkE ⟨xKind, xLane, xSeq, xWordsn, xWords⟩)) ∧ Below W.heap.size W w') := fun W => check_any _ _ _ _ _ _ W
  have CP : Hid (∀ W, Below w.heap.size w W → Calls Try.prog 7 #[.agg #[.int .i64 xKind, .int .i64 xLane, .int .u8 xSeq, .slice xWordsa xWordsn xWordsc]] W fun e w' => e = .returned (.tuple #[.string (pkT ⟨xKind, xLane, xSeq, xWordsn, xWords⟩), .int .i64 (pkE ⟨xKind, xLane, xSeq, xWordsn, xWords⟩)]) ∧ Below W.heap.size W w') := fun W hb => pack_any ⟨xKind, xLane, xSeq, xWordsn, xWords⟩ _ _ W s0 s1 (hw.later hb)
  have CT : Hid (∀ W, Below w.heap.size w W → pkE ⟨xKind, xLane, xSeq, xWordsn, xWords⟩ = 0 → Calls Try.prog 8 #[.agg #[.int .i64 xKind, .int .i64 xLane, .int .u8 xSeq, .slice xWordsa xWordsn xWordsc]] W fun e w' => e = .returned (.string (pkT ⟨xKind, xLane, xSeq, xWordsn, xWords⟩)) ∧ Below W.heap.size W w') := fun W hb h0 => rtext_any ⟨xKind, xLane, xSeq, xWordsn, xWords⟩ _ _ W h0 s0 s1 hl (hw.later hb)
  have PE : Hid (pkE ⟨xKind, xLane, xSeq, xWordsn, xWords⟩ ≠ 0 → pkT ⟨xKind, xLane, xSeq, xWordsn, xWords⟩ = ⟨#[]⟩) := fun h => by unfold pkT; rw [if_neg h]
  generalize pkE ⟨xKind, xLane, xSeq, xWordsn, xWords⟩ = E at CE CC CP CT PE
  generalize pkT ⟨xKind, xLane, xSeq, xWordsn, xWords⟩ = T at CP CT PE
  have HR : Hid (∀ W, Calls Try.prog 9 #[.string s] W fun e w' => ∃ a c, e = .returned (.tuple #[.agg #[.int .i64 (rdF s).K, .int .i64 (rdF s).L, .int .u8 (rdF s).S, .slice a (rdF s).n c], .int .i64 (rdE s)]) ∧ Wds w' a (rdF s).n (rdF s).l ∧ (∀ x, a = some x → W.heap.size < x.block) ∧ Below W.heap.size W w') := fun W => read_any s W h_s
  have HQ : Hid (∀ W, Calls Try.prog 10 #[.string s] W fun e w' => ∃ a c, e = .returned (.tuple #[.agg #[.int .i64 (rdF s).K, .int .i64 (rdF s).L, .int .u8 (rdF s).S, .slice a (rdF s).n c], .int .i64 (rdE s)]) ∧ Wds w' a (rdF s).n (rdF s).l ∧ Below W.heap.size W w') := fun W => rread_any s W h_s
  have hn2 : (rdF s).n ≤ 8 := by
    by_cases h : rdE s = 0
    · obtain ⟨n, g1, g2, g3, g4, g5⟩ := rdE_zero h
      have := (frE_zero g5).2
      rw [rdF_ok h]
      exact this
    · rw [rdF_bad h]
      show 0 ≤ 8
      omega
  have HS : Hid (∀ (a1 a2 : Option Addr) (c1 c2 : Nat) W, Wds W a1 (rdF s).n (rdF s).l → Wds W a2 (rdF s).n (rdF s).l → Calls Try.prog 12 #[.agg #[.int .i64 (rdF s).K, .int .i64 (rdF s).L, .int .u8 (rdF s).S, .slice a1 (rdF s).n c1], .agg #[.int .i64 (rdF s).K, .int .i64 (rdF s).L, .int .u8 (rdF s).S, .slice a2 (rdF s).n c2]] W fun e w' => e = .returned (.bool true) ∧ Below W.heap.size W w') := fun a1 a2 c1 c2 W h1 h2 => by
    have := same_any (rdF s) (rdF s) a1 a2 c1 c2 W (by omega) h1 h2
    rw [frSame_refl (rdF s) (rdF s) rfl rfl rfl rfl (fun _ _ => rfl)] at this
    exact this
  generalize rdF s = f at *
  obtain ⟨fK, fL, fS, fn, fl⟩ := f
  simp only at HR HQ HS
  generalize rdE s = F at *
  have N1 : Hid (∀ W, Calls Try.prog 13 #[.int .u8 a, .int .u8 b] W fun e w' => e = .returned (.bool (newB a b)) ∧ w' = W) := fun W => newer_any a b W
  have N2 : Hid (∀ W, Calls Try.prog 14 #[.int .u8 a, .int .u8 b] W fun e w' => e = .returned (.bool (newB a b)) ∧ w' = W) := fun W => rnewer_any a b W a0 a1 b0 b1
  generalize newB a b = nb at N1 N2
  clear h_xKind h_xLane h_xSeq h_xWords h_s h_a h_b s0 s1 a0 a1 b0 b1 hw hl hn hn2
  have X0 : Hid (Cells (w.alloc (.cells #[.int .i64 xKind, .int .i64 xLane, .int .u8 xSeq, .slice xWordsa xWordsn xWordsc] 24)) w.heap.size [.int .i64 xKind, .int .i64 xLane, .int .u8 xSeq, .slice xWordsa xWordsn xWordsc]) := cells_new w _ _
  have B0 : Hid (Below w.heap.size w (w.alloc (.cells #[.int .i64 xKind, .int .i64 xLane, .int .u8 xSeq, .slice xWordsa xWordsn xWordsc] 24))) := (Below.refl _ w).alloc (Nat.le_refl _) _
  go_enter Try.func3, Try.ntmps3
  go_wp2_with fail
  refine (CE.out _).mono ?_
  rintro e w1 ⟨rfl, hb⟩
  have X1 : Hid (Cells w1 w.heap.size [.int .i64 xKind, .int .i64 xLane, .int .u8 xSeq, .slice xWordsa xWordsn xWordsc]) := X0.out.step hb
  have B1 : Hid (Below w.heap.size w w1) := B0.out.trans (hb.mono B0.out.size)
  clear hb X0 B0
  obtain ⟨lx, x0, x1, x2, x3⟩ := frame_cells X1.out
  go_wp2_with fail
  refine (CP.out _ B1.out).mono ?_
  rintro e w2 ⟨rfl, hb⟩
  have X2 : Hid (Cells w2 w.heap.size [.int .i64 xKind, .int .i64 xLane, .int .u8 xSeq, .slice xWordsa xWordsn xWordsc]) := X1.out.step hb
  have B2 : Hid (Below w.heap.size w w2) := B1.out.trans (hb.mono B1.out.size)
  clear hb X1 B1 lx x0 x1 x2 x3
  obtain ⟨lx, x0, x1, x2, x3⟩ := frame_cells X2.out
  by_cases hE : E = 0
  · have CT2 : Hid (∀ W, Below w.heap.size w W → Calls Try.prog 8 #[.agg #[.int .i64 xKind, .int .i64 xLane, .int .u8 xSeq, .slice xWordsa xWordsn xWordsc]] W fun e w' => e = .returned (.string T) ∧ Below W.heap.size W w') := fun W hb => CT.out W hb hE
    clear CT PE
    subst hE
    go_wp2_with fail
    refine (CT2.out _ B2.out).mono ?_
    rintro e w3 ⟨rfl, hb⟩
    have X3 : Hid (Cells w3 w.heap.size [.int .i64 xKind, .int .i64 xLane, .int .u8 xSeq, .slice xWordsa xWordsn xWordsc]) := X2.out.step hb
    have B3 : Hid (Below w.heap.size w w3) := B2.out.trans (hb.mono B2.out.size)
    clear hb X2 B2
    go_wp2_with fail
    refine (HR.out _).mono ?_
    rintro e w4 ⟨ya, yc, rfl, hy, _, hb⟩
    have X4 : Hid (Cells w4 w.heap.size [.int .i64 xKind, .int .i64 xLane, .int .u8 xSeq, .slice xWordsa xWordsn xWordsc]) := X3.out.step hb
    have B4 : Hid (Below w.heap.size w w4) := B3.out.trans (hb.mono B3.out.size)
    have Y4 : Hid (Wds w4 ya fn fl) := hy
    clear hb hy X3 B3 lx x0 x1 x2 x3
    have X5 : Hid (Cells (w4.alloc (.cells #[.int .i64 fK, .int .i64 fL, .int .u8 fS, .slice ya fn yc] 24)) w.heap.size [.int .i64 xKind, .int .i64 xLane, .int .u8 xSeq, .slice xWordsa xWordsn xWordsc]) := X4.out.alloc _
    have YB5 : Hid (Cells (w4.alloc (.cells #[.int .i64 fK, .int .i64 fL, .int .u8 fS, .slice ya fn yc] 24)) w4.heap.size [.int .i64 fK, .int .i64 fL, .int .u8 fS, .slice ya fn yc]) := cells_new w4 _ _
    have B5 : Hid (Below w.heap.size w (w4.alloc (.cells #[.int .i64 fK, .int .i64 fL, .int .u8 fS, .slice ya fn yc] 24))) := B4.out.alloc B4.out.size _
    have Y5 : Hid (Wds (w4.alloc (.cells #[.int .i64 fK, .int .i64 fL, .int .u8 fS, .slice ya fn yc] 24)) ya fn fl) := Y4.out.later ((Below.refl _ w4).alloc (Nat.le_refl _) _)
    clear X4 B4 Y4
    go_wp2_with fail
    generalize w4.alloc (.cells #[.int .i64 fK, .int .i64 fL, .int .u8 fS, .slice ya fn yc] 24) = w5 at X5 YB5 B5 Y5 ⊢
    generalize w4.heap.size = by1 at YB5 ⊢
    refine (HQ.out _).mono ?_
    rintro e w6 ⟨za, zc, rfl, hz, hb⟩
    have X6 : Hid (Cells w6 w.heap.size [.int .i64 xKind, .int .i64 xLane, .int .u8 xSeq, .slice xWordsa xWordsn xWordsc]) := X5.out.step hb
    have YB6 : Hid (Cells w6 by1 [.int .i64 fK, .int .i64 fL, .int .u8 fS, .slice ya fn yc]) := YB5.out.step hb
    have Y6 : Hid (Wds w6 ya fn fl) := Y5.out.later hb
    have Z6 : Hid (Wds w6 za fn fl) := hz
    have B6 : Hid (Below w.heap.size w w6) := B5.out.trans (hb.mono B5.out.size)
    clear hb hz X5 YB5 Y5 B5
    have bw := (Below.refl _ w6).alloc (Nat.le_refl _) (.cells #[.int .i64 fK, .int .i64 fL, .int .u8 fS, .slice za fn zc] 24)
    have X7 : Hid (Cells (w6.alloc (.cells #[.int .i64 fK, .int .i64 fL, .int .u8 fS, .slice za fn zc] 24)) w.heap.size [.int .i64 xKind, .int .i64 xLane, .int .u8 xSeq, .slice xWordsa xWordsn xWordsc]) := X6.out.step bw
    have YB7 : Hid (Cells (w6.alloc (.cells #[.int .i64 fK, .int .i64 fL, .int .u8 fS, .slice za fn zc] 24)) by1 [.int .i64 fK, .int .i64 fL, .int .u8 fS, .slice ya fn yc]) := YB6.out.step bw
    have ZB7 : Hid (Cells (w6.alloc (.cells #[.int .i64 fK, .int .i64 fL, .int .u8 fS, .slice za fn zc] 24)) w6.heap.size [.int .i64 fK, .int .i64 fL, .int .u8 fS, .slice za fn zc]) := cells_new w6 _ _
    have Y7 : Hid (Wds (w6.alloc (.cells #[.int .i64 fK, .int .i64 fL, .int .u8 fS, .slice za fn zc] 24)) ya fn fl) := Y6.out.later bw
    have Z7 : Hid (Wds (w6.alloc (.cells #[.int .i64 fK, .int .i64 fL, .int .u8 fS, .slice za fn zc] 24)) za fn fl) := Z6.out.later bw
    have B7 : Hid (Below w.heap.size w (w6.alloc (.cells #[.int .i64 fK, .int .i64 fL, .int .u8 fS, .slice za fn zc] 24))) := B6.out.alloc B6.out.size _
    clear bw X6 YB6 Y6 Z6 B6
    obtain ⟨lx, x0, x1, x2, x3⟩ := frame_cells X7.out
    go_wp2_with fail
    clear lx x0 x1 x2 x3
    generalize w6.alloc (.cells #[.int .i64 fK, .int .i64 fL, .int .u8 fS, .slice za fn zc] 24) = w7 at X7 YB7 ZB7 Y7 Z7 B7 ⊢
    generalize w6.heap.size = bz1 at ZB7 ⊢
    refine (CC.out _).mono ?_
    rintro e w8 ⟨rfl, hb⟩
    have YB8 : Hid (Cells w8 by1 [.int .i64 fK, .int .i64 fL, .int .u8 fS, .slice ya fn yc]) := YB7.out.step hb
    have ZB8 : Hid (Cells w8 bz1 [.int .i64 fK, .int .i64 fL, .int .u8 fS, .slice za fn zc]) := ZB7.out.step hb
    have Y8 : Hid (Wds w8 ya fn fl) := Y7.out.later hb
    have Z8 : Hid (Wds w8 za fn fl) := Z7.out.later hb
    have B8 : Hid (Below w.heap.size w w8) := B7.out.trans (hb.mono B7.out.size)
    clear hb X7 YB7 ZB7 Y7 Z7 B7
    obtain ⟨ly, y0, y1, y2, y3⟩ := frame_cells YB8.out
    obtain ⟨lz, z0, z1, z2, z3⟩ := frame_cells ZB8.out
    go_wp2_with fail
    refine (HS.out ya za yc zc _ Y8.out Z8.out).mono ?_
    rintro e w9 ⟨rfl, hb⟩
    have B9 : Hid (Below w.heap.size w w9) := B8.out.trans (hb.mono B8.out.size)
    clear hb ly y0 y1 y2 y3 lz z0 z1 z2 z3 YB8 ZB8 Y8 Z8 B8
    go_wp2_with fail
    refine (N1.out _).mono ?_
    rintro e w10 ⟨rfl, rfl⟩
    go_wp2_with fail
    refine (N2.out _).mono ?_
    rintro e w11 ⟨rfl, rfl⟩
    go_wp2_with fail
    go_ret
    exact ⟨rfl, B9.out⟩
  · have hT := PE.out hE
    have hE' : (E == 0) = false := by simpa using hE
    clear CT PE hE
    subst hT
    go_wp2_with fail
    refine (HR.out _).mono ?_
    rintro e w4 ⟨ya, yc, rfl, hy, _, hb⟩
    have X4 : Hid (Cells w4 w.heap.size [.int .i64 xKind, .int .i64 xLane, .int .u8 xSeq, .slice xWordsa xWordsn xWordsc]) := X2.out.step hb
    have B4 : Hid (Below w.heap.size w w4) := B2.out.trans (hb.mono B2.out.size)
    have Y4 : Hid (Wds w4 ya fn fl) := hy
    clear hb hy X2 B2 lx x0 x1 x2 x3
    have X5 : Hid (Cells (w4.alloc (.cells #[.int .i64 fK, .int .i64 fL, .int .u8 fS, .slice ya fn yc] 24)) w.heap.size [.int .i64 xKind, .int .i64 xLane, .int .u8 xSeq, .slice xWordsa xWordsn xWordsc]) := X4.out.alloc _
    have YB5 : Hid (Cells (w4.alloc (.cells #[.int .i64 fK, .int .i64 fL, .int .u8 fS, .slice ya fn yc] 24)) w4.heap.size [.int .i64 fK, .int .i64 fL, .int .u8 fS, .slice ya fn yc]) := cells_new w4 _ _
    have B5 : Hid (Below w.heap.size w (w4.alloc (.cells #[.int .i64 fK, .int .i64 fL, .int .u8 fS, .slice ya fn yc] 24))) := B4.out.alloc B4.out.size _
    have Y5 : Hid (Wds (w4.alloc (.cells #[.int .i64 fK, .int .i64 fL, .int .u8 fS, .slice ya fn yc] 24)) ya fn fl) := Y4.out.later ((Below.refl _ w4).alloc (Nat.le_refl _) _)
    clear X4 B4 Y4
    go_wp2_with fail
    generalize w4.alloc (.cells #[.int .i64 fK, .int .i64 fL, .int .u8 fS, .slice ya fn yc] 24) = w5 at X5 YB5 B5 Y5 ⊢
    generalize w4.heap.size = by1 at YB5 ⊢
    refine (HQ.out _).mono ?_
    rintro e w6 ⟨za, zc, rfl, hz, hb⟩
    have X6 : Hid (Cells w6 w.heap.size [.int .i64 xKind, .int .i64 xLane, .int .u8 xSeq, .slice xWordsa xWordsn xWordsc]) := X5.out.step hb
    have YB6 : Hid (Cells w6 by1 [.int .i64 fK, .int .i64 fL, .int .u8 fS, .slice ya fn yc]) := YB5.out.step hb
    have Y6 : Hid (Wds w6 ya fn fl) := Y5.out.later hb
    have Z6 : Hid (Wds w6 za fn fl) := hz
    have B6 : Hid (Below w.heap.size w w6) := B5.out.trans (hb.mono B5.out.size)
    clear hb hz X5 YB5 Y5 B5
    have bw := (Below.refl _ w6).alloc (Nat.le_refl _) (.cells #[.int .i64 fK, .int .i64 fL, .int .u8 fS, .slice za fn zc] 24)
    have X7 : Hid (Cells (w6.alloc (.cells #[.int .i64 fK, .int .i64 fL, .int .u8 fS, .slice za fn zc] 24)) w.heap.size [.int .i64 xKind, .int .i64 xLane, .int .u8 xSeq, .slice xWordsa xWordsn xWordsc]) := X6.out.step bw
    have YB7 : Hid (Cells (w6.alloc (.cells #[.int .i64 fK, .int .i64 fL, .int .u8 fS, .slice za fn zc] 24)) by1 [.int .i64 fK, .int .i64 fL, .int .u8 fS, .slice ya fn yc]) := YB6.out.step bw
    have ZB7 : Hid (Cells (w6.alloc (.cells #[.int .i64 fK, .int .i64 fL, .int .u8 fS, .slice za fn zc] 24)) w6.heap.size [.int .i64 fK, .int .i64 fL, .int .u8 fS, .slice za fn zc]) := cells_new w6 _ _
    have Y7 : Hid (Wds (w6.alloc (.cells #[.int .i64 fK, .int .i64 fL, .int .u8 fS, .slice za fn zc] 24)) ya fn fl) := Y6.out.later bw
    have Z7 : Hid (Wds (w6.alloc (.cells #[.int .i64 fK, .int .i64 fL, .int .u8 fS, .slice za fn zc] 24)) za fn fl) := Z6.out.later bw
    have B7 : Hid (Below w.heap.size w (w6.alloc (.cells #[.int .i64 fK, .int .i64 fL, .int .u8 fS, .slice za fn zc] 24))) := B6.out.alloc B6.out.size _
    clear bw X6 YB6 Y6 Z6 B6
    obtain ⟨lx, x0, x1, x2, x3⟩ := frame_cells X7.out
    go_wp2_with fail
    clear lx x0 x1 x2 x3
    generalize w6.alloc (.cells #[.int .i64 fK, .int .i64 fL, .int .u8 fS, .slice za fn zc] 24) = w7 at X7 YB7 ZB7 Y7 Z7 B7 ⊢
    generalize w6.heap.size = bz1 at ZB7 ⊢
    refine (CC.out _).mono ?_
    rintro e w8 ⟨rfl, hb⟩
    have YB8 : Hid (Cells w8 by1 [.int .i64 fK, .int .i64 fL, .int .u8 fS, .slice ya fn yc]) := YB7.out.step hb
    have ZB8 : Hid (Cells w8 bz1 [.int .i64 fK, .int .i64 fL, .int .u8 fS, .slice za fn zc]) := ZB7.out.step hb
    have Y8 : Hid (Wds w8 ya fn fl) := Y7.out.later hb
    have Z8 : Hid (Wds w8 za fn fl) := Z7.out.later hb
    have B8 : Hid (Below w.heap.size w w8) := B7.out.trans (hb.mono B7.out.size)
    clear hb X7 YB7 ZB7 Y7 Z7 B7
    obtain ⟨ly, y0, y1, y2, y3⟩ := frame_cells YB8.out
    obtain ⟨lz, z0, z1, z2, z3⟩ := frame_cells ZB8.out
    go_wp2_with fail
    refine (HS.out ya za yc zc _ Y8.out Z8.out).mono ?_
    rintro e w9 ⟨rfl, hb⟩
    have B9 : Hid (Below w.heap.size w w9) := B8.out.trans (hb.mono B8.out.size)
    clear hb ly y0 y1 y2 y3 lz z0 z1 z2 z3 YB8 ZB8 Y8 Z8 B8
    go_wp2_with fail
    refine (N1.out _).mono ?_
    rintro e w10 ⟨rfl, rfl⟩
    go_wp2_with fail
    refine (N2.out _).mono ?_
    rintro e w11 ⟨rfl, rfl⟩
    go_wp2_with fail
    go_ret
    exact ⟨rfl, B9.out⟩

/-! ### THE ROW's STEP -/
set_option maxRecDepth 100000 in
theorem lifted (os : Os) (started : os.Started) (H : Type) (enc : TypeId × Value → H) :
    ReturnsInHanded {} Try.checked os 3 .any (Rows.frameSaysSpec.pre6 enc Try.prog Try.f3 Rows.frameSaysRow.domain false) (Rows.frameSaysSpec.post enc Try.prog Try.f3 false true false false) := by
  refine returnsInHanded_of_change_sized (C := Try.checked) own started (by kernel_rfl) Try.func3
    (ChangeSpec.witness6 (enc := enc) (C := Try.checked) false ⟨#[], #[.agg #[.int .i64 0, .int .i64 0, .int .u8 0, .slice none 0 0], .string ByteArray.empty, .int .u8 0, .int .u8 0], []⟩ 8 (by kernel_rfl) (by kernel_rfl) (by kernel_rfl) (by kernel_rfl)) ?_
  intro W base args ds gs before hval0 hW hcnd hsz0 _
  have hval : ∀ (j : Nat) t v, Try.f3.params[j]? = some t → args[j]? = some v → Value.okWide Try.prog W .any base t v := hval0
  have hW' := hW
  obtain ⟨p, q, hA0, hV, rfl, hfz, hnd⟩ := hW
  have hA : DataW.TrodAll enc Try.prog W 0 (fun _ => true) true Try.f3.params.toList args.toList ds p := hA0
  rw [Try.params3] at hA hval
  obtain ⟨v0, vs0, d0, ds0, p0, q0, hargs, rfl, rfl, h0, r0⟩ := trodAll_cons hA
  obtain ⟨v1, vs1, d1, ds1, p1, q1, rfl, rfl, rfl, h1, r1⟩ := trodAll_cons r0
  obtain ⟨v2, vs2, d2, ds2, p2, q2, rfl, rfl, rfl, h2, r2⟩ := trodAll_cons r1
  obtain ⟨v3, vs3, d3, ds3, p3, q3, rfl, rfl, rfl, h3, r3⟩ := trodAll_cons r2
  obtain ⟨rfl, rfl, rfl⟩ := trodAll_nil r3
  obtain rfl : args = #[v0, v1, v2, v3] := by cases args; simp_all
  obtain ⟨rfl, rfl⟩ := trodVars_none hV
  have hz0 : Light Try.prog 24 d0 := light_of hsz0 (j := 0) (by first | rfl | (rw [Try.params3]; rfl)) rfl
  have k0 := h0
  have lt0 : ∀ x ∈ p0, x.block < W.heap.size := by obtain ⟨m, hm⟩ := k0; exact DataW.trod_lt m _ _ _ hm
  obtain ⟨cs0, rfl, _⟩ := okWide_struct Try.underlying24 (hval 0 24 v0 rfl rfl)
  obtain ⟨xKind, xLane, xSeq, xWordsa, xWordsn, xWordsc, xWords, e0, h_xKind, h_xLane, h_xSeq, h_xWords⟩ := (by obtain ⟨fuel, hf⟩ := h0; exact open24 hf hz0 : ∃ xKind : Int, ∃ xLane : Int, ∃ xSeq : Int, ∃ (xWordsa : Option Addr) (xWordsn xWordsc : Nat) (xWords : Nat → Int), cs0.toList = [.int .i64 xKind, .int .i64 xLane, .int .u8 xSeq, .slice xWordsa xWordsn xWordsc] ∧ (Lit.int .i64 xKind).wf = true ∧ (Lit.int .i64 xLane).wf = true ∧ (Lit.int .u8 xSeq).wf = true ∧ RowZ .i32 4 W xWordsa xWordsn xWordsc xWords)
  obtain rfl : cs0 = #[.int .i64 xKind, .int .i64 xLane, .int .u8 xSeq, .slice xWordsa xWordsn xWordsc] := by cases cs0; simp_all
  clear e0
  have hz1 : Light Try.prog 9 d1 := light_of hsz0 (j := 1) (by first | rfl | (rw [Try.params3]; rfl)) rfl
  have k1 := h1
  have lt1 : ∀ x ∈ p1, x.block < W.heap.size := by obtain ⟨m, hm⟩ := k1; exact DataW.trod_lt m _ _ _ hm
  obtain ⟨s, rfl, rfl, rfl, h_s⟩ := Go.ChangeMaps.open_string Try.underlying9 (hval 1 9 v1 rfl rfl) h1
  replace h_s : s.size ≤ 140737488351232 := light_string hz1
  have hz2 : Light Try.prog 5 d2 := light_of hsz0 (j := 2) (by first | rfl | (rw [Try.params3]; rfl)) rfl
  have k2 := h2
  have lt2 : ∀ x ∈ p2, x.block < W.heap.size := by obtain ⟨m, hm⟩ := k2; exact DataW.trod_lt m _ _ _ hm
  obtain ⟨a, rfl, rfl, rfl, h_a⟩ := open_int Try.underlying5 (hval 2 5 v2 rfl rfl) h2
  have hz3 : Light Try.prog 5 d3 := light_of hsz0 (j := 3) (by first | rfl | (rw [Try.params3]; rfl)) rfl
  have k3 := h3
  have lt3 : ∀ x ∈ p3, x.block < W.heap.size := by obtain ⟨m, hm⟩ := k3; exact DataW.trod_lt m _ _ _ hm
  obtain ⟨b, rfl, rfl, rfl, h_b⟩ := open_int Try.underlying5 (hval 3 5 v3 rfl rfl) h3
  clear hA0 hval0
  refine (walk xKind xLane xSeq xWordsa xWordsn xWordsc xWords s a b W h_xKind h_xLane h_xSeq h_xWords h_s h_a h_b).mono fun e W' ⟨he, bel⟩ => ?_
  subst he
  exact ⟨_, rfl, _, _, _, [], _, [], hW', trodAll_mk1 (shut_bool Try.underlying4 _), (trodAll_cons_mk (Below.trod laidOut (by kernel_rfl) (of_decide_eq_true (by kernel_rfl)) k0 bel lt0) (trodAll_cons_mk (Below.trod laidOut (by kernel_rfl) (of_decide_eq_true (by kernel_rfl)) k1 bel lt1) (trodAll_cons_mk (Below.trod laidOut (by kernel_rfl) (of_decide_eq_true (by kernel_rfl)) k2 bel lt2) (trodAll_cons_mk (Below.trod laidOut (by kernel_rfl) (of_decide_eq_true (by kernel_rfl)) k3 bel lt3) trodAll_mk0)))), rfl, bel.frame _, fun h => by cases h⟩

theorem over : Rows.frameSaysRow.holds Try.pinned (OpenSpec.ofChange Rows.frameSaysSpec) :=
  OpenClaim.holds_of_wide 3 Try.f3 rfl rfl rfl rfl rfl rfl rfl ⟨rfl, rfl, rfl, rfl, rfl⟩ rfl rfl rfl rfl rfl (by kernel_rfl) Try.func3 (by kernel_rfl)
    (of_decide_eq_true (by kernel_rfl)) (by unfold Func.isWrapper; first | (rw [if_pos (by decide +kernel)]; kernel_rfl) | (rw [if_neg (by decide +kernel)]; exact ⟨rfl, rfl⟩))
    (fun os started H enc _ => lifted os started H enc)


end Go.Proofs.Ytfenajekaijlpaa.frameSays
namespace Go.Proofs.Ytfenajekaijlpaa
/-- THE STATEMENT -/
theorem frameSays_holds : Rows.FrameSaysSaid := frameSays.over
#print axioms frameSays_holds
end Go.Proofs.Ytfenajekaijlpaa
