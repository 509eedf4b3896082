/-
  Whatever is handed in, the law FrameBack returns true: a frame is read as it was packed, and what is read is packed as just those bytes. No condition.
-/
import Derived.Test.YtfenajekaijlpaaFrmSame
import Derived.Test.YtfenajekaijlpaaFrmBack
import Derived.Test.YtfenajekaijlpaaFrmNew
import Derived.Test.YtfenajekaijlpaaFrmOpen
import Derived.ProofKit
namespace Go.Proofs.Ytfenajekaijlpaa.frameBack
open Go.ChangeShapes Go.WideShapes Go.ChangeAt Go.RowKit
set_option linter.unusedVariables false

theorem own : ownKnob Try.prog.godebug = none := by kernel_rfl
theorem laidOut : laidOutB Try.prog = true := by kernel_rfl

theorem list4 {l : List Value} (h : l.length = 4) : ∃ c0 c1 c2 c3, l = [c0, c1, c2, c3] := by
  match l, h with
  | [c0, c1, c2, c3], _ => exact ⟨c0, c1, c2, c3, rfl⟩

theorem open24 {H : Type} {enc : TypeId × Value → H} {w : World} {base : Nat} {spare : Nat → Bool} {held : Bool} {fuel : Nat} {cs : List Value} {x : DataW H × List MemPlace} (h : DataW.trod enc Try.prog w base spare held fuel 24 cs = some x) (hz : Light Try.prog 24 x.1) :
    ∃ vKind : Int, ∃ vLane : Int, ∃ vSeq : Int, ∃ (vWordsa : Option Addr) (vWordsn vWordsc : Nat) (vWords : Nat → Int), cs = [.int .i64 vKind, .int .i64 vLane, .int .u8 vSeq, .slice vWordsa vWordsn vWordsc] ∧ (Lit.int .i64 vKind).wf = true ∧ (Lit.int .i64 vLane).wf = true ∧ (Lit.int .u8 vSeq).wf = true ∧ RowZ .i32 4 w vWordsa vWordsn vWordsc vWords := by
  obtain ⟨hl, hf⟩ := trod_field_z Try.underlying24 h hz
  rw [show Try.prog.cellsOf 24 = 4 from by kernel_rfl] at hl
  obtain ⟨c0, c1, c2, c3, rfl⟩ := list4 hl
  obtain ⟨n0, y0, h0, z0⟩ := hf 0 _ rfl
  replace h0 : DataW.trod enc Try.prog w base spare held n0 3 (([c0, c1, c2, c3] : List Value).drop 0 |>.take (Try.prog.cellsOf 3)) = some y0 := h0
  rw [show Try.prog.cellsOf 3 = 1 from by kernel_rfl] at h0
  replace h0 : DataW.trod enc Try.prog w base spare held n0 3 [c0] = some y0 := h0
  obtain ⟨n1, y1, h1, z1⟩ := hf 1 _ rfl
  replace h1 : DataW.trod enc Try.prog w base spare held n1 3 (([c0, c1, c2, c3] : List Value).drop 1 |>.take (Try.prog.cellsOf 3)) = some y1 := h1
  rw [show Try.prog.cellsOf 3 = 1 from by kernel_rfl] at h1
  replace h1 : DataW.trod enc Try.prog w base spare held n1 3 [c1] = some y1 := h1
  obtain ⟨n2, y2, h2, z2⟩ := hf 2 _ rfl
  replace h2 : DataW.trod enc Try.prog w base spare held n2 5 (([c0, c1, c2, c3] : List Value).drop 2 |>.take (Try.prog.cellsOf 5)) = some y2 := h2
  rw [show Try.prog.cellsOf 5 = 1 from by kernel_rfl] at h2
  replace h2 : DataW.trod enc Try.prog w base spare held n2 5 [c2] = some y2 := h2
  obtain ⟨n3, y3, h3, z3⟩ := hf 3 _ rfl
  replace h3 : DataW.trod enc Try.prog w base spare held n3 22 (([c0, c1, c2, c3] : List Value).drop 3 |>.take (Try.prog.cellsOf 22)) = some y3 := h3
  rw [show Try.prog.cellsOf 22 = 1 from by kernel_rfl] at h3
  replace h3 : DataW.trod enc Try.prog w base spare held n3 22 [c3] = some y3 := h3
  obtain ⟨x0, e0, _, f0_0⟩ := DataW.trod_int Try.underlying3 h0
  simp only [List.cons.injEq, and_true] at e0
  obtain rfl := e0
  obtain ⟨x1, e1, _, f1_0⟩ := DataW.trod_int Try.underlying3 h1
  simp only [List.cons.injEq, and_true] at e1
  obtain rfl := e1
  obtain ⟨x2, e2, _, f2_0⟩ := DataW.trod_int Try.underlying5 h2
  simp only [List.cons.injEq, and_true] at e2
  obtain rfl := e2
  obtain ⟨x3a, x3n, x3c, x3, e3, f3_0⟩ := rowZ_of Try.underlying22 Try.underlying21 (by kernel_rfl) (by kernel_rfl) h3 z3
  simp only [List.cons.injEq, and_true] at e3
  obtain rfl := e3
  exact ⟨x0, x1, x2, x3a, x3n, x3c, x3, rfl, f0_0, f1_0, f2_0, f3_0⟩


set_option maxHeartbeats 4000000 in
set_option maxRecDepth 100000 in
theorem walk (xKind : Int) (xLane : Int) (xSeq : Int) (xWordsa : Option Addr) (xWordsn xWordsc : Nat) (xWords : Nat → Int) (s : ByteArray) (w : World) (h_xKind : (Lit.int .i64 xKind).wf = true) (h_xLane : (Lit.int .i64 xLane).wf = true) (h_xSeq : (Lit.int .u8 xSeq).wf = true) (h_xWords : RowZ .i32 4 w xWordsa xWordsn xWordsc xWords) (h_s : s.size ≤ 140737488351232) :
    Calls Try.prog 4 #[.agg #[.int .i64 xKind, .int .i64 xLane, .int .u8 xSeq, .slice xWordsa xWordsn xWordsc], .string s] w fun e w' => e = .returned (.bool true) ∧ Below w.heap.size w w' := by
  obtain ⟨s0, s1⟩ := u8_of h_xSeq
  obtain ⟨hw, hl, hn⟩ := wds_of h_xWords
  have X0 : Hid (Cells (w.alloc (.cells #[.int .i64 xKind, .int .i64 xLane, .int .u8 xSeq, .slice xWordsa xWordsn xWordsc] 24)) w.heap.size [.int .i64 xKind, .int .i64 xLane, .int .u8 xSeq, .slice xWordsa xWordsn xWordsc]) := cells_new w _ _
  have B0 : Hid (Below w.heap.size w (w.alloc (.cells #[.int .i64 xKind, .int .i64 xLane, .int .u8 xSeq, .slice xWordsa xWordsn xWordsc] 24))) := (Below.refl _ w).alloc (Nat.le_refl _) _
  have C1 : Hid (∀ (W : World) (b : Nat), b = W.heap.size → Calls Try.prog 7 #[.agg #[.int .i64 2, .int .i64 3, .int .u8 9, .slice (some ⟨b, 0, none⟩) 1 1]] (W.alloc (.cells #[.int .i32 (-1)] 21)) fun e w' => e = .returned (.tuple #[.string (pkT frOne), .int .i64 0]) ∧ Below W.heap.size W w') := fun W b hbW => by
    subst hbW
    have hb := (Below.refl _ W).alloc (Nat.le_refl _) (.cells #[.int .i32 (-1)] 21)
    have h1 : Wds (W.alloc (.cells #[.int .i32 (-1)] 21)) (some ⟨W.heap.size, 0, none⟩) 1 (fun _ => -1) := fun _ => ⟨W.heap.size, 0, rfl, by simp, fun j hj => by
      obtain rfl : j = 0 := by omega
      exact (cells_new W #[.int .i32 (-1)] 21).cell 0 _ rfl⟩
    have h2 := pack_ok 2 3 9 (some ⟨W.heap.size, 0, none⟩) 1 1 (fun _ => -1) (W.alloc (.cells #[.int .i32 (-1)] 21)) (by decide) (by decide) (by decide) h1
    rw [← one_T] at h2
    refine h2.mono ?_
    rintro e w' ⟨rfl, h⟩
    exact ⟨rfl, hb.trans (h.mono (by simp))⟩
  have z1 := one_size
  have z2 : ∀ W : World, (Instr.slice 9 (.string (pkT frOne)) none (some (.int .i64 3)) none).run Try.prog W = .ok (.string ⟨#[35, 9, 1]⟩) W := fun W => by rw [← one_head]; exact head_run _ (by rw [one_size]; omega) W
  generalize pkT frOne = T0 at C1 z1 z2
  have CP : Hid (∀ W, Below w.heap.size w W → Calls Try.prog 7 #[.agg #[.int .i64 xKind, .int .i64 xLane, .int .u8 xSeq, .slice xWordsa xWordsn xWordsc]] W fun e w' => e = .returned (.tuple #[.string (pkT ⟨xKind, xLane, xSeq, xWordsn, xWords⟩), .int .i64 (pkE ⟨xKind, xLane, xSeq, xWordsn, xWords⟩)]) ∧ Below W.heap.size W w') := fun W hb => pack_any ⟨xKind, xLane, xSeq, xWordsn, xWords⟩ _ _ W s0 s1 (hw.later hb)
  have CR : Hid (pkE ⟨xKind, xLane, xSeq, xWordsn, xWords⟩ = 0 → ∀ W, Calls Try.prog 9 #[.string (pkT ⟨xKind, xLane, xSeq, xWordsn, xWords⟩)] W fun e w' => ∃ a c, e = .returned (.tuple #[.agg #[.int .i64 xKind, .int .i64 xLane, .int .u8 xSeq, .slice a xWordsn c], .int .i64 0]) ∧ Wds w' a xWordsn xWords ∧ Below W.heap.size W w') := fun hE W => by
    obtain ⟨r0, r1, r2, r3, r4, r5⟩ := read_packed ⟨xKind, xLane, xSeq, xWordsn, xWords⟩ hE s0 s1 hl
    have hz : (pkT ⟨xKind, xLane, xSeq, xWordsn, xWords⟩).size ≤ 140737488351232 := by
      have h8 := (frE_zero hE).2
      unfold pkT
      rw [if_pos hE, put_size, frT_size]
      simp only at h8 ⊢
      omega
    have h := read_any (pkT ⟨xKind, xLane, xSeq, xWordsn, xWords⟩) W hz
    rw [r0, r1, r2, r3, r4] at h
    refine h.mono ?_
    rintro e w' ⟨a, c, rfl, hy, _, hb⟩
    exact ⟨a, c, rfl, hy.congr r5, hb⟩
  have HS : Hid (∀ (a : Option Addr) (c : Nat) W, Below w.heap.size w W → Wds W a xWordsn xWords → Calls Try.prog 12 #[.agg #[.int .i64 xKind, .int .i64 xLane, .int .u8 xSeq, .slice xWordsa xWordsn xWordsc], .agg #[.int .i64 xKind, .int .i64 xLane, .int .u8 xSeq, .slice a xWordsn c]] W fun e w' => e = .returned (.bool true) ∧ Below W.heap.size W w') := fun a c W hb h2 => by
    have h := same_any ⟨xKind, xLane, xSeq, xWordsn, xWords⟩ ⟨xKind, xLane, xSeq, xWordsn, xWords⟩ xWordsa a xWordsc c W (by simp only; omega) (hw.later hb) h2
    rw [frSame_refl _ _ rfl rfl rfl rfl (fun _ _ => rfl)] at h
    exact h
  generalize pkE ⟨xKind, xLane, xSeq, xWordsn, xWords⟩ = E at CP CR
  generalize pkT ⟨xKind, xLane, xSeq, xWordsn, xWords⟩ = T at CP CR
  have HR : Hid (∀ W, Calls Try.prog 9 #[.string s] W fun e w' => ∃ a c, e = .returned (.tuple #[.agg #[.int .i64 (rdF s).K, .int .i64 (rdF s).L, .int .u8 (rdF s).S, .slice a (rdF s).n c], .int .i64 (rdE s)]) ∧ Wds w' a (rdF s).n (rdF s).l ∧ Below W.heap.size W w') := fun W => (read_any s W h_s).mono (by rintro e w' ⟨a, c, h1, h2, _, h3⟩; exact ⟨a, c, h1, h2, h3⟩)
  have HP : Hid (∀ (a : Option Addr) (c : Nat) W, Wds W a (rdF s).n (rdF s).l → Calls Try.prog 7 #[.agg #[.int .i64 (rdF s).K, .int .i64 (rdF s).L, .int .u8 (rdF s).S, .slice a (rdF s).n c]] W fun e w' => e = .returned (.tuple #[.string (pkT (rdF s)), .int .i64 (pkE (rdF s))]) ∧ Below W.heap.size W w') := fun a c W h => pack_any (rdF s) a c W (rdF_S s).1 (rdF_S s).2.1 h
  have F0 : Hid (rdE s = 0 → pkE (rdF s) = 0 ∧ pkT (rdF s) = s) := pack_read s
  have F1 : Hid (rdE s ≠ 0 → (rdF s).n = 0) := fun h => by rw [rdF_bad h]; rfl
  generalize pkT (rdF s) = U at HP F0
  generalize pkE (rdF s) = G at HP F0
  generalize rdF s = f at HR HP F0 F1
  obtain ⟨fK, fL, fS, fn, fl⟩ := f
  simp only at HR HP F0 F1
  generalize rdE s = F at HR F0 F1
  clear h_xKind h_xLane h_xSeq h_xWords h_s s0 s1 hw hl hn
  go_enter Try.func4, Try.ntmps4
  go_wp2_with fail
  refine (C1.out _ _ (by simp)).mono ?_
  rintro e w1 ⟨rfl, hb⟩
  have X1 : Hid (Cells w1 w.heap.size [.int .i64 xKind, .int .i64 xLane, .int .u8 xSeq, .slice xWordsa xWordsn xWordsc]) := X0.out.step hb
  have B1 : Hid (Below w.heap.size w w1) := B0.out.trans (hb.mono B0.out.size)
  clear hb X0 B0 C1
  obtain ⟨lx, x0, x1, x2, x3⟩ := frame_cells X1.out
  go_wp2_with fail
  refine (CP.out _ B1.out).mono ?_
  rintro e w2 ⟨rfl, hb⟩
  have X2 : Hid (Cells w2 w.heap.size [.int .i64 xKind, .int .i64 xLane, .int .u8 xSeq, .slice xWordsa xWordsn xWordsc]) := X1.out.step hb
  have B2 : Hid (Below w.heap.size w w2) := B1.out.trans (hb.mono B1.out.size)
  clear hb X1 B1 lx x0 x1 x2 x3 CP
  obtain ⟨lx, x0, x1, x2, x3⟩ := frame_cells X2.out
  by_cases hE : E = 0
  · have CR2 : Hid (∀ W, Calls Try.prog 9 #[.string T] W fun e w' => ∃ a c, e = .returned (.tuple #[.agg #[.int .i64 xKind, .int .i64 xLane, .int .u8 xSeq, .slice a xWordsn c], .int .i64 0]) ∧ Wds w' a xWordsn xWords ∧ Below W.heap.size W w') := CR.out hE
    clear CR
    subst hE
    go_wp2_with fail
    refine (CR2.out _).mono ?_
    rintro e w3 ⟨qa, qc, rfl, hq, hb⟩
    have X3 : Hid (Cells w3 w.heap.size [.int .i64 xKind, .int .i64 xLane, .int .u8 xSeq, .slice xWordsa xWordsn xWordsc]) := X2.out.step hb
    have B3 : Hid (Below w.heap.size w w3) := B2.out.trans (hb.mono B2.out.size)
    have Q3 : Hid (Wds w3 qa xWordsn xWords) := hq
    clear hb hq X2 B2 lx x0 x1 x2 x3 CR2
    have bw := (Below.refl _ w3).alloc (Nat.le_refl _) (.cells #[.int .i64 xKind, .int .i64 xLane, .int .u8 xSeq, .slice qa xWordsn qc] 24)
    have X4 : Hid (Cells (w3.alloc (.cells #[.int .i64 xKind, .int .i64 xLane, .int .u8 xSeq, .slice qa xWordsn qc] 24)) w.heap.size [.int .i64 xKind, .int .i64 xLane, .int .u8 xSeq, .slice xWordsa xWordsn xWordsc]) := X3.out.step bw
    have QB4 : Hid (Cells (w3.alloc (.cells #[.int .i64 xKind, .int .i64 xLane, .int .u8 xSeq, .slice qa xWordsn qc] 24)) w3.heap.size [.int .i64 xKind, .int .i64 xLane, .int .u8 xSeq, .slice qa xWordsn qc]) := cells_new w3 _ _
    have Q4 : Hid (Wds (w3.alloc (.cells #[.int .i64 xKind, .int .i64 xLane, .int .u8 xSeq, .slice qa xWordsn qc] 24)) qa xWordsn xWords) := Q3.out.later bw
    have B4 : Hid (Below w.heap.size w (w3.alloc (.cells #[.int .i64 xKind, .int .i64 xLane, .int .u8 xSeq, .slice qa xWordsn qc] 24))) := B3.out.alloc B3.out.size _
    clear bw X3 B3 Q3
    obtain ⟨lx, x0, x1, x2, x3⟩ := frame_cells X4.out
    go_wp2_with fail
    clear lx x0 x1 x2 x3
    generalize w3.alloc (.cells #[.int .i64 xKind, .int .i64 xLane, .int .u8 xSeq, .slice qa xWordsn qc] 24) = w4 at X4 QB4 Q4 B4 ⊢
    refine (HS.out qa qc _ B4.out Q4.out).mono ?_
    rintro e w5 ⟨rfl, hb⟩
    have X5 : Hid (Cells w5 w.heap.size [.int .i64 xKind, .int .i64 xLane, .int .u8 xSeq, .slice xWordsa xWordsn xWordsc]) := X4.out.step hb
    have B5 : Hid (Below w.heap.size w w5) := B4.out.trans (hb.mono B4.out.size)
    clear hb X4 QB4 Q4 B4
    obtain ⟨lx, x0, x1, x2, x3⟩ := frame_cells X5.out
    go_wp2_with fail
    refine (HR.out _).mono ?_
    rintro e w6 ⟨ya, yc, rfl, hy, hb⟩
    have Y6 : Hid (Wds w6 ya fn fl) := hy
    have B6 : Hid (Below w.heap.size w w6) := B5.out.trans (hb.mono B5.out.size)
    clear hb hy X5 B5 lx x0 x1 x2 x3
    have bw := (Below.refl _ w6).alloc (Nat.le_refl _) (.cells #[.int .i64 fK, .int .i64 fL, .int .u8 fS, .slice ya fn yc] 24)
    have Y7 : Hid (Wds (w6.alloc (.cells #[.int .i64 fK, .int .i64 fL, .int .u8 fS, .slice ya fn yc] 24)) ya fn fl) := Y6.out.later bw
    have YB7 : Hid (Cells (w6.alloc (.cells #[.int .i64 fK, .int .i64 fL, .int .u8 fS, .slice ya fn yc] 24)) w6.heap.size [.int .i64 fK, .int .i64 fL, .int .u8 fS, .slice ya fn yc]) := cells_new w6 _ _
    have B7 : Hid (Below w.heap.size w (w6.alloc (.cells #[.int .i64 fK, .int .i64 fL, .int .u8 fS, .slice ya fn yc] 24))) := B6.out.alloc B6.out.size _
    clear bw Y6 B6
    go_wp2_with fail
    generalize w6.alloc (.cells #[.int .i64 fK, .int .i64 fL, .int .u8 fS, .slice ya fn yc] 24) = w7 at Y7 YB7 B7 ⊢
    generalize w6.heap.size = by1 at YB7 ⊢
    refine (HP.out ya yc _ Y7.out).mono ?_
    rintro e w8 ⟨rfl, hb⟩
    have YB8 : Hid (Cells w8 by1 [.int .i64 fK, .int .i64 fL, .int .u8 fS, .slice ya fn yc]) := YB7.out.step hb
    have B8 : Hid (Below w.heap.size w w8) := B7.out.trans (hb.mono B7.out.size)
    clear hb YB7 B7 Y7
    obtain ⟨ly, y0, y1, y2, y3⟩ := frame_cells YB8.out
    by_cases hF : F = 0
    · obtain ⟨rfl, rfl⟩ := F0.out hF
      subst hF
      go_wp2_with fail
      go_ret
      exact ⟨rfl, B8.out⟩
    · obtain rfl := F1.out hF
      have hF' : (F != 0) = true := by simpa using hF
      clear hF F0 F1
      go_wp2_with fail
      go_ret
      exact ⟨rfl, B8.out⟩
  · have hE' : (E == 0) = false := by simpa using hE
    clear CR hE
    go_wp2_with fail
    refine (HR.out _).mono ?_
    rintro e w6 ⟨ya, yc, rfl, hy, hb⟩
    have Y6 : Hid (Wds w6 ya fn fl) := hy
    have B6 : Hid (Below w.heap.size w w6) := B2.out.trans (hb.mono B2.out.size)
    clear hb hy X2 B2 lx x0 x1 x2 x3
    have bw := (Below.refl _ w6).alloc (Nat.le_refl _) (.cells #[.int .i64 fK, .int .i64 fL, .int .u8 fS, .slice ya fn yc] 24)
    have Y7 : Hid (Wds (w6.alloc (.cells #[.int .i64 fK, .int .i64 fL, .int .u8 fS, .slice ya fn yc] 24)) ya fn fl) := Y6.out.later bw
    have YB7 : Hid (Cells (w6.alloc (.cells #[.int .i64 fK, .int .i64 fL, .int .u8 fS, .slice ya fn yc] 24)) w6.heap.size [.int .i64 fK, .int .i64 fL, .int .u8 fS, .slice ya fn yc]) := cells_new w6 _ _
    have B7 : Hid (Below w.heap.size w (w6.alloc (.cells #[.int .i64 fK, .int .i64 fL, .int .u8 fS, .slice ya fn yc] 24))) := B6.out.alloc B6.out.size _
    clear bw Y6 B6
    go_wp2_with fail
    generalize w6.alloc (.cells #[.int .i64 fK, .int .i64 fL, .int .u8 fS, .slice ya fn yc] 24) = w7 at Y7 YB7 B7 ⊢
    generalize w6.heap.size = by1 at YB7 ⊢
    refine (HP.out ya yc _ Y7.out).mono ?_
    rintro e w8 ⟨rfl, hb⟩
    have YB8 : Hid (Cells w8 by1 [.int .i64 fK, .int .i64 fL, .int .u8 fS, .slice ya fn yc]) := YB7.out.step hb
    have B8 : Hid (Below w.heap.size w w8) := B7.out.trans (hb.mono B7.out.size)
    clear hb YB7 B7 Y7
    obtain ⟨ly, y0, y1, y2, y3⟩ := frame_cells YB8.out
    by_cases hF : F = 0
    · obtain ⟨rfl, rfl⟩ := F0.out hF
      subst hF
      go_wp2_with fail
      go_ret
      exact ⟨rfl, B8.out⟩
    · obtain rfl := F1.out hF
      have hF' : (F != 0) = true := by simpa using hF
      clear hF F0 F1
      go_wp2_with fail
      go_ret
      exact ⟨rfl, B8.out⟩

/-! ### THE ROW's STEP -/
set_option maxRecDepth 100000 in
theorem lifted (os : Os) (started : os.Started) (H : Type) (enc : TypeId × Value → H) :
    ReturnsInHanded {} Try.checked os 4 .any (Rows.frameBackSpec.pre6 enc Try.prog Try.f4 Rows.frameBackRow.domain false) (Rows.frameBackSpec.post enc Try.prog Try.f4 false true false false) := by
  refine returnsInHanded_of_change_sized (C := Try.checked) own started (by kernel_rfl) Try.func4
    (ChangeSpec.witness6 (enc := enc) (C := Try.checked) false ⟨#[], #[.agg #[.int .i64 0, .int .i64 0, .int .u8 0, .slice none 0 0], .string ByteArray.empty], []⟩ 8 (by kernel_rfl) (by kernel_rfl) (by kernel_rfl) (by kernel_rfl)) ?_
  intro W base args ds gs before hval0 hW hcnd hsz0 _
  have hval : ∀ (j : Nat) t v, Try.f4.params[j]? = some t → args[j]? = some v → Value.okWide Try.prog W .any base t v := hval0
  have hW' := hW
  obtain ⟨p, q, hA0, hV, rfl, hfz, hnd⟩ := hW
  have hA : DataW.TrodAll enc Try.prog W 0 (fun _ => true) true Try.f4.params.toList args.toList ds p := hA0
  rw [Try.params4] at hA hval
  obtain ⟨v0, vs0, d0, ds0, p0, q0, hargs, rfl, rfl, h0, r0⟩ := trodAll_cons hA
  obtain ⟨v1, vs1, d1, ds1, p1, q1, rfl, rfl, rfl, h1, r1⟩ := trodAll_cons r0
  obtain ⟨rfl, rfl, rfl⟩ := trodAll_nil r1
  obtain rfl : args = #[v0, v1] := by cases args; simp_all
  obtain ⟨rfl, rfl⟩ := trodVars_none hV
  have hz0 : Light Try.prog 24 d0 := light_of hsz0 (j := 0) (by first | rfl | (rw [Try.params4]; rfl)) rfl
  have k0 := h0
  have lt0 : ∀ x ∈ p0, x.block < W.heap.size := by obtain ⟨m, hm⟩ := k0; exact DataW.trod_lt m _ _ _ hm
  obtain ⟨cs0, rfl, _⟩ := okWide_struct Try.underlying24 (hval 0 24 v0 rfl rfl)
  obtain ⟨xKind, xLane, xSeq, xWordsa, xWordsn, xWordsc, xWords, e0, h_xKind, h_xLane, h_xSeq, h_xWords⟩ := (by obtain ⟨fuel, hf⟩ := h0; exact open24 hf hz0 : ∃ xKind : Int, ∃ xLane : Int, ∃ xSeq : Int, ∃ (xWordsa : Option Addr) (xWordsn xWordsc : Nat) (xWords : Nat → Int), cs0.toList = [.int .i64 xKind, .int .i64 xLane, .int .u8 xSeq, .slice xWordsa xWordsn xWordsc] ∧ (Lit.int .i64 xKind).wf = true ∧ (Lit.int .i64 xLane).wf = true ∧ (Lit.int .u8 xSeq).wf = true ∧ RowZ .i32 4 W xWordsa xWordsn xWordsc xWords)
  obtain rfl : cs0 = #[.int .i64 xKind, .int .i64 xLane, .int .u8 xSeq, .slice xWordsa xWordsn xWordsc] := by cases cs0; simp_all
  clear e0
  have hz1 : Light Try.prog 9 d1 := light_of hsz0 (j := 1) (by first | rfl | (rw [Try.params4]; rfl)) rfl
  have k1 := h1
  have lt1 : ∀ x ∈ p1, x.block < W.heap.size := by obtain ⟨m, hm⟩ := k1; exact DataW.trod_lt m _ _ _ hm
  obtain ⟨s, rfl, rfl, rfl, h_s⟩ := Go.ChangeMaps.open_string Try.underlying9 (hval 1 9 v1 rfl rfl) h1
  replace h_s : s.size ≤ 140737488351232 := light_string hz1
  clear hA0 hval0
  refine (walk xKind xLane xSeq xWordsa xWordsn xWordsc xWords s W h_xKind h_xLane h_xSeq h_xWords h_s).mono fun e W' ⟨he, bel⟩ => ?_
  subst he
  exact ⟨_, rfl, _, _, _, [], _, [], hW', trodAll_mk1 (shut_bool Try.underlying4 _), (trodAll_cons_mk (Below.trod laidOut (by kernel_rfl) (of_decide_eq_true (by kernel_rfl)) k0 bel lt0) (trodAll_cons_mk (Below.trod laidOut (by kernel_rfl) (of_decide_eq_true (by kernel_rfl)) k1 bel lt1) trodAll_mk0)), rfl, bel.frame _, fun h => by cases h⟩

theorem over : Rows.frameBackRow.holds Try.pinned (OpenSpec.ofChange Rows.frameBackSpec) :=
  OpenClaim.holds_of_wide 4 Try.f4 rfl rfl rfl rfl rfl rfl rfl ⟨rfl, rfl, rfl, rfl, rfl⟩ rfl rfl rfl rfl rfl (by kernel_rfl) Try.func4 (by kernel_rfl)
    (of_decide_eq_true (by kernel_rfl)) (by unfold Func.isWrapper; first | (rw [if_pos (by decide +kernel)]; kernel_rfl) | (rw [if_neg (by decide +kernel)]; exact ⟨rfl, rfl⟩))
    (fun os started H enc _ => lifted os started H enc)


end Go.Proofs.Ytfenajekaijlpaa.frameBack
namespace Go.Proofs.Ytfenajekaijlpaa
/-- THE STATEMENT -/
theorem frameBack_holds : Rows.FrameBackSaid := frameBack.over
#print axioms frameBack_holds
end Go.Proofs.Ytfenajekaijlpaa
