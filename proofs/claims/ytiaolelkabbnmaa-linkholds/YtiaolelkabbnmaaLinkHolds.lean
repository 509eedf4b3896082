/-
  Whatever is handed in, the law LinkHolds returns true: what is no good changes nothing but that it is counted; what is good is the last one. No condition.
-/
import Derived.Test.YtiaolelkabbnmaaLnkBox
import Derived.Test.YtiaolelkabbnmaaRLnk
import Derived.ProofKit
namespace Go.Proofs.Ytiaolelkabbnmaa.linkHolds
open Go.ChangeShapes Go.WideShapes Go.ChangeAt Go.RowKit
set_option linter.unusedVariables false

theorem own : ownKnob Try.prog.godebug = none := by kernel_rfl
theorem laidOut : laidOutB Try.prog = true := by kernel_rfl

theorem list4 {l : List Value} (h : l.length = 4) : ∃ c0 c1 c2 c3, l = [c0, c1, c2, c3] := by
  match l, h with
  | [c0, c1, c2, c3], _ => exact ⟨c0, c1, c2, c3, rfl⟩

theorem list7 {l : List Value} (h : l.length = 7) : ∃ c0 c1 c2 c3 c4 c5 c6, l = [c0, c1, c2, c3, c4, c5, c6] := by
  match l, h with
  | [c0, c1, c2, c3, c4, c5, c6], _ => exact ⟨c0, c1, c2, c3, c4, c5, c6, rfl⟩

theorem open24 {H : Type} {enc : TypeId × Value → H} {w : World} {base : Nat} {spare : Nat → Bool} {held : Bool} {fuel : Nat} {cs : List Value} {x : DataW H × List MemPlace} (h : DataW.trod enc Try.prog w base spare held fuel 24 cs = some x) (hz : Light Try.prog 24 x.1) :
    ∃ vKind : Int, ∃ vLane : Int, ∃ vSeq : Int, ∃ (vWordsa : Option Addr) (vWordsn vWordsc : Nat) (vWords : Nat → Int), cs = [.int .i64 vKind, .int .i64 vLane, .int .u8 vSeq, .slice vWordsa vWordsn vWordsc] ∧ (Lit.int .i64 vKind).wf = true ∧ (Lit.int .i64 vLane).wf = true ∧ (Lit.int .u8 vSeq).wf = true ∧ RowZ .i32 4 w vWordsa vWordsn vWordsc vWords := by
  obtain ⟨hl, hf⟩ := trod_field_z Try.underlying24 h hz
  rw [show Try.prog.cellsOf 24 = 4 from by kernel_rfl] at hl
  obtain ⟨c0, c1, c2, c3, rfl⟩ := list4 hl
  obtain ⟨n0, y0, h0, z0⟩ := hf 0 _ rfl
  replace h0 : DataW.trod enc Try.prog w base spare held n0 3 (([c0, c1, c2, c3] : List Value).drop 0 |>.take (Try.prog.cellsOf 3)) = some y0 := h0
  rw [show Try.prog.cellsOf 3 = 1 from by kernel_rfl] at h0
  replace h0 : DataW.trod enc Try.prog w base spare held n0 3 [c0] = some y0 := h0
  obtain ⟨n1, y1, h1, z1⟩ := hf 1 _ rfl
  replace h1 : DataW.trod enc Try.prog w base spare held n1 3 (([c0, c1, c2, c3] : List Value).drop 1 |>.take (Try.prog.cellsOf 3)) = some y1 := h1
  rw [show Try.prog.cellsOf 3 = 1 from by kernel_rfl] at h1
  replace h1 : DataW.trod enc Try.prog w base spare held n1 3 [c1] = some y1 := h1
  obtain ⟨n2, y2, h2, z2⟩ := hf 2 _ rfl
  replace h2 : DataW.trod enc Try.prog w base spare held n2 5 (([c0, c1, c2, c3] : List Value).drop 2 |>.take (Try.prog.cellsOf 5)) = some y2 := h2
  rw [show Try.prog.cellsOf 5 = 1 from by kernel_rfl] at h2
  replace h2 : DataW.trod enc Try.prog w base spare held n2 5 [c2] = some y2 := h2
  obtain ⟨n3, y3, h3, z3⟩ := hf 3 _ rfl
  replace h3 : DataW.trod enc Try.prog w base spare held n3 22 (([c0, c1, c2, c3] : List Value).drop 3 |>.take (Try.prog.cellsOf 22)) = some y3 := h3
  rw [show Try.prog.cellsOf 22 = 1 from by kernel_rfl] at h3
  replace h3 : DataW.trod enc Try.prog w base spare held n3 22 [c3] = some y3 := h3
  obtain ⟨x0, e0, _, f0_0⟩ := DataW.trod_int Try.underlying3 h0
  simp only [List.cons.injEq, and_true] at e0
  obtain rfl := e0
  obtain ⟨x1, e1, _, f1_0⟩ := DataW.trod_int Try.underlying3 h1
  simp only [List.cons.injEq, and_true] at e1
  obtain rfl := e1
  obtain ⟨x2, e2, _, f2_0⟩ := DataW.trod_int Try.underlying5 h2
  simp only [List.cons.injEq, and_true] at e2
  obtain rfl := e2
  obtain ⟨x3a, x3n, x3c, x3, e3, f3_0⟩ := rowZ_of Try.underlying22 Try.underlying21 (by kernel_rfl) (by kernel_rfl) h3 z3
  simp only [List.cons.injEq, and_true] at e3
  obtain rfl := e3
  exact ⟨x0, x1, x2, x3a, x3n, x3c, x3, rfl, f0_0, f1_0, f2_0, f3_0⟩

theorem open26 {H : Type} {enc : TypeId × Value → H} {w : World} {base : Nat} {spare : Nat → Bool} {held : Bool} {fuel : Nat} {cs : List Value} {x : DataW H × List MemPlace} (h : DataW.trod enc Try.prog w base spare held fuel 26 cs = some x) (hz : Light Try.prog 26 x.1) :
    ∃ vLastKind : Int, ∃ vLastLane : Int, ∃ vLastSeq : Int, ∃ (vLastWordsa : Option Addr) (vLastWordsn vLastWordsc : Nat) (vLastWords : Nat → Int), ∃ vHeard : Bool, ∃ vAge : Int, ∃ vBad : Int, cs = [.int .i64 vLastKind, .int .i64 vLastLane, .int .u8 vLastSeq, .slice vLastWordsa vLastWordsn vLastWordsc, .bool vHeard, .int .i64 vAge, .int .i64 vBad] ∧ (Lit.int .i64 vLastKind).wf = true ∧ (Lit.int .i64 vLastLane).wf = true ∧ (Lit.int .u8 vLastSeq).wf = true ∧ RowZ .i32 4 w vLastWordsa vLastWordsn vLastWordsc vLastWords ∧ (Lit.int .i64 vAge).wf = true ∧ (Lit.int .i64 vBad).wf = true := by
  obtain ⟨hl, hf⟩ := trod_field_z Try.underlying26 h hz
  rw [show Try.prog.cellsOf 26 = 7 from by kernel_rfl] at hl
  obtain ⟨c0, c1, c2, c3, c4, c5, c6, rfl⟩ := list7 hl
  obtain ⟨n0, y0, h0, z0⟩ := hf 0 _ rfl
  replace h0 : DataW.trod enc Try.prog w base spare held n0 24 (([c0, c1, c2, c3, c4, c5, c6] : List Value).drop 0 |>.take (Try.prog.cellsOf 24)) = some y0 := h0
  rw [show Try.prog.cellsOf 24 = 4 from by kernel_rfl] at h0
  replace h0 : DataW.trod enc Try.prog w base spare held n0 24 [c0, c1, c2, c3] = some y0 := h0
  obtain ⟨n1, y1, h1, z1⟩ := hf 1 _ rfl
  replace h1 : DataW.trod enc Try.prog w base spare held n1 4 (([c0, c1, c2, c3, c4, c5, c6] : List Value).drop 4 |>.take (Try.prog.cellsOf 4)) = some y1 := h1
  rw [show Try.prog.cellsOf 4 = 1 from by kernel_rfl] at h1
  replace h1 : DataW.trod enc Try.prog w base spare held n1 4 [c4] = some y1 := h1
  obtain ⟨n2, y2, h2, z2⟩ := hf 2 _ rfl
  replace h2 : DataW.trod enc Try.prog w base spare held n2 3 (([c0, c1, c2, c3, c4, c5, c6] : List Value).drop 5 |>.take (Try.prog.cellsOf 3)) = some y2 := h2
  rw [show Try.prog.cellsOf 3 = 1 from by kernel_rfl] at h2
  replace h2 : DataW.trod enc Try.prog w base spare held n2 3 [c5] = some y2 := h2
  obtain ⟨n3, y3, h3, z3⟩ := hf 3 _ rfl
  replace h3 : DataW.trod enc Try.prog w base spare held n3 3 (([c0, c1, c2, c3, c4, c5, c6] : List Value).drop 6 |>.take (Try.prog.cellsOf 3)) = some y3 := h3
  rw [show Try.prog.cellsOf 3 = 1 from by kernel_rfl] at h3
  replace h3 : DataW.trod enc Try.prog w base spare held n3 3 [c6] = some y3 := h3
  obtain ⟨x0Kind, x0Lane, x0Seq, x0Wordsa, x0Wordsn, x0Wordsc, x0Words, e0, f0_0, f0_1, f0_2, f0_3⟩ := open24 h0 z0
  simp only [List.cons.injEq, and_true] at e0
  obtain ⟨rfl, rfl, rfl, rfl⟩ := e0
  obtain ⟨x1, e1, _⟩ := DataW.trod_bool Try.underlying4 h1
  simp only [List.cons.injEq, and_true] at e1
  obtain rfl := e1
  obtain ⟨x2, e2, _, f2_0⟩ := DataW.trod_int Try.underlying3 h2
  simp only [List.cons.injEq, and_true] at e2
  obtain rfl := e2
  obtain ⟨x3, e3, _, f3_0⟩ := DataW.trod_int Try.underlying3 h3
  simp only [List.cons.injEq, and_true] at e3
  obtain rfl := e3
  exact ⟨x0Kind, x0Lane, x0Seq, x0Wordsa, x0Wordsn, x0Wordsc, x0Words, x1, x2, x3, rfl, f0_0, f0_1, f0_2, f0_3, f2_0, f3_0⟩


set_option maxHeartbeats 4000000 in
set_option maxRecDepth 100000 in
theorem walk (lLastKind : Int) (lLastLane : Int) (lLastSeq : Int) (lLastWordsa : Option Addr) (lLastWordsn lLastWordsc : Nat) (lLastWords : Nat → Int) (lHeard : Bool) (lAge : Int) (lBad : Int) (s : ByteArray) (w : World) (h_lLastKind : (Lit.int .i64 lLastKind).wf = true) (h_lLastLane : (Lit.int .i64 lLastLane).wf = true) (h_lLastSeq : (Lit.int .u8 lLastSeq).wf = true) (h_lLastWords : RowZ .i32 4 w lLastWordsa lLastWordsn lLastWordsc lLastWords) (h_lAge : (Lit.int .i64 lAge).wf = true) (h_lBad : (Lit.int .i64 lBad).wf = true) (h_s : s.size ≤ 140737488351232) :
    Calls Try.prog 4 #[.agg #[.int .i64 lLastKind, .int .i64 lLastLane, .int .u8 lLastSeq, .slice lLastWordsa lLastWordsn lLastWordsc, .bool lHeard, .int .i64 lAge, .int .i64 lBad], .string s] w fun e w' => e = .returned (.bool true) ∧ Below w.heap.size w w' := by
  obtain ⟨hw, hl, hn⟩ := wds_of h_lLastWords
  clear h_lLastKind h_lLastLane h_lLastSeq h_lLastWords h_lAge h_lBad hl
  generalize lLastKind = K at *
  generalize lLastLane = L at *
  generalize lLastSeq = S at *
  generalize lLastWordsa = a at *
  generalize lLastWordsn = n at *
  generalize lLastWordsc = c at *
  generalize lLastWords = l at *
  generalize lHeard = h at *
  generalize lAge = A at *
  generalize lBad = B at *
  have X0 : Hid (Kb (w.alloc (.cells #[.int .i64 K, .int .i64 L, .int .u8 S, .slice a n c, .bool h, .int .i64 A, .int .i64 B] 26)) w.heap.size K L S n l h A B a c) := kb_new hw
  have B0 : Hid (Below w.heap.size w (w.alloc (.cells #[.int .i64 K, .int .i64 L, .int .u8 S, .slice a n c, .bool h, .int .i64 A, .int .i64 B] 26))) := alloc_step w _
  have CH : Hid (∀ W, Wds W a n l → Calls Try.prog 9 #[.agg #[.int .i64 K, .int .i64 L, .int .u8 S, .slice a n c, .bool h, .int .i64 A, .int .i64 B], .string s] W fun e w' => ∃ a' c', e = .returned (.tuple #[.agg #[.int .i64 (hrL ⟨⟨K, L, S, n, l⟩, h, A, B⟩ s).F.K, .int .i64 (hrL ⟨⟨K, L, S, n, l⟩, h, A, B⟩ s).F.L, .int .u8 (hrL ⟨⟨K, L, S, n, l⟩, h, A, B⟩ s).F.S, .slice a' (hrL ⟨⟨K, L, S, n, l⟩, h, A, B⟩ s).F.n c', .bool (hrL ⟨⟨K, L, S, n, l⟩, h, A, B⟩ s).h, .int .i64 (hrL ⟨⟨K, L, S, n, l⟩, h, A, B⟩ s).A, .int .i64 (hrL ⟨⟨K, L, S, n, l⟩, h, A, B⟩ s).B], .int .i64 (hrE ⟨⟨K, L, S, n, l⟩, h, A, B⟩ s)]) ∧ Wds w' a' (hrL ⟨⟨K, L, S, n, l⟩, h, A, B⟩ s).F.n (hrL ⟨⟨K, L, S, n, l⟩, h, A, B⟩ s).F.l ∧ (∀ x, a' = some x → W.heap.size ≤ x.block) ∧ Below W.heap.size W w') := fun W hW => hear_any ⟨⟨K, L, S, n, l⟩, h, A, B⟩ a c s W hW h_s
  have CC : Hid (∀ W, Calls Try.prog 12 #[.agg #[.int .i64 K, .int .i64 L, .int .u8 S, .slice a n c, .bool h, .int .i64 A, .int .i64 B]] W fun e w' => e = .returned (.int .i64 (lkErr ⟨⟨K, L, S, n, l⟩, h, A, B⟩)) ∧ Below W.heap.size W w') := fun W => lcheck_any K L S a n c h A B W
  have CR : Hid (∀ W, Calls Try.prog 17 #[.string s] W fun e w' => ∃ a c, e = .returned (.tuple #[.agg #[.int .i64 (rdF s).K, .int .i64 (rdF s).L, .int .u8 (rdF s).S, .slice a (rdF s).n c], .int .i64 (rdE s)]) ∧ Wds w' a (rdF s).n (rdF s).l ∧ (∀ x, a = some x → W.heap.size < x.block) ∧ Below W.heap.size W w') := fun W => read_any s W h_s
  have CN : Hid (∀ (a1 : Option Addr) (c1 : Nat) (W : World), Calls Try.prog 13 #[.agg #[.int .i64 0, .int .i64 0, .int .u8 0, .slice a1 0 c1, .bool false, .int .i64 0, .int .i64 0], .agg #[.int .i64 0, .int .i64 0, .int .u8 0, .slice none 0 0, .bool false, .int .i64 0, .int .i64 0]] W fun e w' => e = .returned (.bool true) ∧ Below W.heap.size W w') := fun a1 c1 W => samelink_any lkNone a1 none c1 0 W (by decide) (wds_zero _ _ _) (wds_zero _ _ _)
  have CF : Hid (∀ (K L S : Int) (n : Nat) (l : Nat → Int) (a1 a2 : Option Addr) (c1 c2 : Nat) (W : World), n ≤ 35184372087808 → Wds W a1 n l → Wds W a2 n l → Calls Try.prog 18 #[.agg #[.int .i64 K, .int .i64 L, .int .u8 S, .slice a1 n c1], .agg #[.int .i64 K, .int .i64 L, .int .u8 S, .slice a2 n c2]] W fun e w' => e = .returned (.bool true) ∧ Below W.heap.size W w') := fun K L S n l a1 a2 c1 c2 W hn h1 h2 => by
    have h := same_any ⟨K, L, S, n, l⟩ ⟨K, L, S, n, l⟩ a1 a2 c1 c2 W (by simp only; omega) h1 h2
    rw [frSame_refl _ _ rfl rfl rfl rfl (fun _ _ => rfl)] at h
    exact h
  have F1 : Hid (lkErr ⟨⟨K, L, S, n, l⟩, h, A, B⟩ ≠ 0 → hrE ⟨⟨K, L, S, n, l⟩, h, A, B⟩ s = lkErr ⟨⟨K, L, S, n, l⟩, h, A, B⟩ ∧ hrL ⟨⟨K, L, S, n, l⟩, h, A, B⟩ s = ⟨⟨0, 0, 0, 0, fun _ => 0⟩, false, 0, 0⟩) := fun h => ⟨hrE_bad h, hrL_bad h⟩
  have F2 : Hid (lkErr ⟨⟨K, L, S, n, l⟩, h, A, B⟩ = 0 → hrE ⟨⟨K, L, S, n, l⟩, h, A, B⟩ s = 0 → rdE s = 0 ∧ hrL ⟨⟨K, L, S, n, l⟩, h, A, B⟩ s = ⟨rdF s, true, 0, B⟩) := fun h1 h2 => by
    refine ⟨?_, hrL_new h1 h2⟩
    by_cases h3 : rdE s = 0
    · exact h3
    · rw [hrE_read h1 h3] at h2
      exact absurd h2 h3
  have F3 : Hid (lkErr ⟨⟨K, L, S, n, l⟩, h, A, B⟩ = 0 → hrE ⟨⟨K, L, S, n, l⟩, h, A, B⟩ s ≠ 0 → hrL ⟨⟨K, L, S, n, l⟩, h, A, B⟩ s = ⟨⟨K, L, S, n, l⟩, h, A, upB B⟩ ∧ (rdE s ≠ 0 ∧ hrE ⟨⟨K, L, S, n, l⟩, h, A, B⟩ s = rdE s ∨ rdE s = 0 ∧ hrE ⟨⟨K, L, S, n, l⟩, h, A, B⟩ s = 6)) := fun h1 h2 => by
    refine ⟨hrL_spoilt h1 h2, ?_⟩
    by_cases h3 : rdE s = 0
    · cases h4 : staleB ⟨⟨K, L, S, n, l⟩, h, A, B⟩ s with
      | true => exact .inr ⟨h3, hrE_stale h1 h3 h4⟩
      | false => exact absurd (hrE_new h1 h3 h4) h2
    · exact .inl ⟨h3, hrE_read h1 h3⟩
  have HB : Hid (lkErr ⟨⟨K, L, S, n, l⟩, h, A, B⟩ = 0 → 0 ≤ B ∧ B ≤ 10000) := fun h1 => ⟨(lkE_zero h1).2.2.1, (lkE_zero h1).2.2.2.1⟩
  have N2 : Hid ((rdF s).n ≤ 35184372087808 ∧ n ≤ 35184372087808) := ⟨by have := (rdF_S s).2.2; omega, hn⟩
  generalize hrL ⟨⟨K, L, S, n, l⟩, h, A, B⟩ s = y at *
  generalize hrE ⟨⟨K, L, S, n, l⟩, h, A, B⟩ s = G at *
  generalize lkErr ⟨⟨K, L, S, n, l⟩, h, A, B⟩ = E at *
  generalize rdF s = f at *
  generalize rdE s = F at *
  obtain ⟨⟨yK, yL, yS, yn, yl⟩, yh, yA, yB⟩ := y
  obtain ⟨fK, fL, fS, fn, fl⟩ := f
  simp only at CH CR F1 F2 F3 N2
  clear hw hn h_s
  go_enter Try.func4, Try.ntmps4
  go_wp2_with fail
  refine (heard_any _).mono ?_
  rintro e w1 ⟨ha, hc, rfl, hhw, _, hb⟩
  have H2 : Hid (Kb (w1.alloc (.cells #[.int .i64 1, .int .i64 0, .int .u8 5, .slice ha 1 hc, .bool true, .int .i64 0, .int .i64 0] 26)) w1.heap.size 1 0 5 1 (fun _ => 7) true 0 0 ha hc) := kb_new hhw
  have X2 : Hid (Kb (w1.alloc (.cells #[.int .i64 1, .int .i64 0, .int .u8 5, .slice ha 1 hc, .bool true, .int .i64 0, .int .i64 0] 26)) w.heap.size K L S n l h A B a c) := (X0.out.step hb).step (alloc_step w1 _)
  have B2 : Hid (Below w.heap.size w (w1.alloc (.cells #[.int .i64 1, .int .i64 0, .int .u8 5, .slice ha 1 hc, .bool true, .int .i64 0, .int .i64 0] 26))) := step_on (step_on B0.out B0.out.size hb) (by have := B0.out.size; have := hb.size; omega) (alloc_step w1 _)
  clear hhw hb X0 B0
  go_upto_region 2 with fail
  generalize w1.alloc (.cells #[.int .i64 1, .int .i64 0, .int .u8 5, .slice ha 1 hc, .bool true, .int .i64 0, .int .i64 0] 26) = w2 at H2 X2 B2 ⊢
  generalize w1.heap.size = b1 at H2 ⊢
  obtain ⟨lx, x0, x1, x2, x3, x4, x5, x6⟩ := link_cells X2.out.box
  obtain ⟨ly, y0, y1, y2, y3, y4, y5, y6⟩ := link_cells H2.out.box
  go_wp2_with fail
  clear lx x0 x1 x2 x3 x4 x5 x6 ly y0 y1 y2 y3 y4 y5 y6 H2
  refine (CH.out _ X2.out.wds).mono ?_
  rintro e w3 ⟨ya, yc, rfl, hy, _, hb⟩
  have X4 : Hid (Kb (w3.alloc (.cells #[.int .i64 yK, .int .i64 yL, .int .u8 yS, .slice ya yn yc, .bool yh, .int .i64 yA, .int .i64 yB] 26)) w.heap.size K L S n l h A B a c) := (X2.out.step hb).step (alloc_step w3 _)
  have Y4 : Hid (Kb (w3.alloc (.cells #[.int .i64 yK, .int .i64 yL, .int .u8 yS, .slice ya yn yc, .bool yh, .int .i64 yA, .int .i64 yB] 26)) w3.heap.size yK yL yS yn yl yh yA yB ya yc) := kb_new hy
  have B4 : Hid (Below w.heap.size w (w3.alloc (.cells #[.int .i64 yK, .int .i64 yL, .int .u8 yS, .slice ya yn yc, .bool yh, .int .i64 yA, .int .i64 yB] 26))) := step_on (step_on B2.out B2.out.size hb) (by have := B2.out.size; have := hb.size; omega) (alloc_step w3 _)
  clear hy hb X2 B2
  go_upto_region 5 with fail
  generalize w3.alloc (.cells #[.int .i64 yK, .int .i64 yL, .int .u8 yS, .slice ya yn yc, .bool yh, .int .i64 yA, .int .i64 yB] 26) = w4 at X4 Y4 B4 ⊢
  generalize w3.heap.size = b3 at Y4 ⊢
  obtain ⟨lx, x0, x1, x2, x3, x4, x5, x6⟩ := link_cells X4.out.box
  go_wp2_with fail
  clear lx x0 x1 x2 x3 x4 x5 x6
  refine (CC.out _).mono ?_
  rintro e w5 ⟨rfl, hb⟩
  have X5 : Hid (Kb w5 w.heap.size K L S n l h A B a c) := X4.out.step hb
  have Y5 : Hid (Kb w5 b3 yK yL yS yn yl yh yA yB ya yc) := Y4.out.step hb
  have B5 : Hid (Below w.heap.size w w5) := step_on B4.out B4.out.size hb
  clear hb X4 Y4 B4
  by_cases hE : E = 0
  · have HB2 : Hid (0 ≤ B ∧ B ≤ 10000) := HB.out hE
    have F2b : Hid (G = 0 → F = 0 ∧ (⟨⟨yK, yL, yS, yn, yl⟩, yh, yA, yB⟩ : Lk) = ⟨⟨fK, fL, fS, fn, fl⟩, true, 0, B⟩) := F2.out hE
    have F3b : Hid (G ≠ 0 → (⟨⟨yK, yL, yS, yn, yl⟩, yh, yA, yB⟩ : Lk) = ⟨⟨K, L, S, n, l⟩, h, A, upB B⟩ ∧ (F ≠ 0 ∧ G = F ∨ F = 0 ∧ G = 6)) := F3.out hE
    clear F1 F2 F3 HB
    subst hE
    go_wp2_with fail
    refine (CR.out _).mono ?_
    rintro e w6 ⟨fa, fc, rfl, hf, _, hb⟩
    have X7 : Hid (Kb (w6.alloc (.cells #[.int .i64 fK, .int .i64 fL, .int .u8 fS, .slice fa fn fc] 24)) w.heap.size K L S n l h A B a c) := (X5.out.step hb).step (alloc_step w6 _)
    have Y7 : Hid (Kb (w6.alloc (.cells #[.int .i64 fK, .int .i64 fL, .int .u8 fS, .slice fa fn fc] 24)) b3 yK yL yS yn yl yh yA yB ya yc) := (Y5.out.step hb).step (alloc_step w6 _)
    have Z7 : Hid (Fb (w6.alloc (.cells #[.int .i64 fK, .int .i64 fL, .int .u8 fS, .slice fa fn fc] 24)) w6.heap.size fK fL fS fn fl fa fc) := fb_new hf
    have B7 : Hid (Below w.heap.size w (w6.alloc (.cells #[.int .i64 fK, .int .i64 fL, .int .u8 fS, .slice fa fn fc] 24))) := step_on (step_on B5.out B5.out.size hb) (by have := B5.out.size; have := hb.size; omega) (alloc_step w6 _)
    clear hf hb X5 Y5 B5
    go_upto_region 8 with fail
    generalize w6.alloc (.cells #[.int .i64 fK, .int .i64 fL, .int .u8 fS, .slice fa fn fc] 24) = w7 at X7 Y7 Z7 B7 ⊢
    generalize w6.heap.size = b6 at Z7 ⊢
    by_cases hG : G = 0
    · obtain ⟨hF, hq⟩ := F2b.out hG
      clear F2b F3b
      subst hG
      subst hF
      cases hq
      obtain ⟨lx, x0, x1, x2, x3, x4, x5, x6⟩ := link_cells X7.out.box
      obtain ⟨ly, y0, y1, y2, y3, y4, y5, y6⟩ := link_cells Y7.out.box
      obtain ⟨lz, z0, z1, z2, z3⟩ := frame_cells Z7.out.box
      go_wp2_with fail
      clear lx x0 x1 x2 x3 x4 x5 x6 ly y0 y1 y2 y3 y4 y5 y6 lz z0 z1 z2 z3
      refine (CF.out _ _ _ _ _ _ _ _ _ _ N2.out.1 Y7.out.wds Z7.out.wds).mono ?_
      rintro e w8 ⟨rfl, hb⟩
      have X8 : Hid (Kb w8 w.heap.size K L S n l h A B a c) := X7.out.step hb
      have Y8 : Hid (Kb w8 b3 yK yL yS yn yl true 0 B ya yc) := Y7.out.step hb
      have B8 : Hid (Below w.heap.size w w8) := step_on B7.out B7.out.size hb
      clear hb X7 Y7 Z7 B7
      obtain ⟨lx, x0, x1, x2, x3, x4, x5, x6⟩ := link_cells X8.out.box
      obtain ⟨ly, y0, y1, y2, y3, y4, y5, y6⟩ := link_cells Y8.out.box
      go_wp2_with fail
      go_ret
      exact ⟨rfl, B8.out⟩
    · obtain ⟨hq, hFG⟩ := F3b.out hG
      have FG : Hid (F ≠ 0 ∧ G = F ∨ F = 0 ∧ G = 6) := hFG
      clear F2b F3b hFG
      have hG' : (G == 0) = false := by simpa using hG
      clear hG
      cases hq
      have mn : ∀ W : World, (Builtin.min_ #[3, 3] 3 #[.int .i64 10000, .int .i64 (B + 1)]).run Try.prog W = .ok (.int .i64 (upB B)) W := fun W => by
        rw [run_min_int2, show (if B + 1 < 10000 then B + 1 else (10000 : Int)) = upB B by unfold upB; have := HB2.out; repeat' split
                                                                                           all_goals omega]
      have hB0 : -1 < B := by have := HB2.out; omega
      have hB1 : B < 10001 := by have := HB2.out; omega
      generalize upB B = U at *
      obtain ⟨lx, x0, x1, x2, x3, x4, x5, x6⟩ := link_cells X7.out.box
      obtain ⟨ly, y0, y1, y2, y3, y4, y5, y6⟩ := link_cells Y7.out.box
      obtain ⟨lz, z0, z1, z2, z3⟩ := frame_cells Z7.out.box
      go_wp2_with fail
      clear lx x0 x1 x2 x3 x4 x5 x6 ly y0 y1 y2 y3 y4 y5 y6 lz z0 z1 z2 z3
      refine (CF.out _ _ _ _ _ _ _ _ _ _ N2.out.2 Y7.out.wds X7.out.wds).mono ?_
      rintro e w8 ⟨rfl, hb⟩
      have X8 : Hid (Kb w8 w.heap.size K L S n l h A B a c) := X7.out.step hb
      have Y8 : Hid (Kb w8 b3 K L S n l h A U ya yc) := Y7.out.step hb
      have B8 : Hid (Below w.heap.size w w8) := step_on B7.out B7.out.size hb
      clear hb X7 Y7 Z7 B7
      obtain ⟨lx, x0, x1, x2, x3, x4, x5, x6⟩ := link_cells X8.out.box
      obtain ⟨ly, y0, y1, y2, y3, y4, y5, y6⟩ := link_cells Y8.out.box
      have hh : (h == h) = true := by simp
      rcases FG.out with ⟨hF, rfl⟩ | ⟨rfl, rfl⟩
      · have hF' : (G != 0) = true := by simpa using hF
        clear hF FG
        go_wp2_with fail
        go_ret
        exact ⟨rfl, B8.out⟩
      · clear FG
        go_wp2_with fail
        go_ret
        exact ⟨rfl, B8.out⟩
  · obtain ⟨hG, hq⟩ := F1.out hE
    have hE' : (E != 0) = true := by simpa using hE
    clear F1 F2 F3 HB hE
    subst hG
    cases hq
    obtain ⟨ly, y0, y1, y2, y3, y4, y5, y6⟩ := link_cells Y5.out.box
    go_wp2_with fail
    clear ly y0 y1 y2 y3 y4 y5 y6
    refine (CN.out _ _ _).mono ?_
    rintro e w6 ⟨rfl, hb⟩
    have X6 : Hid (Kb w6 w.heap.size K L S n l h A B a c) := X5.out.step hb
    have B6 : Hid (Below w.heap.size w w6) := step_on B5.out B5.out.size hb
    clear hb X5 Y5 B5
    obtain ⟨lx, x0, x1, x2, x3, x4, x5, x6⟩ := link_cells X6.out.box
    go_wp2_with fail
    clear lx x0 x1 x2 x3 x4 x5 x6
    refine (CC.out _).mono ?_
    rintro e w7 ⟨rfl, hb⟩
    have B7 : Hid (Below w.heap.size w w7) := step_on B6.out B6.out.size hb
    clear hb
    go_wp2_with fail
    go_ret
    exact ⟨rfl, B7.out⟩

/-! ### THE ROW's STEP -/
set_option maxRecDepth 100000 in
theorem lifted (os : Os) (started : os.Started) (H : Type) (enc : TypeId × Value → H) :
    ReturnsInHanded {} Try.checked os 4 .any (Rows.linkHoldsSpec.pre6 enc Try.prog Try.f4 Rows.linkHoldsRow.domain false) (Rows.linkHoldsSpec.post enc Try.prog Try.f4 false true false false) := by
  refine returnsInHanded_of_change_sized (C := Try.checked) own started (by kernel_rfl) Try.func4
    (ChangeSpec.witness6 (enc := enc) (C := Try.checked) false ⟨#[], #[.agg #[.int .i64 0, .int .i64 0, .int .u8 0, .slice none 0 0, .bool false, .int .i64 0, .int .i64 0], .string ByteArray.empty], []⟩ 8 (by kernel_rfl) (by kernel_rfl) (by kernel_rfl) (by kernel_rfl)) ?_
  intro W base args ds gs before hval0 hW hcnd hsz0 _
  have hval : ∀ (j : Nat) t v, Try.f4.params[j]? = some t → args[j]? = some v → Value.okWide Try.prog W .any base t v := hval0
  have hW' := hW
  obtain ⟨p, q, hA0, hV, rfl, hfz, hnd⟩ := hW
  have hA : DataW.TrodAll enc Try.prog W 0 (fun _ => true) true Try.f4.params.toList args.toList ds p := hA0
  rw [Try.params4] at hA hval
  obtain ⟨v0, vs0, d0, ds0, p0, q0, hargs, rfl, rfl, h0, r0⟩ := trodAll_cons hA
  obtain ⟨v1, vs1, d1, ds1, p1, q1, rfl, rfl, rfl, h1, r1⟩ := trodAll_cons r0
  obtain ⟨rfl, rfl, rfl⟩ := trodAll_nil r1
  obtain rfl : args = #[v0, v1] := by cases args; simp_all
  obtain ⟨rfl, rfl⟩ := trodVars_none hV
  have hz0 : Light Try.prog 26 d0 := light_of hsz0 (j := 0) (by first | rfl | (rw [Try.params4]; rfl)) rfl
  have k0 := h0
  have lt0 : ∀ x ∈ p0, x.block < W.heap.size := by obtain ⟨m, hm⟩ := k0; exact DataW.trod_lt m _ _ _ hm
  obtain ⟨cs0, rfl, _⟩ := okWide_struct Try.underlying26 (hval 0 26 v0 rfl rfl)
  obtain ⟨lLastKind, lLastLane, lLastSeq, lLastWordsa, lLastWordsn, lLastWordsc, lLastWords, lHeard, lAge, lBad, e0, h_lLastKind, h_lLastLane, h_lLastSeq, h_lLastWords, h_lAge, h_lBad⟩ := (by obtain ⟨fuel, hf⟩ := h0; exact open26 hf hz0 : ∃ lLastKind : Int, ∃ lLastLane : Int, ∃ lLastSeq : Int, ∃ (lLastWordsa : Option Addr) (lLastWordsn lLastWordsc : Nat) (lLastWords : Nat → Int), ∃ lHeard : Bool, ∃ lAge : Int, ∃ lBad : Int, cs0.toList = [.int .i64 lLastKind, .int .i64 lLastLane, .int .u8 lLastSeq, .slice lLastWordsa lLastWordsn lLastWordsc, .bool lHeard, .int .i64 lAge, .int .i64 lBad] ∧ (Lit.int .i64 lLastKind).wf = true ∧ (Lit.int .i64 lLastLane).wf = true ∧ (Lit.int .u8 lLastSeq).wf = true ∧ RowZ .i32 4 W lLastWordsa lLastWordsn lLastWordsc lLastWords ∧ (Lit.int .i64 lAge).wf = true ∧ (Lit.int .i64 lBad).wf = true)
  obtain rfl : cs0 = #[.int .i64 lLastKind, .int .i64 lLastLane, .int .u8 lLastSeq, .slice lLastWordsa lLastWordsn lLastWordsc, .bool lHeard, .int .i64 lAge, .int .i64 lBad] := by cases cs0; simp_all
  clear e0
  have hz1 : Light Try.prog 9 d1 := light_of hsz0 (j := 1) (by first | rfl | (rw [Try.params4]; rfl)) rfl
  have k1 := h1
  have lt1 : ∀ x ∈ p1, x.block < W.heap.size := by obtain ⟨m, hm⟩ := k1; exact DataW.trod_lt m _ _ _ hm
  obtain ⟨s, rfl, rfl, rfl, h_s⟩ := Go.ChangeMaps.open_string Try.underlying9 (hval 1 9 v1 rfl rfl) h1
  replace h_s : s.size ≤ 140737488351232 := light_string hz1
  clear hA0 hval0
  refine (walk lLastKind lLastLane lLastSeq lLastWordsa lLastWordsn lLastWordsc lLastWords lHeard lAge lBad s W h_lLastKind h_lLastLane h_lLastSeq h_lLastWords h_lAge h_lBad h_s).mono fun e W' ⟨he, bel⟩ => ?_
  subst he
  exact ⟨_, rfl, _, _, _, [], _, [], hW', trodAll_mk1 (shut_bool Try.underlying4 _), (trodAll_cons_mk (Below.trod laidOut (by kernel_rfl) (of_decide_eq_true (by kernel_rfl)) k0 bel lt0) (trodAll_cons_mk (Below.trod laidOut (by kernel_rfl) (of_decide_eq_true (by kernel_rfl)) k1 bel lt1) trodAll_mk0)), rfl, bel.frame _, fun h => by cases h⟩

theorem over : Rows.linkHoldsRow.holds Try.pinned (OpenSpec.ofChange Rows.linkHoldsSpec) :=
  OpenClaim.holds_of_wide 4 Try.f4 rfl rfl rfl rfl rfl rfl rfl ⟨rfl, rfl, rfl, rfl, rfl⟩ rfl rfl rfl rfl rfl (by kernel_rfl) Try.func4 (by kernel_rfl)
    (of_decide_eq_true (by kernel_rfl)) (by unfold Func.isWrapper; first | (rw [if_pos (by decide +kernel)]; kernel_rfl) | (rw [if_neg (by decide +kernel)]; exact ⟨rfl, rfl⟩))
    (fun os started H enc _ => lifted os started H enc)


end Go.Proofs.Ytiaolelkabbnmaa.linkHolds
namespace Go.Proofs.Ytiaolelkabbnmaa
/-- THE STATEMENT -/
theorem linkHolds_holds : Rows.LinkHoldsSaid := linkHolds.over
#print axioms linkHolds_holds
end Go.Proofs.Ytiaolelkabbnmaa
