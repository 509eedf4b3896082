/-
  Whatever is handed in, the law LinkOwn returns true: words that are handed in stay, with the memory behind them; what is told is new memory. No condition.
-/
import Derived.Test.YtiaolelkabbnmaaLnkKeep
import Derived.ProofKit
import Derived.Deep.RegionHeld3
import Derived.Deep.DeepCutAuto
namespace Go.Proofs.Ytiaolelkabbnmaa.linkOwn
open Go.ChangeShapes Go.WideShapes Go.ChangeAt Go.RowKit
set_option linter.unusedVariables false

theorem own : ownKnob Try.prog.godebug = none := by kernel_rfl
theorem laidOut : laidOutB Try.prog = true := by kernel_rfl

theorem list4 {l : List Value} (h : l.length = 4) : ∃ c0 c1 c2 c3, l = [c0, c1, c2, c3] := by
  match l, h with
  | [c0, c1, c2, c3], _ => exact ⟨c0, c1, c2, c3, rfl⟩

theorem list7 {l : List Value} (h : l.length = 7) : ∃ c0 c1 c2 c3 c4 c5 c6, l = [c0, c1, c2, c3, c4, c5, c6] := by
  match l, h with
  | [c0, c1, c2, c3, c4, c5, c6], _ => exact ⟨c0, c1, c2, c3, c4, c5, c6, rfl⟩

theorem open24 {H : Type} {enc : TypeId × Value → H} {w : World} {base : Nat} {spare : Nat → Bool} {held : Bool} {fuel : Nat} {cs : List Value} {x : DataW H × List MemPlace} (h : DataW.trod enc Try.prog w base spare held fuel 24 cs = some x) (hz : Light Try.prog 24 x.1) :
    ∃ vKind : Int, ∃ vLane : Int, ∃ vSeq : Int, ∃ (vWordsa : Option Addr) (vWordsn vWordsc : Nat) (vWords : Nat → Int), cs = [.int .i64 vKind, .int .i64 vLane, .int .u8 vSeq, .slice vWordsa vWordsn vWordsc] ∧ (Lit.int .i64 vKind).wf = true ∧ (Lit.int .i64 vLane).wf = true ∧ (Lit.int .u8 vSeq).wf = true ∧ RowZ .i32 4 w vWordsa vWordsn vWordsc vWords := by
  obtain ⟨hl, hf⟩ := trod_field_z Try.underlying24 h hz
  rw [show Try.prog.cellsOf 24 = 4 from by kernel_rfl] at hl
  obtain ⟨c0, c1, c2, c3, rfl⟩ := list4 hl
  obtain ⟨n0, y0, h0, z0⟩ := hf 0 _ rfl
  replace h0 : DataW.trod enc Try.prog w base spare held n0 3 (([c0, c1, c2, c3] : List Value).drop 0 |>.take (Try.prog.cellsOf 3)) = some y0 := h0
  rw [show Try.prog.cellsOf 3 = 1 from by kernel_rfl] at h0
  replace h0 : DataW.trod enc Try.prog w base spare held n0 3 [c0] = some y0 := h0
  obtain ⟨n1, y1, h1, z1⟩ := hf 1 _ rfl
  replace h1 : DataW.trod enc Try.prog w base spare held n1 3 (([c0, c1, c2, c3] : List Value).drop 1 |>.take (Try.prog.cellsOf 3)) = some y1 := h1
  rw [show Try.prog.cellsOf 3 = 1 from by kernel_rfl] at h1
  replace h1 : DataW.trod enc Try.prog w base spare held n1 3 [c1] = some y1 := h1
  obtain ⟨n2, y2, h2, z2⟩ := hf 2 _ rfl
  replace h2 : DataW.trod enc Try.prog w base spare held n2 5 (([c0, c1, c2, c3] : List Value).drop 2 |>.take (Try.prog.cellsOf 5)) = some y2 := h2
  rw [show Try.prog.cellsOf 5 = 1 from by kernel_rfl] at h2
  replace h2 : DataW.trod enc Try.prog w base spare held n2 5 [c2] = some y2 := h2
  obtain ⟨n3, y3, h3, z3⟩ := hf 3 _ rfl
  replace h3 : DataW.trod enc Try.prog w base spare held n3 22 (([c0, c1, c2, c3] : List Value).drop 3 |>.take (Try.prog.cellsOf 22)) = some y3 := h3
  rw [show Try.prog.cellsOf 22 = 1 from by kernel_rfl] at h3
  replace h3 : DataW.trod enc Try.prog w base spare held n3 22 [c3] = some y3 := h3
  obtain ⟨x0, e0, _, f0_0⟩ := DataW.trod_int Try.underlying3 h0
  simp only [List.cons.injEq, and_true] at e0
  obtain rfl := e0
  obtain ⟨x1, e1, _, f1_0⟩ := DataW.trod_int Try.underlying3 h1
  simp only [List.cons.injEq, and_true] at e1
  obtain rfl := e1
  obtain ⟨x2, e2, _, f2_0⟩ := DataW.trod_int Try.underlying5 h2
  simp only [List.cons.injEq, and_true] at e2
  obtain rfl := e2
  obtain ⟨x3a, x3n, x3c, x3, e3, f3_0⟩ := rowZ_of Try.underlying22 Try.underlying21 (by kernel_rfl) (by kernel_rfl) h3 z3
  simp only [List.cons.injEq, and_true] at e3
  obtain rfl := e3
  exact ⟨x0, x1, x2, x3a, x3n, x3c, x3, rfl, f0_0, f1_0, f2_0, f3_0⟩

theorem open26 {H : Type} {enc : TypeId × Value → H} {w : World} {base : Nat} {spare : Nat → Bool} {held : Bool} {fuel : Nat} {cs : List Value} {x : DataW H × List MemPlace} (h : DataW.trod enc Try.prog w base spare held fuel 26 cs = some x) (hz : Light Try.prog 26 x.1) :
    ∃ vLastKind : Int, ∃ vLastLane : Int, ∃ vLastSeq : Int, ∃ (vLastWordsa : Option Addr) (vLastWordsn vLastWordsc : Nat) (vLastWords : Nat → Int), ∃ vHeard : Bool, ∃ vAge : Int, ∃ vBad : Int, cs = [.int .i64 vLastKind, .int .i64 vLastLane, .int .u8 vLastSeq, .slice vLastWordsa vLastWordsn vLastWordsc, .bool vHeard, .int .i64 vAge, .int .i64 vBad] ∧ (Lit.int .i64 vLastKind).wf = true ∧ (Lit.int .i64 vLastLane).wf = true ∧ (Lit.int .u8 vLastSeq).wf = true ∧ RowZ .i32 4 w vLastWordsa vLastWordsn vLastWordsc vLastWords ∧ (Lit.int .i64 vAge).wf = true ∧ (Lit.int .i64 vBad).wf = true := by
  obtain ⟨hl, hf⟩ := trod_field_z Try.underlying26 h hz
  rw [show Try.prog.cellsOf 26 = 7 from by kernel_rfl] at hl
  obtain ⟨c0, c1, c2, c3, c4, c5, c6, rfl⟩ := list7 hl
  obtain ⟨n0, y0, h0, z0⟩ := hf 0 _ rfl
  replace h0 : DataW.trod enc Try.prog w base spare held n0 24 (([c0, c1, c2, c3, c4, c5, c6] : List Value).drop 0 |>.take (Try.prog.cellsOf 24)) = some y0 := h0
  rw [show Try.prog.cellsOf 24 = 4 from by kernel_rfl] at h0
  replace h0 : DataW.trod enc Try.prog w base spare held n0 24 [c0, c1, c2, c3] = some y0 := h0
  obtain ⟨n1, y1, h1, z1⟩ := hf 1 _ rfl
  replace h1 : DataW.trod enc Try.prog w base spare held n1 4 (([c0, c1, c2, c3, c4, c5, c6] : List Value).drop 4 |>.take (Try.prog.cellsOf 4)) = some y1 := h1
  rw [show Try.prog.cellsOf 4 = 1 from by kernel_rfl] at h1
  replace h1 : DataW.trod enc Try.prog w base spare held n1 4 [c4] = some y1 := h1
  obtain ⟨n2, y2, h2, z2⟩ := hf 2 _ rfl
  replace h2 : DataW.trod enc Try.prog w base spare held n2 3 (([c0, c1, c2, c3, c4, c5, c6] : List Value).drop 5 |>.take (Try.prog.cellsOf 3)) = some y2 := h2
  rw [show Try.prog.cellsOf 3 = 1 from by kernel_rfl] at h2
  replace h2 : DataW.trod enc Try.prog w base spare held n2 3 [c5] = some y2 := h2
  obtain ⟨n3, y3, h3, z3⟩ := hf 3 _ rfl
  replace h3 : DataW.trod enc Try.prog w base spare held n3 3 (([c0, c1, c2, c3, c4, c5, c6] : List Value).drop 6 |>.take (Try.prog.cellsOf 3)) = some y3 := h3
  rw [show Try.prog.cellsOf 3 = 1 from by kernel_rfl] at h3
  replace h3 : DataW.trod enc Try.prog w base spare held n3 3 [c6] = some y3 := h3
  obtain ⟨x0Kind, x0Lane, x0Seq, x0Wordsa, x0Wordsn, x0Wordsc, x0Words, e0, f0_0, f0_1, f0_2, f0_3⟩ := open24 h0 z0
  simp only [List.cons.injEq, and_true] at e0
  obtain ⟨rfl, rfl, rfl, rfl⟩ := e0
  obtain ⟨x1, e1, _⟩ := DataW.trod_bool Try.underlying4 h1
  simp only [List.cons.injEq, and_true] at e1
  obtain rfl := e1
  obtain ⟨x2, e2, _, f2_0⟩ := DataW.trod_int Try.underlying3 h2
  simp only [List.cons.injEq, and_true] at e2
  obtain rfl := e2
  obtain ⟨x3, e3, _, f3_0⟩ := DataW.trod_int Try.underlying3 h3
  simp only [List.cons.injEq, and_true] at e3
  obtain rfl := e3
  exact ⟨x0Kind, x0Lane, x0Seq, x0Wordsa, x0Wordsn, x0Wordsc, x0Words, x1, x2, x3, rfl, f0_0, f0_1, f0_2, f0_3, f2_0, f3_0⟩


set_option maxHeartbeats 8000000 in
set_option maxRecDepth 100000 in
theorem walk (xKind : Int) (xLane : Int) (xSeq : Int) (xWordsa : Option Addr) (xWordsn xWordsc : Nat) (xWords : Nat → Int) (lLastKind : Int) (lLastLane : Int) (lLastSeq : Int) (lLastWordsa : Option Addr) (lLastWordsn lLastWordsc : Nat) (lLastWords : Nat → Int) (lHeard : Bool) (lAge : Int) (lBad : Int) (s : ByteArray) (w : World) (h_xKind : (Lit.int .i64 xKind).wf = true) (h_xLane : (Lit.int .i64 xLane).wf = true) (h_xSeq : (Lit.int .u8 xSeq).wf = true) (h_xWords : RowZ .i32 4 w xWordsa xWordsn xWordsc xWords) (h_lLastKind : (Lit.int .i64 lLastKind).wf = true) (h_lLastLane : (Lit.int .i64 lLastLane).wf = true) (h_lLastSeq : (Lit.int .u8 lLastSeq).wf = true) (h_lLastWords : RowZ .i32 4 w lLastWordsa lLastWordsn lLastWordsc lLastWords) (h_lAge : (Lit.int .i64 lAge).wf = true) (h_lBad : (Lit.int .i64 lBad).wf = true) (h_s : s.size ≤ 140737488351232) :
    Calls Try.prog 7 #[.agg #[.int .i64 xKind, .int .i64 xLane, .int .u8 xSeq, .slice xWordsa xWordsn xWordsc], .agg #[.int .i64 lLastKind, .int .i64 lLastLane, .int .u8 lLastSeq, .slice lLastWordsa lLastWordsn lLastWordsc, .bool lHeard, .int .i64 lAge, .int .i64 lBad], .string s] w fun e w' => e = .returned (.bool true) ∧ Below w.heap.size w w' := by
  have HSQ : Hid (0 ≤ xSeq ∧ xSeq < 256) := u8_of h_xSeq
  have ZX : Hid (RowZ .i32 4 w xWordsa xWordsn xWordsc xWords) := h_xWords
  have ZL : Hid (RowZ .i32 4 w lLastWordsa lLastWordsn lLastWordsc lLastWords) := h_lLastWords
  have HS : Hid (s.size ≤ 140737488351232) := h_s
  clear h_xKind h_xLane h_xSeq h_xWords h_lLastKind h_lLastLane h_lLastSeq h_lLastWords h_lAge h_lBad h_s
  generalize xKind = xK at *
  generalize xLane = xL at *
  generalize xSeq = xS at *
  generalize xWordsa = xa at *
  generalize xWordsn = xn at *
  generalize xWordsc = xc at *
  generalize xWords = xl at *
  generalize lLastKind = K at *
  generalize lLastLane = L at *
  generalize lLastSeq = S at *
  generalize lLastWordsa = a at *
  generalize lLastWordsn = n at *
  generalize lLastWordsc = c at *
  generalize lLastWords = l at *
  generalize lHeard = h at *
  generalize lAge = A at *
  generalize lBad = B at *
  have C0 : Hid (∀ W, Calls Try.prog 20 #[.agg #[.int .i64 1, .int .i64 0, .int .u8 0, .slice none 0 0]] W fun e w' => e = .returned (.tuple #[.string (pkT ⟨1, 0, 0, 0, fun _ => 0⟩), .int .i64 0]) ∧ Below W.heap.size W w') := fun W => pack_any ⟨1, 0, 0, 0, fun _ => 0⟩ none 0 W (by decide) (by decide) (wds_zero _ _ _)
  have z5 : (pkT ⟨1, 0, 0, 0, fun _ => 0⟩).size = 5 := by unfold pkT; rw [if_pos (by decide), put_size, frT_size]; rfl
  generalize pkT ⟨1, 0, 0, 0, fun _ => 0⟩ = T0 at C0 z5
  have S0 : Hid (O1 w [.int .i64 xK, .int .i64 xL, .int .u8 xS, .slice xa xn xc] [.int .i64 K, .int .i64 L, .int .u8 S, .slice a n c, .bool h, .int .i64 A, .int .i64 B] _) := o1_new w #[.int .i64 xK, .int .i64 xL, .int .u8 xS, .slice xa xn xc] #[.int .i64 K, .int .i64 L, .int .u8 S, .slice a n c, .bool h, .int .i64 A, .int .i64 B] 24 26
  go_enter Try.func7, Try.ntmps7
  go_wp2_with fail
  refine (C0.out _).mono ?_
  rintro e w1 ⟨rfl, hb⟩
  have S1 : Hid (O1 w [.int .i64 xK, .int .i64 xL, .int .u8 xS, .slice xa xn xc] [.int .i64 K, .int .i64 L, .int .u8 S, .slice a n c, .bool h, .int .i64 A, .int .i64 B] w1) := S0.out.step hb
  clear hb S0 C0
  go_upto_region 4 with (fail)
  obtain ⟨lx, x0, x1, x2, x3⟩ := frame_cells S1.out.bx
  obtain ⟨ly, y0, y1, y2, y3, y4, y5, y6⟩ := link_cells S1.out.bl
  go_cut [9, 10] (fun s9 s10 wc => ∃ (p q : Nat), s9 = .pointer (some ⟨p, 0, none⟩) ∧ s10 = .pointer (some ⟨q, 0, none⟩) ∧ Hid (O2 w [.int .i64 xK, .int .i64 xL, .int .u8 xS, .slice xa xn xc] [.int .i64 K, .int .i64 L, .int .u8 S, .slice a n c, .bool h, .int .i64 A, .int .i64 B] p q [.int .i64 K, .int .i64 L, .int .u8 S, .slice a n c, .bool h, .int .i64 A, .int .i64 B] [.int .i64 xK, .int .i64 xL, .int .u8 xS, .slice xa xn xc] wc))
  case first =>
    go_region
    all_goals (try go_wp2)
    all_goals go_meet
    · exact ⟨_, _, rfl, rfl, (o2_lx S1.out).step (Below.refl _ _).drew⟩
    · exact ⟨_, _, rfl, rfl, (o2_xl S1.out).step (Below.refl _ _).drew⟩
  case rest =>
    obtain ⟨p, q, rfl, rfl, S2⟩ := hcut
    clear lx x0 x1 x2 x3 ly y0 y1 y2 y3 y4 y5 y6 S1
    have AA : ∀ (a1 : Option Addr) (n1 c1 : Nat) (l1 : Nat → Int), Hid (RowZ .i32 4 w a1 n1 c1 l1) → ∀ W, Hid (O2 w [.int .i64 xK, .int .i64 xL, .int .u8 xS, .slice xa xn xc] [.int .i64 K, .int .i64 L, .int .u8 S, .slice a n c, .bool h, .int .i64 A, .int .i64 B] p q [.int .i64 K, .int .i64 L, .int .u8 S, .slice a n c, .bool h, .int .i64 A, .int .i64 B] [.int .i64 xK, .int .i64 xL, .int .u8 xS, .slice xa xn xc] W) → Calls Try.prog 22 #[.slice a1 n1 c1, .int .i32 77] W fun e w' => ∃ g cap, e = .returned (.slice (some ⟨g, 0, none⟩) n1 cap) ∧ Hid (Ample W.heap.size w' g cap n1 l1 77 ∧ Below W.heap.size W w') ∧ Hid (O2 w [.int .i64 xK, .int .i64 xL, .int .u8 xS, .slice xa xn xc] [.int .i64 K, .int .i64 L, .int .u8 S, .slice a n c, .bool h, .int .i64 A, .int .i64 B] p q [.int .i64 K, .int .i64 L, .int .u8 S, .slice a n c, .bool h, .int .i64 A, .int .i64 B] [.int .i64 xK, .int .i64 xL, .int .u8 xS, .slice xa xn xc] w') := fun a1 n1 c1 l1 hz W hW => by
      refine (ample_any a1 n1 c1 l1 77 W (RowZ.below hz.out hW.out.o1.bel)).mono ?_
      rintro e w' ⟨g, cap, h1, h2, h3⟩
      exact ⟨g, cap, h1, ⟨h2, h3⟩, hW.out.step h3⟩
    go_upto_region 5 with (fail)
    go_cut [9] (fun s9 wc => ∃ (gL cL gX cX : Nat), s9 = .pointer (some ⟨p, 0, none⟩) ∧ Hid (O3 w [.int .i64 xK, .int .i64 xL, .int .u8 xS, .slice xa xn xc] [.int .i64 K, .int .i64 L, .int .u8 S, .slice a n c, .bool h, .int .i64 A, .int .i64 B] p q [.int .i64 K, .int .i64 L, .int .u8 S, .slice (some ⟨gL, 0, none⟩) n cL, .bool h, .int .i64 A, .int .i64 B] [.int .i64 xK, .int .i64 xL, .int .u8 xS, .slice (some ⟨gX, 0, none⟩) xn cX] gL cL n gX cX xn l xl wc))
    case first =>
      go_region_held3 (fun w' => w'.cell? ⟨w.heap.size, 3, none⟩ = some (.slice xa xn xc) ∧ w'.cell? ⟨w.heap.size + 1, 3, none⟩ = some (.slice a n c)) (first | exact ⟨SB.out.o1.bx.cell 3 _ rfl, SB.out.o1.bl.cell 3 _ rfl⟩ | exact ⟨SA.out.o1.bx.cell 3 _ rfl, SA.out.o1.bl.cell 3 _ rfl⟩ | exact ⟨S2.out.o1.bx.cell 3 _ rfl, S2.out.o1.bl.cell 3 _ rfl⟩ | exact ⟨(SB.out.o1.store SB.out.gp _).bx.cell 3 _ rfl, (SB.out.o1.store SB.out.gp _).bl.cell 3 _ rfl⟩ | exact ⟨((SB.out.o1.store SB.out.gp _).store SB.out.gq _).bx.cell 3 _ rfl, ((SB.out.o1.store SB.out.gp _).store SB.out.gq _).bl.cell 3 _ rfl⟩ | go_keep)
        (first | (go_at_call 22; refine (AA _ _ _ _ (by exact ZX) _ (by first | exact SA)).mono ?_; rintro e wB ⟨gB, cB, rfl, HB, SB⟩; have pc := SB.out.bp.cell 3 _ rfl; have pf := SB.out.bp.froz 3 _ rfl; have qc := SB.out.bq.cell 3 _ rfl; have qf := SB.out.bq.froz 3 _ rfl; have ne := SB.out.ne; have ne' := SB.out.ne.symm) | (go_at_call 22; refine (AA _ _ _ _ (by exact ZL) _ (by first | exact S2.out.step (Below.refl _ _).drew)).mono ?_; rintro e wA ⟨gA, cA, rfl, HA, SA⟩))
      all_goals (try go_wp2)
      all_goals go_meet
      exact ⟨gA, cA, gB, cB, rfl, o3_of (S2.out.step (Below.refl _ _).drew) HA.out.1 HA.out.2 HB.out.1 HB.out.2 (by simp) (by simp) _ _⟩
    case rest =>
      obtain ⟨gL, cL, gX, cX, rfl, S3⟩ := hcut
      clear S2 AA
      have CP : Hid (∀ W, Wds W (some ⟨gX, 0, none⟩) xn xl → Calls Try.prog 20 #[.agg #[.int .i64 xK, .int .i64 xL, .int .u8 xS, .slice (some ⟨gX, 0, none⟩) xn cX]] W fun e w' => ∃ (T : ByteArray) (E : Int), e = .returned (.tuple #[.string T, .int .i64 E]) ∧ Below W.heap.size W w') := fun W hW => (pack_any ⟨xK, xL, xS, xn, xl⟩ (some ⟨gX, 0, none⟩) cX W HSQ.out.1 HSQ.out.2 hW).mono (by rintro e w' ⟨h1, h2⟩; exact ⟨_, _, h1, h2⟩)
      have CH : Hid (∀ W, Wds W (some ⟨gL, 0, none⟩) n l → Calls Try.prog 9 #[.agg #[.int .i64 K, .int .i64 L, .int .u8 S, .slice (some ⟨gL, 0, none⟩) n cL, .bool h, .int .i64 A, .int .i64 B], .string s] W fun e w' => ∃ a' c', e = .returned (.tuple #[.agg #[.int .i64 (hrL ⟨⟨K, L, S, n, l⟩, h, A, B⟩ s).F.K, .int .i64 (hrL ⟨⟨K, L, S, n, l⟩, h, A, B⟩ s).F.L, .int .u8 (hrL ⟨⟨K, L, S, n, l⟩, h, A, B⟩ s).F.S, .slice a' (hrL ⟨⟨K, L, S, n, l⟩, h, A, B⟩ s).F.n c', .bool (hrL ⟨⟨K, L, S, n, l⟩, h, A, B⟩ s).h, .int .i64 (hrL ⟨⟨K, L, S, n, l⟩, h, A, B⟩ s).A, .int .i64 (hrL ⟨⟨K, L, S, n, l⟩, h, A, B⟩ s).B], .int .i64 (hrE ⟨⟨K, L, S, n, l⟩, h, A, B⟩ s)]) ∧ Wds w' a' (hrL ⟨⟨K, L, S, n, l⟩, h, A, B⟩ s).F.n (hrL ⟨⟨K, L, S, n, l⟩, h, A, B⟩ s).F.l ∧ (∀ x, a' = some x → W.heap.size ≤ x.block) ∧ Below W.heap.size W w') := fun W hW => hear_any ⟨⟨K, L, S, n, l⟩, h, A, B⟩ (some ⟨gL, 0, none⟩) cL s W hW HS.out
      have CT : Hid (∀ W, Wds W (some ⟨gL, 0, none⟩) n l → Calls Try.prog 10 #[.agg #[.int .i64 K, .int .i64 L, .int .u8 S, .slice (some ⟨gL, 0, none⟩) n cL, .bool h, .int .i64 A, .int .i64 B]] W fun e w' => ∃ a' c', e = .returned (.tuple #[.agg #[.int .i64 (tkL ⟨⟨K, L, S, n, l⟩, h, A, B⟩).F.K, .int .i64 (tkL ⟨⟨K, L, S, n, l⟩, h, A, B⟩).F.L, .int .u8 (tkL ⟨⟨K, L, S, n, l⟩, h, A, B⟩).F.S, .slice a' (tkL ⟨⟨K, L, S, n, l⟩, h, A, B⟩).F.n c', .bool (tkL ⟨⟨K, L, S, n, l⟩, h, A, B⟩).h, .int .i64 (tkL ⟨⟨K, L, S, n, l⟩, h, A, B⟩).A, .int .i64 (tkL ⟨⟨K, L, S, n, l⟩, h, A, B⟩).B], .int .i64 (lkErr ⟨⟨K, L, S, n, l⟩, h, A, B⟩)]) ∧ Wds w' a' (tkL ⟨⟨K, L, S, n, l⟩, h, A, B⟩).F.n (tkL ⟨⟨K, L, S, n, l⟩, h, A, B⟩).F.l ∧ (∀ x, a' = some x → W.heap.size ≤ x.block) ∧ Below W.heap.size W w') := fun W hW => tick_any ⟨⟨K, L, S, n, l⟩, h, A, B⟩ (some ⟨gL, 0, none⟩) cL W hW
      have CW : Hid (∀ W, Wds W (some ⟨gL, 0, none⟩) n l → Calls Try.prog 11 #[.agg #[.int .i64 K, .int .i64 L, .int .u8 S, .slice (some ⟨gL, 0, none⟩) n cL, .bool h, .int .i64 A, .int .i64 B], .int .i64 100] W fun e w' => ∃ a' c', e = .returned (.tuple #[.slice a' (wdN ⟨⟨K, L, S, n, l⟩, h, A, B⟩ 100) c', .int .i64 (wdE ⟨⟨K, L, S, n, l⟩, h, A, B⟩ 100)]) ∧ Wds w' a' (wdN ⟨⟨K, L, S, n, l⟩, h, A, B⟩ 100) l ∧ (∀ x, a' = some x → W.heap.size ≤ x.block) ∧ Below W.heap.size W w') := fun W hW => words_all ⟨⟨K, L, S, n, l⟩, h, A, B⟩ (some ⟨gL, 0, none⟩) cL 100 W hW
      have N1 : Hid ((hrL ⟨⟨K, L, S, n, l⟩, h, A, B⟩ s).F.n ≤ 1048576) := hr_n8 _ _
      have N2 : Hid ((tkL ⟨⟨K, L, S, n, l⟩, h, A, B⟩).F.n ≤ 1048576) := tk_n8 _
      have N3 : Hid (wdN ⟨⟨K, L, S, n, l⟩, h, A, B⟩ 100 ≤ 1048576) := wd_n8 _ _
      generalize hrL ⟨⟨K, L, S, n, l⟩, h, A, B⟩ s = y at *
      generalize hrE ⟨⟨K, L, S, n, l⟩, h, A, B⟩ s = G at *
      generalize tkL ⟨⟨K, L, S, n, l⟩, h, A, B⟩ = t at *
      generalize lkErr ⟨⟨K, L, S, n, l⟩, h, A, B⟩ = E at *
      generalize wdE ⟨⟨K, L, S, n, l⟩, h, A, B⟩ 100 = D at *
      generalize wdN ⟨⟨K, L, S, n, l⟩, h, A, B⟩ 100 = dn at *
      obtain ⟨⟨yK, yL, yS, yn, yl⟩, yh, yA, yB⟩ := y
      obtain ⟨⟨tK, tL, tS, tn, tl⟩, th, tA, tB⟩ := t
      simp only at CH CT N1 N2
      obtain ⟨lq, q0, q1, q2, q3⟩ := frame_cells S3.out.o2.bq
      go_wp2_with fail
      clear lq q0 q1 q2 q3
      refine (CP.out _ (ample_wds S3.out.aX)).mono ?_
      rintro e w2 ⟨T2, E2, rfl, hb⟩
      have S4 : Hid (O3 w [.int .i64 xK, .int .i64 xL, .int .u8 xS, .slice xa xn xc] [.int .i64 K, .int .i64 L, .int .u8 S, .slice a n c, .bool h, .int .i64 A, .int .i64 B] p q [.int .i64 K, .int .i64 L, .int .u8 S, .slice (some ⟨gL, 0, none⟩) n cL, .bool h, .int .i64 A, .int .i64 B] [.int .i64 xK, .int .i64 xL, .int .u8 xS, .slice (some ⟨gX, 0, none⟩) xn cX] gL cL n gX cX xn l xl w2) := S3.out.step hb
      clear hb S3 CP
      obtain ⟨lp, p0, p1, p2, p3, p4, p5, p6⟩ := link_cells S4.out.o2.bp
      go_wp2_with fail
      clear lp p0 p1 p2 p3 p4 p5 p6
      refine (CH.out _ (ample_wds S4.out.aL)).mono ?_
      rintro e w3 ⟨ya, yc, rfl, hy, hn, hb⟩
      have FY : Hid (Off ya gL ∧ w3.heap.size ≠ gL) := ⟨off_new hn (ample_lt S4.out.aL).2, by have := (ample_lt S4.out.aL).2; have := hb.size; omega⟩
      have S5 : Hid (O3 w [.int .i64 xK, .int .i64 xL, .int .u8 xS, .slice xa xn xc] [.int .i64 K, .int .i64 L, .int .u8 S, .slice a n c, .bool h, .int .i64 A, .int .i64 B] p q [.int .i64 K, .int .i64 L, .int .u8 S, .slice (some ⟨gL, 0, none⟩) n cL, .bool h, .int .i64 A, .int .i64 B] [.int .i64 xK, .int .i64 xL, .int .u8 xS, .slice (some ⟨gX, 0, none⟩) xn cX] gL cL n gX cX xn l xl (w3.alloc (.cells #[.int .i64 yK, .int .i64 yL, .int .u8 yS, .slice ya yn yc, .bool yh, .int .i64 yA, .int .i64 yB] 26))) := (S4.out.step hb).step (alloc_step w3 _)
      have Y5 : Hid (Kb (w3.alloc (.cells #[.int .i64 yK, .int .i64 yL, .int .u8 yS, .slice ya yn yc, .bool yh, .int .i64 yA, .int .i64 yB] 26)) w3.heap.size yK yL yS yn yl yh yA yB ya yc) := kb_new hy
      clear hy hn hb S4 CH
      go_upto_region 8 with (fail)
      generalize w3.alloc (.cells #[.int .i64 yK, .int .i64 yL, .int .u8 yS, .slice ya yn yc, .bool yh, .int .i64 yA, .int .i64 yB] 26) = w4 at S5 Y5 ⊢
      generalize w3.heap.size = b3 at Y5 FY ⊢
      obtain ⟨lp, p0, p1, p2, p3, p4, p5, p6⟩ := link_cells S5.out.o2.bp
      go_wp2_with fail
      clear lp p0 p1 p2 p3 p4 p5 p6
      refine (CT.out _ (ample_wds S5.out.aL)).mono ?_
      rintro e w5 ⟨ta, tc, rfl, ht, hn, hb⟩
      have FT : Hid (Off ta gL ∧ w5.heap.size ≠ gL) := ⟨off_new hn (ample_lt S5.out.aL).2, by have := (ample_lt S5.out.aL).2; have := hb.size; omega⟩
      have S6 : Hid (O3 w [.int .i64 xK, .int .i64 xL, .int .u8 xS, .slice xa xn xc] [.int .i64 K, .int .i64 L, .int .u8 S, .slice a n c, .bool h, .int .i64 A, .int .i64 B] p q [.int .i64 K, .int .i64 L, .int .u8 S, .slice (some ⟨gL, 0, none⟩) n cL, .bool h, .int .i64 A, .int .i64 B] [.int .i64 xK, .int .i64 xL, .int .u8 xS, .slice (some ⟨gX, 0, none⟩) xn cX] gL cL n gX cX xn l xl (w5.alloc (.cells #[.int .i64 tK, .int .i64 tL, .int .u8 tS, .slice ta tn tc, .bool th, .int .i64 tA, .int .i64 tB] 26))) := (S5.out.step hb).step (alloc_step w5 _)
      have Y6 : Hid (Kb (w5.alloc (.cells #[.int .i64 tK, .int .i64 tL, .int .u8 tS, .slice ta tn tc, .bool th, .int .i64 tA, .int .i64 tB] 26)) b3 yK yL yS yn yl yh yA yB ya yc) := (Y5.out.step hb).step (alloc_step w5 _)
      have T6 : Hid (Kb (w5.alloc (.cells #[.int .i64 tK, .int .i64 tL, .int .u8 tS, .slice ta tn tc, .bool th, .int .i64 tA, .int .i64 tB] 26)) w5.heap.size tK tL tS tn tl th tA tB ta tc) := kb_new ht
      clear ht hn hb S5 Y5 CT
      go_upto_region 9 with (fail)
      generalize w5.alloc (.cells #[.int .i64 tK, .int .i64 tL, .int .u8 tS, .slice ta tn tc, .bool th, .int .i64 tA, .int .i64 tB] 26) = w6 at S6 Y6 T6 ⊢
      generalize w5.heap.size = b5 at T6 FT ⊢
      obtain ⟨lp, p0, p1, p2, p3, p4, p5, p6⟩ := link_cells S6.out.o2.bp
      go_wp2_with fail
      clear lp p0 p1 p2 p3 p4 p5 p6
      refine (CW.out _ (ample_wds S6.out.aL)).mono ?_
      rintro e w7 ⟨da, dc, rfl, hd, hn, hb⟩
      have FD : Hid (Off da gL) := off_new hn (ample_lt S6.out.aL).2
      have S7 : Hid (O3 w [.int .i64 xK, .int .i64 xL, .int .u8 xS, .slice xa xn xc] [.int .i64 K, .int .i64 L, .int .u8 S, .slice a n c, .bool h, .int .i64 A, .int .i64 B] p q [.int .i64 K, .int .i64 L, .int .u8 S, .slice (some ⟨gL, 0, none⟩) n cL, .bool h, .int .i64 A, .int .i64 B] [.int .i64 xK, .int .i64 xL, .int .u8 xS, .slice (some ⟨gX, 0, none⟩) xn cX] gL cL n gX cX xn l xl w7) := S6.out.step hb
      have Y7 : Hid (Kb w7 b3 yK yL yS yn yl yh yA yB ya yc) := Y6.out.step hb
      have T7 : Hid (Kb w7 b5 tK tL tS tn tl th tA tB ta tc) := T6.out.step hb
      have D7 : Hid (Wds w7 da dn l) := hd
      clear hd hn hb S6 Y6 T6 CW
      obtain ⟨lp, p0, p1, p2, p3, p4, p5, p6⟩ := link_cells S7.out.o2.bp
      obtain ⟨lm, m0, m1, m2, m3, m4, m5, m6⟩ := link_cells S7.out.o2.o1.bl
      go_wp2_with fail
      clear lp p0 p1 p2 p3 p4 p5 p6 lm m0 m1 m2 m3 m4 m5 m6
      refine (stays_any _ gL cL n a c l 77 _ ZL.out.2.1 S7.out.aL (RowK.below ZL.out.1 S7.out.o2.o1.bel)).mono ?_
      rintro e w8 ⟨rfl, d8, hw8⟩
      have hb8 : Below w7.heap.size w7 w8 := by rw [hw8]; exact below_drewN (Below.refl _ _) d8
      have S8 : Hid (O3 w [.int .i64 xK, .int .i64 xL, .int .u8 xS, .slice xa xn xc] [.int .i64 K, .int .i64 L, .int .u8 S, .slice a n c, .bool h, .int .i64 A, .int .i64 B] p q [.int .i64 K, .int .i64 L, .int .u8 S, .slice (some ⟨gL, 0, none⟩) n cL, .bool h, .int .i64 A, .int .i64 B] [.int .i64 xK, .int .i64 xL, .int .u8 xS, .slice (some ⟨gX, 0, none⟩) xn cX] gL cL n gX cX xn l xl w8) := S7.out.step hb8
      have Y8 : Hid (Kb w8 b3 yK yL yS yn yl yh yA yB ya yc) := Y7.out.step hb8
      have T8 : Hid (Kb w8 b5 tK tL tS tn tl th tA tB ta tc) := T7.out.step hb8
      have D8 : Hid (Wds w8 da dn l) := D7.out.later hb8
      clear hw8 hb8 S7 Y7 T7 D7
      obtain ⟨lq, q0, q1, q2, q3⟩ := frame_cells S8.out.o2.bq
      obtain ⟨lr, r0, r1, r2, r3⟩ := frame_cells S8.out.o2.o1.bx
      go_wp2_with fail
      clear lq q0 q1 q2 q3 lr r0 r1 r2 r3
      refine (stays_any _ gX cX xn xa xc xl 77 _ ZX.out.2.1 S8.out.aX (RowK.below ZX.out.1 S8.out.o2.o1.bel)).mono ?_
      rintro e w9 ⟨rfl, d9, hw9⟩
      have hb9 : Below w8.heap.size w8 w9 := by rw [hw9]; exact below_drewN (Below.refl _ _) d9
      have S9 : Hid (O3 w [.int .i64 xK, .int .i64 xL, .int .u8 xS, .slice xa xn xc] [.int .i64 K, .int .i64 L, .int .u8 S, .slice a n c, .bool h, .int .i64 A, .int .i64 B] p q [.int .i64 K, .int .i64 L, .int .u8 S, .slice (some ⟨gL, 0, none⟩) n cL, .bool h, .int .i64 A, .int .i64 B] [.int .i64 xK, .int .i64 xL, .int .u8 xS, .slice (some ⟨gX, 0, none⟩) xn cX] gL cL n gX cX xn l xl w9) := S8.out.step hb9
      have H9 : Hid (O5 w b3 b5 p [.int .i64 yK, .int .i64 yL, .int .u8 yS, .slice ya yn yc, .bool yh, .int .i64 yA, .int .i64 yB] [.int .i64 tK, .int .i64 tL, .int .u8 tS, .slice ta tn tc, .bool th, .int .i64 tA, .int .i64 tB] [.int .i64 K, .int .i64 L, .int .u8 S, .slice (some ⟨gL, 0, none⟩) n cL, .bool h, .int .i64 A, .int .i64 B] gL cL n l ya ta da yn tn dn yl tl l w9) := ⟨S9.out.o2.o1.bel, (Y8.out.step hb9).box, (T8.out.step hb9).box, S9.out.o2.bp, S9.out.aL, (Y8.out.step hb9).wds, (T8.out.step hb9).wds, D8.out.later hb9⟩
      have HG : Hid (w.heap.size ≤ gL) := by have := (ample_lt S9.out.aL).1; show w.heap.size ≤ gL; omega
      clear hw9 hb9 S8 Y8 T8 D8 S9 ZX ZL
      have KY : Hid (yn ≤ 1048576 ∧ ∀ W, O5 w b3 b5 p [.int .i64 yK, .int .i64 yL, .int .u8 yS, .slice ya yn yc, .bool yh, .int .i64 yA, .int .i64 yB] [.int .i64 tK, .int .i64 tL, .int .u8 tS, .slice ta tn tc, .bool th, .int .i64 tA, .int .i64 tB] [.int .i64 K, .int .i64 L, .int .u8 S, .slice (some ⟨gL, 0, none⟩) n cL, .bool h, .int .i64 A, .int .i64 B] gL cL n l ya ta da yn tn dn yl tl l W → Wds W ya yn yl) := ⟨N1.out, fun W h => h.r1⟩
      have KT : Hid (tn ≤ 1048576 ∧ ∀ W, O5 w b3 b5 p [.int .i64 yK, .int .i64 yL, .int .u8 yS, .slice ya yn yc, .bool yh, .int .i64 yA, .int .i64 yB] [.int .i64 tK, .int .i64 tL, .int .u8 tS, .slice ta tn tc, .bool th, .int .i64 tA, .int .i64 tB] [.int .i64 K, .int .i64 L, .int .u8 S, .slice (some ⟨gL, 0, none⟩) n cL, .bool h, .int .i64 A, .int .i64 B] gL cL n l ya ta da yn tn dn yl tl l W → Wds W ta tn tl) := ⟨N2.out, fun W h => h.r2⟩
      have KD : Hid (dn ≤ 1048576 ∧ ∀ W, O5 w b3 b5 p [.int .i64 yK, .int .i64 yL, .int .u8 yS, .slice ya yn yc, .bool yh, .int .i64 yA, .int .i64 yB] [.int .i64 tK, .int .i64 tL, .int .u8 tS, .slice ta tn tc, .bool th, .int .i64 tA, .int .i64 tB] [.int .i64 K, .int .i64 L, .int .u8 S, .slice (some ⟨gL, 0, none⟩) n cL, .bool h, .int .i64 A, .int .i64 B] gL cL n l ya ta da yn tn dn yl tl l W → Wds W da dn l) := ⟨N3.out, fun W h => h.r3⟩
      have CL : ∀ (a1 : Option Addr) (n1 c1 : Nat) (l1 : Nat → Int), Hid (n1 ≤ 1048576 ∧ ∀ W, O5 w b3 b5 p [.int .i64 yK, .int .i64 yL, .int .u8 yS, .slice ya yn yc, .bool yh, .int .i64 yA, .int .i64 yB] [.int .i64 tK, .int .i64 tL, .int .u8 tS, .slice ta tn tc, .bool th, .int .i64 tA, .int .i64 tB] [.int .i64 K, .int .i64 L, .int .u8 S, .slice (some ⟨gL, 0, none⟩) n cL, .bool h, .int .i64 A, .int .i64 B] gL cL n l ya ta da yn tn dn yl tl l W → Wds W a1 n1 l1) → ∀ W, Hid (O5 w b3 b5 p [.int .i64 yK, .int .i64 yL, .int .u8 yS, .slice ya yn yc, .bool yh, .int .i64 yA, .int .i64 yB] [.int .i64 tK, .int .i64 tL, .int .u8 tS, .slice ta tn tc, .bool th, .int .i64 tA, .int .i64 tB] [.int .i64 K, .int .i64 L, .int .u8 S, .slice (some ⟨gL, 0, none⟩) n cL, .bool h, .int .i64 A, .int .i64 B] gL cL n l ya ta da yn tn dn yl tl l W) → Calls Try.prog 24 #[.slice a1 n1 c1] W fun e w' => ∃ a' c', e = .returned (.slice a' n1 c') ∧ Hid (Wds w' a' n1 l1 ∧ (∀ x, a' = some x → W.heap.size ≤ x.block) ∧ Below W.heap.size W w') ∧ Hid (O5 w b3 b5 p [.int .i64 yK, .int .i64 yL, .int .u8 yS, .slice ya yn yc, .bool yh, .int .i64 yA, .int .i64 yB] [.int .i64 tK, .int .i64 tL, .int .u8 tS, .slice ta tn tc, .bool th, .int .i64 tA, .int .i64 tB] [.int .i64 K, .int .i64 L, .int .u8 S, .slice (some ⟨gL, 0, none⟩) n cL, .bool h, .int .i64 A, .int .i64 B] gL cL n l ya ta da yn tn dn yl tl l w') := fun a1 n1 c1 l1 hk W hW => by
        refine (clone_wds a1 n1 c1 l1 W hk.out.1 (hk.out.2 W hW.out)).mono ?_
        rintro e w' ⟨a', c', h1, h2, h3, h4⟩
        exact ⟨a', c', h1, ⟨h2, h3, h4⟩, hW.out.step h4⟩
      go_wp2_with fail
      go_region_held3 (fun w' => w'.cell? ⟨b3, 3, none⟩ = some (.slice ya yn yc) ∧ w'.cell? ⟨b5, 3, none⟩ = some (.slice ta tn tc)) (first | exact ⟨SC.out.x1.cell 3 _ rfl, SC.out.x2.cell 3 _ rfl⟩ | exact ⟨SB.out.x1.cell 3 _ rfl, SB.out.x2.cell 3 _ rfl⟩ | exact ⟨SA.out.x1.cell 3 _ rfl, SA.out.x2.cell 3 _ rfl⟩ | exact ⟨H9.out.x1.cell 3 _ rfl, H9.out.x2.cell 3 _ rfl⟩ | go_keep)
        (first | (go_at_call 24; refine (CL _ _ _ _ (by exact KD) _ (by first | exact SB)).mono ?_; rintro e wC ⟨ra, rc, rfl, HC, SC⟩) | (go_at_call 24; refine (CL _ _ _ _ (by exact KT) _ (by first | exact SA)).mono ?_; rintro e wB ⟨qa, qc, rfl, HB, SB⟩) | (go_at_call 24; refine (CL _ _ _ _ (by exact KY) _ (by first | exact H9.out.step (Below.refl _ _).drew)).mono ?_; rintro e wA ⟨pa, pc, rfl, HA, SA⟩))
      have H10 : Hid (O6 w b3 b5 [.int .i64 yK, .int .i64 yL, .int .u8 yS, .slice ya yn yc, .bool yh, .int .i64 yA, .int .i64 yB] [.int .i64 tK, .int .i64 tL, .int .u8 tS, .slice ta tn tc, .bool th, .int .i64 tA, .int .i64 tB] ya ta da pa qa ra yn tn dn yl tl l wC) := ⟨SC.out.bel, SC.out.x1, SC.out.x2, SC.out.r1, SC.out.r2, SC.out.r3, (HA.out.1.later HB.out.2.2).later HC.out.2.2, HB.out.1.later HC.out.2.2, HC.out.1⟩
      have FP : Hid (Off pa gL ∧ Off qa gL ∧ Off ra gL) := ⟨off_new HA.out.2.1 (ample_lt H9.out.aL).2, off_new HB.out.2.1 (ample_lt SA.out.aL).2, off_new HC.out.2.1 (ample_lt SB.out.aL).2⟩
      have P10 : Hid (Cells wC p [.int .i64 K, .int .i64 L, .int .u8 S, .slice (some ⟨gL, 0, none⟩) n cL, .bool h, .int .i64 A, .int .i64 B]) := SC.out.bp
      have F10 : Hid (Full wC gL cL ∧ n ≤ cL ∧ cL ≤ 9223372036854775807) := ample_full SC.out.aL
      clear HA HB HC SA SB SC CL KY KT KD H9
      obtain ⟨lp, p0, p1, p2, p3, p4, p5, p6⟩ := link_cells P10.out
      go_wp2_with fail
      clear lp p0 p1 p2 p3 p4 p5 p6
      refine (spoil_any gL n cL 5 _ F10.out.2.1 F10.out.2.2 F10.out.1).mono ?_
      rintro e w11 ⟨rfl, hO⟩
      have H11 : Hid (O6 w b3 b5 [.int .i64 yK, .int .i64 yL, .int .u8 yS, .slice ya yn yc, .bool yh, .int .i64 yA, .int .i64 yB] [.int .i64 tK, .int .i64 tL, .int .u8 tS, .slice ta tn tc, .bool th, .int .i64 tA, .int .i64 tB] ya ta da pa qa ra yn tn dn yl tl l w11) := H10.out.only hO HG.out FY.out.2 FT.out.2 FY.out.1 FT.out.1 FD.out FP.out.1 FP.out.2.1 FP.out.2.2
      clear hO H10 P10 F10 FP FY FT FD HG
      obtain ⟨lp, p0, p1, p2, p3, p4, p5, p6⟩ := link_cells H11.out.x1
      go_wp2_with fail
      clear lp p0 p1 p2 p3 p4 p5 p6
      refine (equal_one _ _ _ _ _ _ _ N1.out H11.out.r1 H11.out.q1).mono ?_
      rintro e w12 ⟨rfl, hb⟩
      have H12 : Hid (O6 w b3 b5 [.int .i64 yK, .int .i64 yL, .int .u8 yS, .slice ya yn yc, .bool yh, .int .i64 yA, .int .i64 yB] [.int .i64 tK, .int .i64 tL, .int .u8 tS, .slice ta tn tc, .bool th, .int .i64 tA, .int .i64 tB] ya ta da pa qa ra yn tn dn yl tl l w12) := H11.out.step hb
      clear hb H11
      obtain ⟨lp, p0, p1, p2, p3, p4, p5, p6⟩ := link_cells H12.out.x2
      go_wp2_with fail
      clear lp p0 p1 p2 p3 p4 p5 p6
      refine (equal_one _ _ _ _ _ _ _ N2.out H12.out.r2 H12.out.q2).mono ?_
      rintro e w13 ⟨rfl, hb⟩
      have H13 : Hid (O6 w b3 b5 [.int .i64 yK, .int .i64 yL, .int .u8 yS, .slice ya yn yc, .bool yh, .int .i64 yA, .int .i64 yB] [.int .i64 tK, .int .i64 tL, .int .u8 tS, .slice ta tn tc, .bool th, .int .i64 tA, .int .i64 tB] ya ta da pa qa ra yn tn dn yl tl l w13) := H12.out.step hb
      clear hb H12
      go_wp2_with fail
      refine (equal_one _ _ _ _ _ _ _ N3.out H13.out.r3 H13.out.q3).mono ?_
      rintro e w14 ⟨rfl, hb⟩
      have B14 : Hid (Below w.heap.size w w14) := (H13.out.step hb).bel
      clear hb H13
      go_wp2_with fail
      go_ret
      exact ⟨rfl, B14.out⟩

/-! ### THE ROW's STEP -/
set_option maxRecDepth 100000 in
theorem lifted (os : Os) (started : os.Started) (H : Type) (enc : TypeId × Value → H) :
    ReturnsInHanded {} Try.checked os 7 .any (Rows.linkOwnSpec.pre6 enc Try.prog Try.f7 Rows.linkOwnRow.domain false) (Rows.linkOwnSpec.post enc Try.prog Try.f7 false true false false) := by
  refine returnsInHanded_of_change_sized (C := Try.checked) own started (by kernel_rfl) Try.func7
    (ChangeSpec.witness6 (enc := enc) (C := Try.checked) false ⟨#[], #[.agg #[.int .i64 0, .int .i64 0, .int .u8 0, .slice none 0 0], .agg #[.int .i64 0, .int .i64 0, .int .u8 0, .slice none 0 0, .bool false, .int .i64 0, .int .i64 0], .string ByteArray.empty], []⟩ 8 (by kernel_rfl) (by kernel_rfl) (by kernel_rfl) (by kernel_rfl)) ?_
  intro W base args ds gs before hval0 hW hcnd hsz0 _
  have hval : ∀ (j : Nat) t v, Try.f7.params[j]? = some t → args[j]? = some v → Value.okWide Try.prog W .any base t v := hval0
  have hW' := hW
  obtain ⟨p, q, hA0, hV, rfl, hfz, hnd⟩ := hW
  have hA : DataW.TrodAll enc Try.prog W 0 (fun _ => true) true Try.f7.params.toList args.toList ds p := hA0
  rw [Try.params7] at hA hval
  obtain ⟨v0, vs0, d0, ds0, p0, q0, hargs, rfl, rfl, h0, r0⟩ := trodAll_cons hA
  obtain ⟨v1, vs1, d1, ds1, p1, q1, rfl, rfl, rfl, h1, r1⟩ := trodAll_cons r0
  obtain ⟨v2, vs2, d2, ds2, p2, q2, rfl, rfl, rfl, h2, r2⟩ := trodAll_cons r1
  obtain ⟨rfl, rfl, rfl⟩ := trodAll_nil r2
  obtain rfl : args = #[v0, v1, v2] := by cases args; simp_all
  obtain ⟨rfl, rfl⟩ := trodVars_none hV
  have hz0 : Light Try.prog 24 d0 := light_of hsz0 (j := 0) (by first | rfl | (rw [Try.params7]; rfl)) rfl
  have k0 := h0
  have lt0 : ∀ x ∈ p0, x.block < W.heap.size := by obtain ⟨m, hm⟩ := k0; exact DataW.trod_lt m _ _ _ hm
  obtain ⟨cs0, rfl, _⟩ := okWide_struct Try.underlying24 (hval 0 24 v0 rfl rfl)
  obtain ⟨xKind, xLane, xSeq, xWordsa, xWordsn, xWordsc, xWords, e0, h_xKind, h_xLane, h_xSeq, h_xWords⟩ := (by obtain ⟨fuel, hf⟩ := h0; exact open24 hf hz0 : ∃ xKind : Int, ∃ xLane : Int, ∃ xSeq : Int, ∃ (xWordsa : Option Addr) (xWordsn xWordsc : Nat) (xWords : Nat → Int), cs0.toList = [.int .i64 xKind, .int .i64 xLane, .int .u8 xSeq, .slice xWordsa xWordsn xWordsc] ∧ (Lit.int .i64 xKind).wf = true ∧ (Lit.int .i64 xLane).wf = true ∧ (Lit.int .u8 xSeq).wf = true ∧ RowZ .i32 4 W xWordsa xWordsn xWordsc xWords)
  obtain rfl : cs0 = #[.int .i64 xKind, .int .i64 xLane, .int .u8 xSeq, .slice xWordsa xWordsn xWordsc] := by cases cs0; simp_all
  clear e0
  have hz1 : Light Try.prog 26 d1 := light_of hsz0 (j := 1) (by first | rfl | (rw [Try.params7]; rfl)) rfl
  have k1 := h1
  have lt1 : ∀ x ∈ p1, x.block < W.heap.size := by obtain ⟨m, hm⟩ := k1; exact DataW.trod_lt m _ _ _ hm
  obtain ⟨cs1, rfl, _⟩ := okWide_struct Try.underlying26 (hval 1 26 v1 rfl rfl)
  obtain ⟨lLastKind, lLastLane, lLastSeq, lLastWordsa, lLastWordsn, lLastWordsc, lLastWords, lHeard, lAge, lBad, e1, h_lLastKind, h_lLastLane, h_lLastSeq, h_lLastWords, h_lAge, h_lBad⟩ := (by obtain ⟨fuel, hf⟩ := h1; exact open26 hf hz1 : ∃ lLastKind : Int, ∃ lLastLane : Int, ∃ lLastSeq : Int, ∃ (lLastWordsa : Option Addr) (lLastWordsn lLastWordsc : Nat) (lLastWords : Nat → Int), ∃ lHeard : Bool, ∃ lAge : Int, ∃ lBad : Int, cs1.toList = [.int .i64 lLastKind, .int .i64 lLastLane, .int .u8 lLastSeq, .slice lLastWordsa lLastWordsn lLastWordsc, .bool lHeard, .int .i64 lAge, .int .i64 lBad] ∧ (Lit.int .i64 lLastKind).wf = true ∧ (Lit.int .i64 lLastLane).wf = true ∧ (Lit.int .u8 lLastSeq).wf = true ∧ RowZ .i32 4 W lLastWordsa lLastWordsn lLastWordsc lLastWords ∧ (Lit.int .i64 lAge).wf = true ∧ (Lit.int .i64 lBad).wf = true)
  obtain rfl : cs1 = #[.int .i64 lLastKind, .int .i64 lLastLane, .int .u8 lLastSeq, .slice lLastWordsa lLastWordsn lLastWordsc, .bool lHeard, .int .i64 lAge, .int .i64 lBad] := by cases cs1; simp_all
  clear e1
  have hz2 : Light Try.prog 9 d2 := light_of hsz0 (j := 2) (by first | rfl | (rw [Try.params7]; rfl)) rfl
  have k2 := h2
  have lt2 : ∀ x ∈ p2, x.block < W.heap.size := by obtain ⟨m, hm⟩ := k2; exact DataW.trod_lt m _ _ _ hm
  obtain ⟨s, rfl, rfl, rfl, h_s⟩ := Go.ChangeMaps.open_string Try.underlying9 (hval 2 9 v2 rfl rfl) h2
  replace h_s : s.size ≤ 140737488351232 := light_string hz2
  clear hA0 hval0
  refine (walk xKind xLane xSeq xWordsa xWordsn xWordsc xWords lLastKind lLastLane lLastSeq lLastWordsa lLastWordsn lLastWordsc lLastWords lHeard lAge lBad s W h_xKind h_xLane h_xSeq h_xWords h_lLastKind h_lLastLane h_lLastSeq h_lLastWords h_lAge h_lBad h_s).mono fun e W' ⟨he, bel⟩ => ?_
  subst he
  exact ⟨_, rfl, _, _, _, [], _, [], hW', trodAll_mk1 (shut_bool Try.underlying4 _), (trodAll_cons_mk (Below.trod laidOut (by kernel_rfl) (of_decide_eq_true (by kernel_rfl)) k0 bel lt0) (trodAll_cons_mk (Below.trod laidOut (by kernel_rfl) (of_decide_eq_true (by kernel_rfl)) k1 bel lt1) (trodAll_cons_mk (Below.trod laidOut (by kernel_rfl) (of_decide_eq_true (by kernel_rfl)) k2 bel lt2) trodAll_mk0))), rfl, bel.frame _, fun h => by cases h⟩

theorem over : Rows.linkOwnRow.holds Try.pinned (OpenSpec.ofChange Rows.linkOwnSpec) :=
  OpenClaim.holds_of_wide 7 Try.f7 rfl rfl rfl rfl rfl rfl rfl ⟨rfl, rfl, rfl, rfl, rfl⟩ rfl rfl rfl rfl rfl (by kernel_rfl) Try.func7 (by kernel_rfl)
    (of_decide_eq_true (by kernel_rfl)) (by unfold Func.isWrapper; first | (rw [if_pos (by decide +kernel)]; kernel_rfl) | (rw [if_neg (by decide +kernel)]; exact ⟨rfl, rfl⟩))
    (fun os started H enc _ => lifted os started H enc)


end Go.Proofs.Ytiaolelkabbnmaa.linkOwn
namespace Go.Proofs.Ytiaolelkabbnmaa
/-- THE STATEMENT -/
theorem linkOwn_holds : Rows.LinkOwnSaid := linkOwn.over
#print axioms linkOwn_holds
end Go.Proofs.Ytiaolelkabbnmaa
