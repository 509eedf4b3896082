/-
  Whatever is handed in, the law LinkSays returns true: all calls of package link answer what the document says. No condition.
-/
import Derived.Test.YtiaolelkabbnmaaLnkBox
import Derived.Test.YtiaolelkabbnmaaRLnk
import Derived.ProofKit
namespace Go.Proofs.Ytiaolelkabbnmaa.linkSays
open Go.ChangeShapes Go.WideShapes Go.ChangeAt Go.RowKit
set_option linter.unusedVariables false

theorem own : ownKnob Try.prog.godebug = none := by kernel_rfl
theorem laidOut : laidOutB Try.prog = true := by kernel_rfl

theorem list4 {l : List Value} (h : l.length = 4) : ∃ c0 c1 c2 c3, l = [c0, c1, c2, c3] := by
  match l, h with
  | [c0, c1, c2, c3], _ => exact ⟨c0, c1, c2, c3, rfl⟩

theorem list7 {l : List Value} (h : l.length = 7) : ∃ c0 c1 c2 c3 c4 c5 c6, l = [c0, c1, c2, c3, c4, c5, c6] := by
  match l, h with
  | [c0, c1, c2, c3, c4, c5, c6], _ => exact ⟨c0, c1, c2, c3, c4, c5, c6, rfl⟩

theorem open24 {H : Type} {enc : TypeId × Value → H} {w : World} {base : Nat} {spare : Nat → Bool} {held : Bool} {fuel : Nat} {cs : List Value} {x : DataW H × List MemPlace} (h : DataW.trod enc Try.prog w base spare held fuel 24 cs = some x) (hz : Light Try.prog 24 x.1) :
    ∃ vKind : Int, ∃ vLane : Int, ∃ vSeq : Int, ∃ (vWordsa : Option Addr) (vWordsn vWordsc : Nat) (vWords : Nat → Int), cs = [.int .i64 vKind, .int .i64 vLane, .int .u8 vSeq, .slice vWordsa vWordsn vWordsc] ∧ (Lit.int .i64 vKind).wf = true ∧ (Lit.int .i64 vLane).wf = true ∧ (Lit.int .u8 vSeq).wf = true ∧ RowZ .i32 4 w vWordsa vWordsn vWordsc vWords := by
  obtain ⟨hl, hf⟩ := trod_field_z Try.underlying24 h hz
  rw [show Try.prog.cellsOf 24 = 4 from by kernel_rfl] at hl
  obtain ⟨c0, c1, c2, c3, rfl⟩ := list4 hl
  obtain ⟨n0, y0, h0, z0⟩ := hf 0 _ rfl
  replace h0 : DataW.trod enc Try.prog w base spare held n0 3 (([c0, c1, c2, c3] : List Value).drop 0 |>.take (Try.prog.cellsOf 3)) = some y0 := h0
  rw [show Try.prog.cellsOf 3 = 1 from by kernel_rfl] at h0
  replace h0 : DataW.trod enc Try.prog w base spare held n0 3 [c0] = some y0 := h0
  obtain ⟨n1, y1, h1, z1⟩ := hf 1 _ rfl
  replace h1 : DataW.trod enc Try.prog w base spare held n1 3 (([c0, c1, c2, c3] : List Value).drop 1 |>.take (Try.prog.cellsOf 3)) = some y1 := h1
  rw [show Try.prog.cellsOf 3 = 1 from by kernel_rfl] at h1
  replace h1 : DataW.trod enc Try.prog w base spare held n1 3 [c1] = some y1 := h1
  obtain ⟨n2, y2, h2, z2⟩ := hf 2 _ rfl
  replace h2 : DataW.trod enc Try.prog w base spare held n2 5 (([c0, c1, c2, c3] : List Value).drop 2 |>.take (Try.prog.cellsOf 5)) = some y2 := h2
  rw [show Try.prog.cellsOf 5 = 1 from by kernel_rfl] at h2
  replace h2 : DataW.trod enc Try.prog w base spare held n2 5 [c2] = some y2 := h2
  obtain ⟨n3, y3, h3, z3⟩ := hf 3 _ rfl
  replace h3 : DataW.trod enc Try.prog w base spare held n3 22 (([c0, c1, c2, c3] : List Value).drop 3 |>.take (Try.prog.cellsOf 22)) = some y3 := h3
  rw [show Try.prog.cellsOf 22 = 1 from by kernel_rfl] at h3
  replace h3 : DataW.trod enc Try.prog w base spare held n3 22 [c3] = some y3 := h3
  obtain ⟨x0, e0, _, f0_0⟩ := DataW.trod_int Try.underlying3 h0
  simp only [List.cons.injEq, and_true] at e0
  obtain rfl := e0
  obtain ⟨x1, e1, _, f1_0⟩ := DataW.trod_int Try.underlying3 h1
  simp only [List.cons.injEq, and_true] at e1
  obtain rfl := e1
  obtain ⟨x2, e2, _, f2_0⟩ := DataW.trod_int Try.underlying5 h2
  simp only [List.cons.injEq, and_true] at e2
  obtain rfl := e2
  obtain ⟨x3a, x3n, x3c, x3, e3, f3_0⟩ := rowZ_of Try.underlying22 Try.underlying21 (by kernel_rfl) (by kernel_rfl) h3 z3
  simp only [List.cons.injEq, and_true] at e3
  obtain rfl := e3
  exact ⟨x0, x1, x2, x3a, x3n, x3c, x3, rfl, f0_0, f1_0, f2_0, f3_0⟩

theorem open26 {H : Type} {enc : TypeId × Value → H} {w : World} {base : Nat} {spare : Nat → Bool} {held : Bool} {fuel : Nat} {cs : List Value} {x : DataW H × List MemPlace} (h : DataW.trod enc Try.prog w base spare held fuel 26 cs = some x) (hz : Light Try.prog 26 x.1) :
    ∃ vLastKind : Int, ∃ vLastLane : Int, ∃ vLastSeq : Int, ∃ (vLastWordsa : Option Addr) (vLastWordsn vLastWordsc : Nat) (vLastWords : Nat → Int), ∃ vHeard : Bool, ∃ vAge : Int, ∃ vBad : Int, cs = [.int .i64 vLastKind, .int .i64 vLastLane, .int .u8 vLastSeq, .slice vLastWordsa vLastWordsn vLastWordsc, .bool vHeard, .int .i64 vAge, .int .i64 vBad] ∧ (Lit.int .i64 vLastKind).wf = true ∧ (Lit.int .i64 vLastLane).wf = true ∧ (Lit.int .u8 vLastSeq).wf = true ∧ RowZ .i32 4 w vLastWordsa vLastWordsn vLastWordsc vLastWords ∧ (Lit.int .i64 vAge).wf = true ∧ (Lit.int .i64 vBad).wf = true := by
  obtain ⟨hl, hf⟩ := trod_field_z Try.underlying26 h hz
  rw [show Try.prog.cellsOf 26 = 7 from by kernel_rfl] at hl
  obtain ⟨c0, c1, c2, c3, c4, c5, c6, rfl⟩ := list7 hl
  obtain ⟨n0, y0, h0, z0⟩ := hf 0 _ rfl
  replace h0 : DataW.trod enc Try.prog w base spare held n0 24 (([c0, c1, c2, c3, c4, c5, c6] : List Value).drop 0 |>.take (Try.prog.cellsOf 24)) = some y0 := h0
  rw [show Try.prog.cellsOf 24 = 4 from by kernel_rfl] at h0
  replace h0 : DataW.trod enc Try.prog w base spare held n0 24 [c0, c1, c2, c3] = some y0 := h0
  obtain ⟨n1, y1, h1, z1⟩ := hf 1 _ rfl
  replace h1 : DataW.trod enc Try.prog w base spare held n1 4 (([c0, c1, c2, c3, c4, c5, c6] : List Value).drop 4 |>.take (Try.prog.cellsOf 4)) = some y1 := h1
  rw [show Try.prog.cellsOf 4 = 1 from by kernel_rfl] at h1
  replace h1 : DataW.trod enc Try.prog w base spare held n1 4 [c4] = some y1 := h1
  obtain ⟨n2, y2, h2, z2⟩ := hf 2 _ rfl
  replace h2 : DataW.trod enc Try.prog w base spare held n2 3 (([c0, c1, c2, c3, c4, c5, c6] : List Value).drop 5 |>.take (Try.prog.cellsOf 3)) = some y2 := h2
  rw [show Try.prog.cellsOf 3 = 1 from by kernel_rfl] at h2
  replace h2 : DataW.trod enc Try.prog w base spare held n2 3 [c5] = some y2 := h2
  obtain ⟨n3, y3, h3, z3⟩ := hf 3 _ rfl
  replace h3 : DataW.trod enc Try.prog w base spare held n3 3 (([c0, c1, c2, c3, c4, c5, c6] : List Value).drop 6 |>.take (Try.prog.cellsOf 3)) = some y3 := h3
  rw [show Try.prog.cellsOf 3 = 1 from by kernel_rfl] at h3
  replace h3 : DataW.trod enc Try.prog w base spare held n3 3 [c6] = some y3 := h3
  obtain ⟨x0Kind, x0Lane, x0Seq, x0Wordsa, x0Wordsn, x0Wordsc, x0Words, e0, f0_0, f0_1, f0_2, f0_3⟩ := open24 h0 z0
  simp only [List.cons.injEq, and_true] at e0
  obtain ⟨rfl, rfl, rfl, rfl⟩ := e0
  obtain ⟨x1, e1, _⟩ := DataW.trod_bool Try.underlying4 h1
  simp only [List.cons.injEq, and_true] at e1
  obtain rfl := e1
  obtain ⟨x2, e2, _, f2_0⟩ := DataW.trod_int Try.underlying3 h2
  simp only [List.cons.injEq, and_true] at e2
  obtain rfl := e2
  obtain ⟨x3, e3, _, f3_0⟩ := DataW.trod_int Try.underlying3 h3
  simp only [List.cons.injEq, and_true] at e3
  obtain rfl := e3
  exact ⟨x0Kind, x0Lane, x0Seq, x0Wordsa, x0Wordsn, x0Wordsc, x0Words, x1, x2, x3, rfl, f0_0, f0_1, f0_2, f0_3, f2_0, f3_0⟩


theorem hr_n (x : Lk) (s : ByteArray) (hn : x.F.n ≤ 35184372087808) : (hrL x s).F.n ≤ 35184372087808 := by
  by_cases h : lkErr x = 0
  · by_cases h2 : hrE x s = 0
    · rw [hrL_new h h2]
      have := (rdF_S s).2.2
      show (rdF s).n ≤ _
      omega
    · rw [hrL_spoilt h h2]
      exact hn
  · rw [hrL_bad h]
    show 0 ≤ _
    omega

theorem up_min (A : Int) (h0 : 0 ≤ A) (h1 : A ≤ 100) : (if A + 1 < 100 then A + 1 else (100 : Int)) = upA A := by
  unfold upA
  repeat' split
  all_goals omega

set_option maxHeartbeats 8000000 in
set_option maxRecDepth 100000 in
theorem walk (lLastKind : Int) (lLastLane : Int) (lLastSeq : Int) (lLastWordsa : Option Addr) (lLastWordsn lLastWordsc : Nat) (lLastWords : Nat → Int) (lHeard : Bool) (lAge : Int) (lBad : Int) (s : ByteArray) (most : Int) (w : World) (h_lLastKind : (Lit.int .i64 lLastKind).wf = true) (h_lLastLane : (Lit.int .i64 lLastLane).wf = true) (h_lLastSeq : (Lit.int .u8 lLastSeq).wf = true) (h_lLastWords : RowZ .i32 4 w lLastWordsa lLastWordsn lLastWordsc lLastWords) (h_lAge : (Lit.int .i64 lAge).wf = true) (h_lBad : (Lit.int .i64 lBad).wf = true) (h_s : s.size ≤ 140737488351232) (h_most : (Lit.int .i64 most).wf = true) :
    Calls Try.prog 3 #[.agg #[.int .i64 lLastKind, .int .i64 lLastLane, .int .u8 lLastSeq, .slice lLastWordsa lLastWordsn lLastWordsc, .bool lHeard, .int .i64 lAge, .int .i64 lBad], .string s, .int .i64 most] w fun e w' => e = .returned (.bool true) ∧ Below w.heap.size w w' := by
  obtain ⟨hw, hl, hn⟩ := wds_of h_lLastWords
  obtain ⟨s0, s1⟩ := u8_of h_lLastSeq
  clear h_lLastKind h_lLastLane h_lLastSeq h_lLastWords h_lAge h_lBad h_most hl
  generalize lLastKind = K at *
  generalize lLastLane = L at *
  generalize lLastSeq = S at *
  generalize lLastWordsa = a at *
  generalize lLastWordsn = n at *
  generalize lLastWordsc = c at *
  generalize lLastWords = l at *
  generalize lHeard = h at *
  generalize lAge = A at *
  generalize lBad = B at *
  generalize most = m at *
  have X0 : Hid (Kb (w.alloc (.cells #[.int .i64 K, .int .i64 L, .int .u8 S, .slice a n c, .bool h, .int .i64 A, .int .i64 B] 26)) w.heap.size K L S n l h A B a c) := kb_new hw
  have B0 : Hid (Below w.heap.size w (w.alloc (.cells #[.int .i64 K, .int .i64 L, .int .u8 S, .slice a n c, .bool h, .int .i64 A, .int .i64 B] 26))) := alloc_step w _
  have CE : Hid (∀ W, Wds W a n l → Calls Try.prog 8 #[.agg #[.int .i64 K, .int .i64 L, .int .u8 S, .slice a n c, .bool h, .int .i64 A, .int .i64 B]] W fun e w' => e = .returned (.int .i64 (lkErr ⟨⟨K, L, S, n, l⟩, h, A, B⟩)) ∧ Below W.heap.size W w') := fun W hW => rlcheck_any K L S a n c l h A B W (by omega) hW
  have CC : Hid (∀ W, Calls Try.prog 12 #[.agg #[.int .i64 K, .int .i64 L, .int .u8 S, .slice a n c, .bool h, .int .i64 A, .int .i64 B]] W fun e w' => e = .returned (.int .i64 (lkErr ⟨⟨K, L, S, n, l⟩, h, A, B⟩)) ∧ Below W.heap.size W w') := fun W => lcheck_any K L S a n c h A B W
  have CH : Hid (∀ W, Wds W a n l → Calls Try.prog 9 #[.agg #[.int .i64 K, .int .i64 L, .int .u8 S, .slice a n c, .bool h, .int .i64 A, .int .i64 B], .string s] W fun e w' => ∃ a' c', e = .returned (.tuple #[.agg #[.int .i64 (hrL ⟨⟨K, L, S, n, l⟩, h, A, B⟩ s).F.K, .int .i64 (hrL ⟨⟨K, L, S, n, l⟩, h, A, B⟩ s).F.L, .int .u8 (hrL ⟨⟨K, L, S, n, l⟩, h, A, B⟩ s).F.S, .slice a' (hrL ⟨⟨K, L, S, n, l⟩, h, A, B⟩ s).F.n c', .bool (hrL ⟨⟨K, L, S, n, l⟩, h, A, B⟩ s).h, .int .i64 (hrL ⟨⟨K, L, S, n, l⟩, h, A, B⟩ s).A, .int .i64 (hrL ⟨⟨K, L, S, n, l⟩, h, A, B⟩ s).B], .int .i64 (hrE ⟨⟨K, L, S, n, l⟩, h, A, B⟩ s)]) ∧ Wds w' a' (hrL ⟨⟨K, L, S, n, l⟩, h, A, B⟩ s).F.n (hrL ⟨⟨K, L, S, n, l⟩, h, A, B⟩ s).F.l ∧ (∀ x, a' = some x → W.heap.size ≤ x.block) ∧ Below W.heap.size W w') := fun W hW => hear_any ⟨⟨K, L, S, n, l⟩, h, A, B⟩ a c s W hW h_s
  have CQ : Hid (lkErr ⟨⟨K, L, S, n, l⟩, h, A, B⟩ = 0 → ∀ W, Wds W a n l → Calls Try.prog 14 #[.agg #[.int .i64 K, .int .i64 L, .int .u8 S, .slice a n c, .bool h, .int .i64 A, .int .i64 B], .string s] W fun e w' => ∃ a' c', e = .returned (.tuple #[.agg #[.int .i64 (hrL ⟨⟨K, L, S, n, l⟩, h, A, B⟩ s).F.K, .int .i64 (hrL ⟨⟨K, L, S, n, l⟩, h, A, B⟩ s).F.L, .int .u8 (hrL ⟨⟨K, L, S, n, l⟩, h, A, B⟩ s).F.S, .slice a' (hrL ⟨⟨K, L, S, n, l⟩, h, A, B⟩ s).F.n c', .bool (hrL ⟨⟨K, L, S, n, l⟩, h, A, B⟩ s).h, .int .i64 (hrL ⟨⟨K, L, S, n, l⟩, h, A, B⟩ s).A, .int .i64 (hrL ⟨⟨K, L, S, n, l⟩, h, A, B⟩ s).B], .int .i64 (hrE ⟨⟨K, L, S, n, l⟩, h, A, B⟩ s)]) ∧ Wds w' a' (hrL ⟨⟨K, L, S, n, l⟩, h, A, B⟩ s).F.n (hrL ⟨⟨K, L, S, n, l⟩, h, A, B⟩ s).F.l ∧ Below W.heap.size W w') := fun hE W hW => rhear_any ⟨⟨K, L, S, n, l⟩, h, A, B⟩ a c s W hE s0 s1 hW h_s
  have CT : Hid (∀ W, Wds W a n l → Calls Try.prog 10 #[.agg #[.int .i64 K, .int .i64 L, .int .u8 S, .slice a n c, .bool h, .int .i64 A, .int .i64 B]] W fun e w' => ∃ a' c', e = .returned (.tuple #[.agg #[.int .i64 (tkL ⟨⟨K, L, S, n, l⟩, h, A, B⟩).F.K, .int .i64 (tkL ⟨⟨K, L, S, n, l⟩, h, A, B⟩).F.L, .int .u8 (tkL ⟨⟨K, L, S, n, l⟩, h, A, B⟩).F.S, .slice a' (tkL ⟨⟨K, L, S, n, l⟩, h, A, B⟩).F.n c', .bool (tkL ⟨⟨K, L, S, n, l⟩, h, A, B⟩).h, .int .i64 (tkL ⟨⟨K, L, S, n, l⟩, h, A, B⟩).A, .int .i64 (tkL ⟨⟨K, L, S, n, l⟩, h, A, B⟩).B], .int .i64 (lkErr ⟨⟨K, L, S, n, l⟩, h, A, B⟩)]) ∧ Wds w' a' (tkL ⟨⟨K, L, S, n, l⟩, h, A, B⟩).F.n (tkL ⟨⟨K, L, S, n, l⟩, h, A, B⟩).F.l ∧ (∀ x, a' = some x → W.heap.size ≤ x.block) ∧ Below W.heap.size W w') := fun W hW => tick_any ⟨⟨K, L, S, n, l⟩, h, A, B⟩ a c W hW
  have CW : Hid (∀ W, Wds W a n l → Calls Try.prog 11 #[.agg #[.int .i64 K, .int .i64 L, .int .u8 S, .slice a n c, .bool h, .int .i64 A, .int .i64 B], .int .i64 m] W fun e w' => ∃ a' c', e = .returned (.tuple #[.slice a' (wdN ⟨⟨K, L, S, n, l⟩, h, A, B⟩ m) c', .int .i64 (wdE ⟨⟨K, L, S, n, l⟩, h, A, B⟩ m)]) ∧ Wds w' a' (wdN ⟨⟨K, L, S, n, l⟩, h, A, B⟩ m) l ∧ (∀ x, a' = some x → W.heap.size ≤ x.block) ∧ Below W.heap.size W w') := fun W hW => words_all ⟨⟨K, L, S, n, l⟩, h, A, B⟩ a c m W hW
  have CN : Hid (∀ (a1 : Option Addr) (c1 : Nat) (W : World), Calls Try.prog 13 #[.agg #[.int .i64 0, .int .i64 0, .int .u8 0, .slice a1 0 c1, .bool false, .int .i64 0, .int .i64 0], .agg #[.int .i64 0, .int .i64 0, .int .u8 0, .slice none 0 0, .bool false, .int .i64 0, .int .i64 0]] W fun e w' => e = .returned (.bool true) ∧ Below W.heap.size W w') := fun a1 c1 W => samelink_any lkNone a1 none c1 0 W (by decide) (wds_zero _ _ _) (wds_zero _ _ _)
  have CS : Hid (∀ (K L S : Int) (n : Nat) (l : Nat → Int) (h : Bool) (A B : Int) (a1 a2 : Option Addr) (c1 c2 : Nat) (W : World), n ≤ 35184372087808 → Wds W a1 n l → Wds W a2 n l → Calls Try.prog 13 #[.agg #[.int .i64 K, .int .i64 L, .int .u8 S, .slice a1 n c1, .bool h, .int .i64 A, .int .i64 B], .agg #[.int .i64 K, .int .i64 L, .int .u8 S, .slice a2 n c2, .bool h, .int .i64 A, .int .i64 B]] W fun e w' => e = .returned (.bool true) ∧ Below W.heap.size W w') := fun K L S n l h A B a1 a2 c1 c2 W hn h1 h2 => samelink_any ⟨⟨K, L, S, n, l⟩, h, A, B⟩ a1 a2 c1 c2 W (by simp only; omega) h1 h2
  have CL : Hid (∀ (a1 : Option Addr) (c1 : Nat) (W : World), Wds W a1 n l → Wds W a n l → Calls Try.prog 15 #[.slice a1 n c1, .slice a n c] W fun e w' => e = .returned (.bool true) ∧ Below W.heap.size W w') := fun a1 c1 W h1 h2 => by
    refine (equal_wds a1 a n c1 n c l l W (by omega) h1 h2).mono ?_
    rintro e w' ⟨rfl, d, rfl⟩
    exact ⟨by rw [(eqB_iff _ _ n).2 (fun _ _ => rfl), decide_eq_true rfl]; rfl, below_drewN (Below.refl _ _) d⟩
  have F1 : Hid (lkErr ⟨⟨K, L, S, n, l⟩, h, A, B⟩ ≠ 0 → hrE ⟨⟨K, L, S, n, l⟩, h, A, B⟩ s = lkErr ⟨⟨K, L, S, n, l⟩, h, A, B⟩ ∧ hrL ⟨⟨K, L, S, n, l⟩, h, A, B⟩ s = ⟨⟨0, 0, 0, 0, fun _ => 0⟩, false, 0, 0⟩ ∧ tkL ⟨⟨K, L, S, n, l⟩, h, A, B⟩ = ⟨⟨0, 0, 0, 0, fun _ => 0⟩, false, 0, 0⟩ ∧ wdE ⟨⟨K, L, S, n, l⟩, h, A, B⟩ m = lkErr ⟨⟨K, L, S, n, l⟩, h, A, B⟩ ∧ wdN ⟨⟨K, L, S, n, l⟩, h, A, B⟩ m = 0) := fun h => ⟨hrE_bad h, hrL_bad h, by unfold tkL; rw [if_pos h]; rfl, wdE_bad h, wdN_bad (by rw [wdE_bad h]; exact h)⟩
  have F2 : Hid (lkErr ⟨⟨K, L, S, n, l⟩, h, A, B⟩ = 0 → h = false → tkL ⟨⟨K, L, S, n, l⟩, h, A, B⟩ = ⟨⟨K, L, S, n, l⟩, h, A, B⟩ ∧ wdE ⟨⟨K, L, S, n, l⟩, h, A, B⟩ m = 7 ∧ wdN ⟨⟨K, L, S, n, l⟩, h, A, B⟩ m = 0) := fun h1 h2 => ⟨by unfold tkL; rw [if_neg (by omega), if_neg (by simp [h2])], wdE_none h1 h2, wdN_bad (by rw [wdE_none h1 h2]; decide)⟩
  have F3 : Hid (lkErr ⟨⟨K, L, S, n, l⟩, h, A, B⟩ = 0 → h = true → tkL ⟨⟨K, L, S, n, l⟩, h, A, B⟩ = ⟨⟨K, L, S, n, l⟩, true, upA A, B⟩) := fun h1 h2 => by unfold tkL; rw [if_neg (by omega), if_pos h2]
  have F4 : Hid (lkErr ⟨⟨K, L, S, n, l⟩, h, A, B⟩ = 0 → h = true → m < A → wdE ⟨⟨K, L, S, n, l⟩, h, A, B⟩ m = 6 ∧ wdN ⟨⟨K, L, S, n, l⟩, h, A, B⟩ m = 0) := fun h1 h2 h3 => ⟨wdE_stale h1 h2 h3, wdN_bad (by rw [wdE_stale h1 h2 h3]; decide)⟩
  have F5 : Hid (lkErr ⟨⟨K, L, S, n, l⟩, h, A, B⟩ = 0 → h = true → A ≤ m → wdE ⟨⟨K, L, S, n, l⟩, h, A, B⟩ m = 0 ∧ wdN ⟨⟨K, L, S, n, l⟩, h, A, B⟩ m = n) := fun h1 h2 h3 => ⟨wdE_ok h1 h2 h3, wdN_ok (wdE_ok h1 h2 h3)⟩
  have HA : Hid (lkErr ⟨⟨K, L, S, n, l⟩, h, A, B⟩ = 0 → 0 ≤ A ∧ A ≤ 100) := fun h1 => ⟨(lkE_zero h1).1, (lkE_zero h1).2.1⟩
  have N2 : Hid ((hrL ⟨⟨K, L, S, n, l⟩, h, A, B⟩ s).F.n ≤ 35184372087808 ∧ n ≤ 35184372087808) := ⟨hr_n ⟨⟨K, L, S, n, l⟩, h, A, B⟩ s hn, hn⟩
  generalize hrL ⟨⟨K, L, S, n, l⟩, h, A, B⟩ s = y at *
  generalize hrE ⟨⟨K, L, S, n, l⟩, h, A, B⟩ s = G at *
  generalize tkL ⟨⟨K, L, S, n, l⟩, h, A, B⟩ = t at *
  generalize wdE ⟨⟨K, L, S, n, l⟩, h, A, B⟩ m = D at *
  generalize wdN ⟨⟨K, L, S, n, l⟩, h, A, B⟩ m = dn at *
  generalize lkErr ⟨⟨K, L, S, n, l⟩, h, A, B⟩ = E at *
  obtain ⟨⟨yK, yL, yS, yn, yl⟩, yh, yA, yB⟩ := y
  obtain ⟨⟨tK, tL, tS, tn, tl⟩, th, tA, tB⟩ := t
  simp only at CH CQ CT F1 F2 F3 N2
  clear hw hn h_s s0 s1
  go_enter Try.func3, Try.ntmps3
  go_wp2_with fail
  refine (CE.out _ X0.out.wds).mono ?_
  rintro e w1 ⟨rfl, hb⟩
  have X1 : Hid (Kb w1 w.heap.size K L S n l h A B a c) := X0.out.step hb
  have B1 : Hid (Below w.heap.size w w1) := step_on B0.out B0.out.size hb
  clear hb X0 B0
  obtain ⟨lx, x0, x1, x2, x3, x4, x5, x6⟩ := link_cells X1.out.box
  go_wp2_with fail
  clear lx x0 x1 x2 x3 x4 x5 x6
  refine (CH.out _ X1.out.wds).mono ?_
  rintro e w2 ⟨ya, yc, rfl, hy, _, hb⟩
  have X3 : Hid (Kb (w2.alloc (.cells #[.int .i64 yK, .int .i64 yL, .int .u8 yS, .slice ya yn yc, .bool yh, .int .i64 yA, .int .i64 yB] 26)) w.heap.size K L S n l h A B a c) := (X1.out.step hb).step (alloc_step w2 _)
  have Y3 : Hid (Kb (w2.alloc (.cells #[.int .i64 yK, .int .i64 yL, .int .u8 yS, .slice ya yn yc, .bool yh, .int .i64 yA, .int .i64 yB] 26)) w2.heap.size yK yL yS yn yl yh yA yB ya yc) := kb_new hy
  have B3 : Hid (Below w.heap.size w (w2.alloc (.cells #[.int .i64 yK, .int .i64 yL, .int .u8 yS, .slice ya yn yc, .bool yh, .int .i64 yA, .int .i64 yB] 26))) := step_on (step_on B1.out B1.out.size hb) (by have := B1.out.size; have := hb.size; omega) (alloc_step w2 _)
  clear hy hb X1 B1
  go_upto_region 3 with fail
  generalize w2.alloc (.cells #[.int .i64 yK, .int .i64 yL, .int .u8 yS, .slice ya yn yc, .bool yh, .int .i64 yA, .int .i64 yB] 26) = w3 at X3 Y3 B3 ⊢
  generalize w2.heap.size = b2 at Y3 ⊢
  obtain ⟨lx, x0, x1, x2, x3, x4, x5, x6⟩ := link_cells X3.out.box
  go_wp2_with fail
  clear lx x0 x1 x2 x3 x4 x5 x6
  refine (CT.out _ X3.out.wds).mono ?_
  rintro e w4 ⟨ta, tc, rfl, ht, _, hb⟩
  have X5 : Hid (Kb (w4.alloc (.cells #[.int .i64 tK, .int .i64 tL, .int .u8 tS, .slice ta tn tc, .bool th, .int .i64 tA, .int .i64 tB] 26)) w.heap.size K L S n l h A B a c) := (X3.out.step hb).step (alloc_step w4 _)
  have Y5 : Hid (Kb (w4.alloc (.cells #[.int .i64 tK, .int .i64 tL, .int .u8 tS, .slice ta tn tc, .bool th, .int .i64 tA, .int .i64 tB] 26)) b2 yK yL yS yn yl yh yA yB ya yc) := (Y3.out.step hb).step (alloc_step w4 _)
  have T5 : Hid (Kb (w4.alloc (.cells #[.int .i64 tK, .int .i64 tL, .int .u8 tS, .slice ta tn tc, .bool th, .int .i64 tA, .int .i64 tB] 26)) w4.heap.size tK tL tS tn tl th tA tB ta tc) := kb_new ht
  have B5 : Hid (Below w.heap.size w (w4.alloc (.cells #[.int .i64 tK, .int .i64 tL, .int .u8 tS, .slice ta tn tc, .bool th, .int .i64 tA, .int .i64 tB] 26))) := step_on (step_on B3.out B3.out.size hb) (by have := B3.out.size; have := hb.size; omega) (alloc_step w4 _)
  clear ht hb X3 Y3 B3
  go_upto_region 4 with fail
  generalize w4.alloc (.cells #[.int .i64 tK, .int .i64 tL, .int .u8 tS, .slice ta tn tc, .bool th, .int .i64 tA, .int .i64 tB] 26) = w5 at X5 Y5 T5 B5 ⊢
  generalize w4.heap.size = b4 at T5 ⊢
  obtain ⟨lx, x0, x1, x2, x3, x4, x5, x6⟩ := link_cells X5.out.box
  go_wp2_with fail
  clear lx x0 x1 x2 x3 x4 x5 x6
  refine (CW.out _ X5.out.wds).mono ?_
  rintro e w6 ⟨da, dc, rfl, hd, _, hb⟩
  have X6 : Hid (Kb w6 w.heap.size K L S n l h A B a c) := X5.out.step hb
  have Y6 : Hid (Kb w6 b2 yK yL yS yn yl yh yA yB ya yc) := Y5.out.step hb
  have T6 : Hid (Kb w6 b4 tK tL tS tn tl th tA tB ta tc) := T5.out.step hb
  have D6 : Hid (Wds w6 da dn l) := hd
  have B6 : Hid (Below w.heap.size w w6) := step_on B5.out B5.out.size hb
  clear hd hb X5 Y5 T5 B5
  obtain ⟨lx, x0, x1, x2, x3, x4, x5, x6⟩ := link_cells X6.out.box
  go_wp2_with fail
  clear lx x0 x1 x2 x3 x4 x5 x6
  refine (CC.out _).mono ?_
  rintro e w7 ⟨rfl, hb⟩
  have X7 : Hid (Kb w7 w.heap.size K L S n l h A B a c) := X6.out.step hb
  have Y7 : Hid (Kb w7 b2 yK yL yS yn yl yh yA yB ya yc) := Y6.out.step hb
  have T7 : Hid (Kb w7 b4 tK tL tS tn tl th tA tB ta tc) := T6.out.step hb
  have D7 : Hid (Wds w7 da dn l) := D6.out.later hb
  have B7 : Hid (Below w.heap.size w w7) := step_on B6.out B6.out.size hb
  clear hb X6 Y6 T6 D6 B6
  by_cases hE : E = 0
  · have CQ2 : Hid (∀ W, Wds W a n l → Calls Try.prog 14 #[.agg #[.int .i64 K, .int .i64 L, .int .u8 S, .slice a n c, .bool h, .int .i64 A, .int .i64 B], .string s] W fun e w' => ∃ a' c', e = .returned (.tuple #[.agg #[.int .i64 yK, .int .i64 yL, .int .u8 yS, .slice a' yn c', .bool yh, .int .i64 yA, .int .i64 yB], .int .i64 G]) ∧ Wds w' a' yn yl ∧ Below W.heap.size W w') := CQ.out hE
    have HA2 : Hid (0 ≤ A ∧ A ≤ 100) := HA.out hE
    have F2b : Hid (h = false → (⟨⟨tK, tL, tS, tn, tl⟩, th, tA, tB⟩ : Lk) = ⟨⟨K, L, S, n, l⟩, h, A, B⟩ ∧ D = 7 ∧ dn = 0) := F2.out hE
    have F3b : Hid (h = true → (⟨⟨tK, tL, tS, tn, tl⟩, th, tA, tB⟩ : Lk) = ⟨⟨K, L, S, n, l⟩, true, upA A, B⟩) := F3.out hE
    have F4b : Hid (h = true → m < A → D = 6 ∧ dn = 0) := F4.out hE
    have F5b : Hid (h = true → A ≤ m → D = 0 ∧ dn = n) := F5.out hE
    clear F1 F2 F3 F4 F5 HA CQ
    subst hE
    obtain ⟨lx, x0, x1, x2, x3, x4, x5, x6⟩ := link_cells X7.out.box
    go_wp2_with fail
    clear lx x0 x1 x2 x3 x4 x5 x6
    refine (CQ2.out _ X7.out.wds).mono ?_
    rintro e w8 ⟨za, zc, rfl, hz, hb⟩
    have X9 : Hid (Kb (w8.alloc (.cells #[.int .i64 yK, .int .i64 yL, .int .u8 yS, .slice za yn zc, .bool yh, .int .i64 yA, .int .i64 yB] 26)) w.heap.size K L S n l h A B a c) := (X7.out.step hb).step (alloc_step w8 _)
    have Y9 : Hid (Kb (w8.alloc (.cells #[.int .i64 yK, .int .i64 yL, .int .u8 yS, .slice za yn zc, .bool yh, .int .i64 yA, .int .i64 yB] 26)) b2 yK yL yS yn yl yh yA yB ya yc) := (Y7.out.step hb).step (alloc_step w8 _)
    have T9 : Hid (Kb (w8.alloc (.cells #[.int .i64 yK, .int .i64 yL, .int .u8 yS, .slice za yn zc, .bool yh, .int .i64 yA, .int .i64 yB] 26)) b4 tK tL tS tn tl th tA tB ta tc) := (T7.out.step hb).step (alloc_step w8 _)
    have D9 : Hid (Wds (w8.alloc (.cells #[.int .i64 yK, .int .i64 yL, .int .u8 yS, .slice za yn zc, .bool yh, .int .i64 yA, .int .i64 yB] 26)) da dn l) := (D7.out.later hb).later (alloc_step w8 _)
    have Z9 : Hid (Kb (w8.alloc (.cells #[.int .i64 yK, .int .i64 yL, .int .u8 yS, .slice za yn zc, .bool yh, .int .i64 yA, .int .i64 yB] 26)) w8.heap.size yK yL yS yn yl yh yA yB za zc) := kb_new hz
    have B9 : Hid (Below w.heap.size w (w8.alloc (.cells #[.int .i64 yK, .int .i64 yL, .int .u8 yS, .slice za yn zc, .bool yh, .int .i64 yA, .int .i64 yB] 26))) := step_on (step_on B7.out B7.out.size hb) (by have := B7.out.size; have := hb.size; omega) (alloc_step w8 _)
    clear hz hb X7 Y7 T7 D7 B7
    go_upto_region 10 with fail
    generalize w8.alloc (.cells #[.int .i64 yK, .int .i64 yL, .int .u8 yS, .slice za yn zc, .bool yh, .int .i64 yA, .int .i64 yB] 26) = w9 at X9 Y9 T9 D9 Z9 B9 ⊢
    generalize w8.heap.size = b8 at Z9 ⊢
    obtain ⟨lx, x0, x1, x2, x3, x4, x5, x6⟩ := link_cells X9.out.box
    cases h with
    | false =>
      obtain ⟨hq, rfl, rfl⟩ := F2b.out rfl
      cases hq
      clear F2b F3b F4b F5b
      go_upto_region 11 with fail
      clear lx x0 x1 x2 x3 x4 x5 x6
      have bw := alloc_step w9 (.cells #[.int .i64 K, .int .i64 L, .int .u8 S, .slice a n c, .bool false, .int .i64 A, .int .i64 B] 26)
      have X10 : Hid (Kb (w9.alloc (.cells #[.int .i64 K, .int .i64 L, .int .u8 S, .slice a n c, .bool false, .int .i64 A, .int .i64 B] 26)) w.heap.size K L S n l false A B a c) := X9.out.step bw
      have Y10 : Hid (Kb (w9.alloc (.cells #[.int .i64 K, .int .i64 L, .int .u8 S, .slice a n c, .bool false, .int .i64 A, .int .i64 B] 26)) b2 yK yL yS yn yl yh yA yB ya yc) := Y9.out.step bw
      have Z10 : Hid (Kb (w9.alloc (.cells #[.int .i64 K, .int .i64 L, .int .u8 S, .slice a n c, .bool false, .int .i64 A, .int .i64 B] 26)) b8 yK yL yS yn yl yh yA yB za zc) := Z9.out.step bw
      have T10 : Hid (Kb (w9.alloc (.cells #[.int .i64 K, .int .i64 L, .int .u8 S, .slice a n c, .bool false, .int .i64 A, .int .i64 B] 26)) b4 K L S n l false A B ta tc) := T9.out.step bw
      have V10 : Hid (Kb (w9.alloc (.cells #[.int .i64 K, .int .i64 L, .int .u8 S, .slice a n c, .bool false, .int .i64 A, .int .i64 B] 26)) w9.heap.size K L S n l false A B a c) := kb_new X9.out.wds
      have B10 : Hid (Below w.heap.size w (w9.alloc (.cells #[.int .i64 K, .int .i64 L, .int .u8 S, .slice a n c, .bool false, .int .i64 A, .int .i64 B] 26))) := step_on B9.out B9.out.size bw
      clear bw X9 Y9 Z9 T9 D9 B9
      generalize w9.alloc (.cells #[.int .i64 K, .int .i64 L, .int .u8 S, .slice a n c, .bool false, .int .i64 A, .int .i64 B] 26) = w10 at X10 Y10 Z10 T10 V10 B10 ⊢
      generalize w9.heap.size = b9 at V10 ⊢
      obtain ⟨lx, x0, x1, x2, x3, x4, x5, x6⟩ := link_cells X10.out.box
      obtain ⟨ly, y0, y1, y2, y3, y4, y5, y6⟩ := link_cells Y10.out.box
      obtain ⟨lz, z0, z1, z2, z3, z4, z5, z6⟩ := link_cells Z10.out.box
      go_wp2_with fail
      clear lx x0 x1 x2 x3 x4 x5 x6 ly y0 y1 y2 y3 y4 y5 y6 lz z0 z1 z2 z3 z4 z5 z6
      refine (CS.out _ _ _ _ _ _ _ _ _ _ _ _ _ N2.out.1 Y10.out.wds Z10.out.wds).mono ?_
      rintro e w11 ⟨rfl, hb⟩
      have T11 : Hid (Kb w11 b4 K L S n l false A B ta tc) := T10.out.step hb
      have V11 : Hid (Kb w11 b9 K L S n l false A B a c) := V10.out.step hb
      have B11 : Hid (Below w.heap.size w w11) := step_on B10.out B10.out.size hb
      clear hb X10 Y10 Z10 T10 V10 B10
      obtain ⟨lt, t0, t1, t2, t3, t4, t5, t6⟩ := link_cells T11.out.box
      obtain ⟨lv, v0, v1, v2, v3, v4, v5, v6⟩ := link_cells V11.out.box
      go_wp2_with fail
      clear lt t0 t1 t2 t3 t4 t5 t6 lv v0 v1 v2 v3 v4 v5 v6
      refine (CS.out _ _ _ _ _ _ _ _ _ _ _ _ _ N2.out.2 T11.out.wds V11.out.wds).mono ?_
      rintro e w12 ⟨rfl, hb⟩
      have B12 : Hid (Below w.heap.size w w12) := step_on B11.out B11.out.size hb
      clear hb
      go_wp2_with fail
      go_ret
      exact ⟨rfl, B12.out⟩
    | true =>
      obtain hq := F3b.out rfl
      cases hq
      clear F2b F3b
      have mn : ∀ W : World, (Builtin.min_ #[3, 3] 3 #[.int .i64 100, .int .i64 (A + 1)]).run Try.prog W = .ok (.int .i64 (upA A)) W := fun W => by
        rw [run_min_int2, up_min A HA2.out.1 HA2.out.2]
      have hA0 : -1 < A := by have := HA2.out; omega
      have hA1 : A < 101 := by have := HA2.out; omega
      generalize upA A = U at *
      go_upto_region 13 with fail
      clear lx x0 x1 x2 x3 x4 x5 x6
      have bw := alloc_step w9 (.cells #[.int .i64 K, .int .i64 L, .int .u8 S, .slice a n c, .bool true, .int .i64 U, .int .i64 B] 26)
      have X10 : Hid (Kb (w9.alloc (.cells #[.int .i64 K, .int .i64 L, .int .u8 S, .slice a n c, .bool true, .int .i64 U, .int .i64 B] 26)) w.heap.size K L S n l true A B a c) := X9.out.step bw
      have Y10 : Hid (Kb (w9.alloc (.cells #[.int .i64 K, .int .i64 L, .int .u8 S, .slice a n c, .bool true, .int .i64 U, .int .i64 B] 26)) b2 yK yL yS yn yl yh yA yB ya yc) := Y9.out.step bw
      have Z10 : Hid (Kb (w9.alloc (.cells #[.int .i64 K, .int .i64 L, .int .u8 S, .slice a n c, .bool true, .int .i64 U, .int .i64 B] 26)) b8 yK yL yS yn yl yh yA yB za zc) := Z9.out.step bw
      have T10 : Hid (Kb (w9.alloc (.cells #[.int .i64 K, .int .i64 L, .int .u8 S, .slice a n c, .bool true, .int .i64 U, .int .i64 B] 26)) b4 K L S n l true U B ta tc) := T9.out.step bw
      have D10 : Hid (Wds (w9.alloc (.cells #[.int .i64 K, .int .i64 L, .int .u8 S, .slice a n c, .bool true, .int .i64 U, .int .i64 B] 26)) da dn l) := D9.out.later bw
      have V10 : Hid (Kb (w9.alloc (.cells #[.int .i64 K, .int .i64 L, .int .u8 S, .slice a n c, .bool true, .int .i64 U, .int .i64 B] 26)) w9.heap.size K L S n l true U B a c) := kb_new X9.out.wds
      have B10 : Hid (Below w.heap.size w (w9.alloc (.cells #[.int .i64 K, .int .i64 L, .int .u8 S, .slice a n c, .bool true, .int .i64 U, .int .i64 B] 26))) := step_on B9.out B9.out.size bw
      clear bw X9 Y9 Z9 T9 D9 B9
      generalize w9.alloc (.cells #[.int .i64 K, .int .i64 L, .int .u8 S, .slice a n c, .bool true, .int .i64 U, .int .i64 B] 26) = w10 at X10 Y10 Z10 T10 D10 V10 B10 ⊢
      generalize w9.heap.size = b9 at V10 ⊢
      rcases Int.lt_or_le m A with q | q
      · obtain ⟨rfl, rfl⟩ := F4b.out rfl q
        have q' : A > m := q
        clear F4b F5b
        obtain ⟨lx, x0, x1, x2, x3, x4, x5, x6⟩ := link_cells X10.out.box
        obtain ⟨ly, y0, y1, y2, y3, y4, y5, y6⟩ := link_cells Y10.out.box
        obtain ⟨lz, z0, z1, z2, z3, z4, z5, z6⟩ := link_cells Z10.out.box
        go_wp2_with fail
        clear lx x0 x1 x2 x3 x4 x5 x6 ly y0 y1 y2 y3 y4 y5 y6 lz z0 z1 z2 z3 z4 z5 z6
        refine (CS.out _ _ _ _ _ _ _ _ _ _ _ _ _ N2.out.1 Y10.out.wds Z10.out.wds).mono ?_
        rintro e w11 ⟨rfl, hb⟩
        have T11 : Hid (Kb w11 b4 K L S n l true U B ta tc) := T10.out.step hb
        have V11 : Hid (Kb w11 b9 K L S n l true U B a c) := V10.out.step hb
        have B11 : Hid (Below w.heap.size w w11) := step_on B10.out B10.out.size hb
        clear hb X10 Y10 Z10 T10 V10 B10
        obtain ⟨lt, t0, t1, t2, t3, t4, t5, t6⟩ := link_cells T11.out.box
        obtain ⟨lv, v0, v1, v2, v3, v4, v5, v6⟩ := link_cells V11.out.box
        go_wp2_with fail
        clear lt t0 t1 t2 t3 t4 t5 t6 lv v0 v1 v2 v3 v4 v5 v6
        refine (CS.out _ _ _ _ _ _ _ _ _ _ _ _ _ N2.out.2 T11.out.wds V11.out.wds).mono ?_
        rintro e w12 ⟨rfl, hb⟩
        have B12 : Hid (Below w.heap.size w w12) := step_on B11.out B11.out.size hb
        clear hb
        go_wp2_with fail
        go_ret
        exact ⟨rfl, B12.out⟩
      · obtain ⟨hD, hdn⟩ := F5b.out rfl q
        subst hD
        subst hdn
        have q' : ¬ A > m := by omega
        clear F4b F5b
        rcases Nat.eq_zero_or_pos dn with hz | hz
        · subst hz
          obtain ⟨lx, x0, x1, x2, x3, x4, x5, x6⟩ := link_cells X10.out.box
          go_wp2_with fail
          clear lx x0 x1 x2 x3 x4 x5 x6
          refine (CL.out da dc _ D10.out X10.out.wds).mono ?_
          rintro e w13 ⟨rfl, hb⟩
          have X13 : Hid (Kb w13 w.heap.size K L S 0 l true A B a c) := X10.out.step hb
          have Y13 : Hid (Kb w13 b2 yK yL yS yn yl yh yA yB ya yc) := Y10.out.step hb
          have Z13 : Hid (Kb w13 b8 yK yL yS yn yl yh yA yB za zc) := Z10.out.step hb
          have T13 : Hid (Kb w13 b4 K L S 0 l true U B ta tc) := T10.out.step hb
          have V13 : Hid (Kb w13 b9 K L S 0 l true U B a c) := V10.out.step hb
          have B13 : Hid (Below w.heap.size w w13) := step_on B10.out B10.out.size hb
          clear hb X10 Y10 Z10 T10 D10 V10 B10
          obtain ⟨lx, x0, x1, x2, x3, x4, x5, x6⟩ := link_cells X13.out.box
          obtain ⟨ly, y0, y1, y2, y3, y4, y5, y6⟩ := link_cells Y13.out.box
          obtain ⟨lz, z0, z1, z2, z3, z4, z5, z6⟩ := link_cells Z13.out.box
          go_wp2_with fail
          clear lx x0 x1 x2 x3 x4 x5 x6 ly y0 y1 y2 y3 y4 y5 y6 lz z0 z1 z2 z3 z4 z5 z6
          refine (CS.out _ _ _ _ _ _ _ _ _ _ _ _ _ N2.out.1 Y13.out.wds Z13.out.wds).mono ?_
          rintro e w11 ⟨rfl, hb⟩
          have T11 : Hid (Kb w11 b4 K L S 0 l true U B ta tc) := T13.out.step hb
          have V11 : Hid (Kb w11 b9 K L S 0 l true U B a c) := V13.out.step hb
          have B11 : Hid (Below w.heap.size w w11) := step_on B13.out B13.out.size hb
          clear hb X13 Y13 Z13 T13 V13 B13
          obtain ⟨lt, t0, t1, t2, t3, t4, t5, t6⟩ := link_cells T11.out.box
          obtain ⟨lv, v0, v1, v2, v3, v4, v5, v6⟩ := link_cells V11.out.box
          go_wp2_with fail
          clear lt t0 t1 t2 t3 t4 t5 t6 lv v0 v1 v2 v3 v4 v5 v6
          refine (CS.out _ _ _ _ _ _ _ _ _ _ _ _ _ N2.out.2 T11.out.wds V11.out.wds).mono ?_
          rintro e w12 ⟨rfl, hb⟩
          have B12 : Hid (Below w.heap.size w w12) := step_on B11.out B11.out.size hb
          clear hb
          go_wp2_with fail
          go_ret
          exact ⟨rfl, B12.out⟩
        · have hz' : ((dn : Int) == 0) = false := by simp; omega
          clear hz
          obtain ⟨lx, x0, x1, x2, x3, x4, x5, x6⟩ := link_cells X10.out.box
          go_wp2_with fail
          clear lx x0 x1 x2 x3 x4 x5 x6
          refine (CL.out da dc _ D10.out X10.out.wds).mono ?_
          rintro e w13 ⟨rfl, hb⟩
          have X13 : Hid (Kb w13 w.heap.size K L S dn l true A B a c) := X10.out.step hb
          have Y13 : Hid (Kb w13 b2 yK yL yS yn yl yh yA yB ya yc) := Y10.out.step hb
          have Z13 : Hid (Kb w13 b8 yK yL yS yn yl yh yA yB za zc) := Z10.out.step hb
          have T13 : Hid (Kb w13 b4 K L S dn l true U B ta tc) := T10.out.step hb
          have V13 : Hid (Kb w13 b9 K L S dn l true U B a c) := V10.out.step hb
          have B13 : Hid (Below w.heap.size w w13) := step_on B10.out B10.out.size hb
          clear hb X10 Y10 Z10 T10 D10 V10 B10
          obtain ⟨lx, x0, x1, x2, x3, x4, x5, x6⟩ := link_cells X13.out.box
          obtain ⟨ly, y0, y1, y2, y3, y4, y5, y6⟩ := link_cells Y13.out.box
          obtain ⟨lz, z0, z1, z2, z3, z4, z5, z6⟩ := link_cells Z13.out.box
          go_wp2_with fail
          clear lx x0 x1 x2 x3 x4 x5 x6 ly y0 y1 y2 y3 y4 y5 y6 lz z0 z1 z2 z3 z4 z5 z6
          refine (CS.out _ _ _ _ _ _ _ _ _ _ _ _ _ N2.out.1 Y13.out.wds Z13.out.wds).mono ?_
          rintro e w11 ⟨rfl, hb⟩
          have T11 : Hid (Kb w11 b4 K L S dn l true U B ta tc) := T13.out.step hb
          have V11 : Hid (Kb w11 b9 K L S dn l true U B a c) := V13.out.step hb
          have B11 : Hid (Below w.heap.size w w11) := step_on B13.out B13.out.size hb
          clear hb X13 Y13 Z13 T13 V13 B13
          obtain ⟨lt, t0, t1, t2, t3, t4, t5, t6⟩ := link_cells T11.out.box
          obtain ⟨lv, v0, v1, v2, v3, v4, v5, v6⟩ := link_cells V11.out.box
          go_wp2_with fail
          clear lt t0 t1 t2 t3 t4 t5 t6 lv v0 v1 v2 v3 v4 v5 v6
          refine (CS.out _ _ _ _ _ _ _ _ _ _ _ _ _ N2.out.2 T11.out.wds V11.out.wds).mono ?_
          rintro e w12 ⟨rfl, hb⟩
          have B12 : Hid (Below w.heap.size w w12) := step_on B11.out B11.out.size hb
          clear hb
          go_wp2_with fail
          go_ret
          exact ⟨rfl, B12.out⟩
  · obtain ⟨hG, hq, hq2, hD, hdn⟩ := F1.out hE
    have hE' : (E != 0) = true := by simpa using hE
    clear F1 F2 F3 F4 F5 HA CQ hE
    subst hG
    subst hD
    subst hdn
    cases hq
    cases hq2
    obtain ⟨ly, y0, y1, y2, y3, y4, y5, y6⟩ := link_cells Y7.out.box
    go_wp2_with fail
    clear ly y0 y1 y2 y3 y4 y5 y6
    refine (CN.out _ _ _).mono ?_
    rintro e w8 ⟨rfl, hb⟩
    have T8 : Hid (Kb w8 b4 0 0 0 0 (fun _ => 0) false 0 0 ta tc) := T7.out.step hb
    have B8 : Hid (Below w.heap.size w w8) := step_on B7.out B7.out.size hb
    clear hb X7 Y7 T7 D7 B7
    obtain ⟨lx, x0, x1, x2, x3, x4, x5, x6⟩ := link_cells T8.out.box
    go_wp2_with fail
    clear lx x0 x1 x2 x3 x4 x5 x6
    refine (CN.out _ _ _).mono ?_
    rintro e w9 ⟨rfl, hb⟩
    have B9 : Hid (Below w.heap.size w w9) := step_on B8.out B8.out.size hb
    clear hb
    go_wp2_with fail
    go_ret
    exact ⟨rfl, B9.out⟩

/-! ### THE ROW's STEP -/
set_option maxRecDepth 100000 in
theorem lifted (os : Os) (started : os.Started) (H : Type) (enc : TypeId × Value → H) :
    ReturnsInHanded {} Try.checked os 3 .any (Rows.linkSaysSpec.pre6 enc Try.prog Try.f3 Rows.linkSaysRow.domain false) (Rows.linkSaysSpec.post enc Try.prog Try.f3 false true false false) := by
  refine returnsInHanded_of_change_sized (C := Try.checked) own started (by kernel_rfl) Try.func3
    (ChangeSpec.witness6 (enc := enc) (C := Try.checked) false ⟨#[], #[.agg #[.int .i64 0, .int .i64 0, .int .u8 0, .slice none 0 0, .bool false, .int .i64 0, .int .i64 0], .string ByteArray.empty, .int .i64 0], []⟩ 8 (by kernel_rfl) (by kernel_rfl) (by kernel_rfl) (by kernel_rfl)) ?_
  intro W base args ds gs before hval0 hW hcnd hsz0 _
  have hval : ∀ (j : Nat) t v, Try.f3.params[j]? = some t → args[j]? = some v → Value.okWide Try.prog W .any base t v := hval0
  have hW' := hW
  obtain ⟨p, q, hA0, hV, rfl, hfz, hnd⟩ := hW
  have hA : DataW.TrodAll enc Try.prog W 0 (fun _ => true) true Try.f3.params.toList args.toList ds p := hA0
  rw [Try.params3] at hA hval
  obtain ⟨v0, vs0, d0, ds0, p0, q0, hargs, rfl, rfl, h0, r0⟩ := trodAll_cons hA
  obtain ⟨v1, vs1, d1, ds1, p1, q1, rfl, rfl, rfl, h1, r1⟩ := trodAll_cons r0
  obtain ⟨v2, vs2, d2, ds2, p2, q2, rfl, rfl, rfl, h2, r2⟩ := trodAll_cons r1
  obtain ⟨rfl, rfl, rfl⟩ := trodAll_nil r2
  obtain rfl : args = #[v0, v1, v2] := by cases args; simp_all
  obtain ⟨rfl, rfl⟩ := trodVars_none hV
  have hz0 : Light Try.prog 26 d0 := light_of hsz0 (j := 0) (by first | rfl | (rw [Try.params3]; rfl)) rfl
  have k0 := h0
  have lt0 : ∀ x ∈ p0, x.block < W.heap.size := by obtain ⟨m, hm⟩ := k0; exact DataW.trod_lt m _ _ _ hm
  obtain ⟨cs0, rfl, _⟩ := okWide_struct Try.underlying26 (hval 0 26 v0 rfl rfl)
  obtain ⟨lLastKind, lLastLane, lLastSeq, lLastWordsa, lLastWordsn, lLastWordsc, lLastWords, lHeard, lAge, lBad, e0, h_lLastKind, h_lLastLane, h_lLastSeq, h_lLastWords, h_lAge, h_lBad⟩ := (by obtain ⟨fuel, hf⟩ := h0; exact open26 hf hz0 : ∃ lLastKind : Int, ∃ lLastLane : Int, ∃ lLastSeq : Int, ∃ (lLastWordsa : Option Addr) (lLastWordsn lLastWordsc : Nat) (lLastWords : Nat → Int), ∃ lHeard : Bool, ∃ lAge : Int, ∃ lBad : Int, cs0.toList = [.int .i64 lLastKind, .int .i64 lLastLane, .int .u8 lLastSeq, .slice lLastWordsa lLastWordsn lLastWordsc, .bool lHeard, .int .i64 lAge, .int .i64 lBad] ∧ (Lit.int .i64 lLastKind).wf = true ∧ (Lit.int .i64 lLastLane).wf = true ∧ (Lit.int .u8 lLastSeq).wf = true ∧ RowZ .i32 4 W lLastWordsa lLastWordsn lLastWordsc lLastWords ∧ (Lit.int .i64 lAge).wf = true ∧ (Lit.int .i64 lBad).wf = true)
  obtain rfl : cs0 = #[.int .i64 lLastKind, .int .i64 lLastLane, .int .u8 lLastSeq, .slice lLastWordsa lLastWordsn lLastWordsc, .bool lHeard, .int .i64 lAge, .int .i64 lBad] := by cases cs0; simp_all
  clear e0
  have hz1 : Light Try.prog 9 d1 := light_of hsz0 (j := 1) (by first | rfl | (rw [Try.params3]; rfl)) rfl
  have k1 := h1
  have lt1 : ∀ x ∈ p1, x.block < W.heap.size := by obtain ⟨m, hm⟩ := k1; exact DataW.trod_lt m _ _ _ hm
  obtain ⟨s, rfl, rfl, rfl, h_s⟩ := Go.ChangeMaps.open_string Try.underlying9 (hval 1 9 v1 rfl rfl) h1
  replace h_s : s.size ≤ 140737488351232 := light_string hz1
  have hz2 : Light Try.prog 3 d2 := light_of hsz0 (j := 2) (by first | rfl | (rw [Try.params3]; rfl)) rfl
  have k2 := h2
  have lt2 : ∀ x ∈ p2, x.block < W.heap.size := by obtain ⟨m, hm⟩ := k2; exact DataW.trod_lt m _ _ _ hm
  obtain ⟨most, rfl, rfl, rfl, h_most⟩ := open_int Try.underlying3 (hval 2 3 v2 rfl rfl) h2
  clear hA0 hval0
  refine (walk lLastKind lLastLane lLastSeq lLastWordsa lLastWordsn lLastWordsc lLastWords lHeard lAge lBad s most W h_lLastKind h_lLastLane h_lLastSeq h_lLastWords h_lAge h_lBad h_s h_most).mono fun e W' ⟨he, bel⟩ => ?_
  subst he
  exact ⟨_, rfl, _, _, _, [], _, [], hW', trodAll_mk1 (shut_bool Try.underlying4 _), (trodAll_cons_mk (Below.trod laidOut (by kernel_rfl) (of_decide_eq_true (by kernel_rfl)) k0 bel lt0) (trodAll_cons_mk (Below.trod laidOut (by kernel_rfl) (of_decide_eq_true (by kernel_rfl)) k1 bel lt1) (trodAll_cons_mk (Below.trod laidOut (by kernel_rfl) (of_decide_eq_true (by kernel_rfl)) k2 bel lt2) trodAll_mk0))), rfl, bel.frame _, fun h => by cases h⟩

theorem over : Rows.linkSaysRow.holds Try.pinned (OpenSpec.ofChange Rows.linkSaysSpec) :=
  OpenClaim.holds_of_wide 3 Try.f3 rfl rfl rfl rfl rfl rfl rfl ⟨rfl, rfl, rfl, rfl, rfl⟩ rfl rfl rfl rfl rfl (by kernel_rfl) Try.func3 (by kernel_rfl)
    (of_decide_eq_true (by kernel_rfl)) (by unfold Func.isWrapper; first | (rw [if_pos (by decide +kernel)]; kernel_rfl) | (rw [if_neg (by decide +kernel)]; exact ⟨rfl, rfl⟩))
    (fun os started H enc _ => lifted os started H enc)


end Go.Proofs.Ytiaolelkabbnmaa.linkSays
namespace Go.Proofs.Ytiaolelkabbnmaa
/-- THE STATEMENT -/
theorem linkSays_holds : Rows.LinkSaysSaid := linkSays.over
#print axioms linkSays_holds
end Go.Proofs.Ytiaolelkabbnmaa
