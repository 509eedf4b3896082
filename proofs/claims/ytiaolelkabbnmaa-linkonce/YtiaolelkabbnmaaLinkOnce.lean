/-
  Whatever is handed in, the law LinkOnce returns true: what was heard is not heard again, nor what is older, until the last one is too old. No condition.
-/
import Derived.Test.YtiaolelkabbnmaaLnkAll
import Derived.Test.YtiaolelkabbnmaaFrmOpen
import Derived.ProofKit
namespace Go.Proofs.Ytiaolelkabbnmaa.linkOnce
open Go.ChangeShapes Go.WideShapes Go.ChangeAt Go.RowKit
set_option linter.unusedVariables false

theorem own : ownKnob Try.prog.godebug = none := by kernel_rfl
theorem laidOut : laidOutB Try.prog = true := by kernel_rfl


/-- a link of the law's: it heard something, just now -/
structure Ok1 (l : Lk) : Prop where
  K : l.F.K = 1
  L : l.F.L = 0
  n : l.F.n ≤ 8
  h : l.h = true
  A : l.A = 0
  b0 : 0 ≤ l.B
  b1 : l.B ≤ 10000
theorem Ok1.right {l : Lk} (o : Ok1 l) : lkErr l = 0 := by
  unfold lkErr
  rw [o.h, o.A, o.K, o.L, lkE_heard (by decide) (by decide) o.b0 o.b1]
  unfold frE
  have := o.n
  rw [if_neg (by omega), if_neg (by omega)]
/-- a text without words -/
def tx (x : Int) : ByteArray := pkT ⟨1, 0, x, 0, fun _ => 0⟩
theorem tx_E (x : Int) : pkE ⟨1, 0, x, 0, fun _ => 0⟩ = 0 := rfl
theorem tx_read (x : Int) (h0 : 0 ≤ x) (h1 : x < 256) : rdE (tx x) = 0 ∧ (rdF (tx x)).K = 1 ∧ (rdF (tx x)).L = 0 ∧ (rdF (tx x)).S = x ∧ (rdF (tx x)).n = 0 := by
  obtain ⟨r0, r1, r2, r3, r4, _⟩ := read_packed ⟨1, 0, x, 0, fun _ => 0⟩ (tx_E x) h0 h1 (fun _ => by show (-2147483648 : Int) ≤ 0 ∧ (0 : Int) ≤ 2147483647; omega)
  exact ⟨r0, r1, r2, r3, r4⟩
theorem stale_once {l : Lk} (o : Ok1 l) (x : Int) (h0 : 0 ≤ x) (h1 : x < 256) : staleB l (tx x) = !newB x l.F.S := by
  obtain ⟨_, _, _, r3, _⟩ := tx_read x h0 h1
  unfold staleB
  rw [o.h, o.A, r3]
  rfl
theorem new_self (x : Int) : newB x x = false := by
  unfold newB
  rw [Int.sub_self]
  decide
theorem up_in {B : Int} (b0 : 0 ≤ B) (b1 : B ≤ 10000) : 0 ≤ upB B ∧ upB B ≤ 10000 := by
  unfold upB
  split <;> omega
/-- what is newer is heard, and not again -/
theorem once_new {l : Lk} (o : Ok1 l) (x : Int) (h0 : 0 ≤ x) (h1 : x < 256) (hq : newB x l.F.S = true) : hrE l (tx x) = 0 ∧ Ok1 (hrL l (tx x)) ∧ hrE (hrL l (tx x)) (tx x) = 6 := by
  obtain ⟨r0, r1, r2, r3, r4⟩ := tx_read x h0 h1
  have e := hrE_new o.right r0 (by rw [stale_once o x h0 h1, hq]; rfl)
  have o2 : Ok1 (hrL l (tx x)) := by
    rw [hrL_new o.right e]
    exact ⟨r1, r2, by simp only [r4]; omega, rfl, rfl, o.b0, o.b1⟩
  refine ⟨e, o2, hrE_stale o2.right r0 ?_⟩
  rw [stale_once o2 x h0 h1, hrL_new o.right e]
  simp only [r3, new_self]
  rfl
/-- what is not newer is not heard -/
theorem once_old {l : Lk} (o : Ok1 l) (x : Int) (h0 : 0 ≤ x) (h1 : x < 256) (hq : newB x l.F.S = false) : hrE l (tx x) = 6 ∧ Ok1 (hrL l (tx x)) ∧ hrE (hrL l (tx x)) (tx x) = 6 := by
  obtain ⟨r0, r1, r2, r3, r4⟩ := tx_read x h0 h1
  have e := hrE_stale o.right r0 (by rw [stale_once o x h0 h1, hq]; rfl)
  have e2 := hrL_spoilt o.right (s := tx x) (by rw [e]; decide)
  have o2 : Ok1 (hrL l (tx x)) := by
    rw [e2]
    exact ⟨o.K, o.L, o.n, o.h, o.A, (up_in o.b0 o.b1).1, (up_in o.b0 o.b1).2⟩
  refine ⟨e, o2, hrE_stale o2.right r0 ?_⟩
  rw [stale_once o2 x h0 h1, e2]
  simp only [hq]
  rfl

/-- the link in its box, and its words -/
structure On (w : World) (b : Nat) (l : Lk) (a : Option Addr) (c : Nat) (W : World) : Prop where
  ok : Ok1 l
  box : Cells W b [.int .i64 l.F.K, .int .i64 l.F.L, .int .u8 l.F.S, .slice a l.F.n c, .bool l.h, .int .i64 l.A, .int .i64 l.B]
  wds : Wds W a l.F.n l.F.l
  ne : 0 < l.F.n → ∀ x, a = some x → x.block ≠ b
  ge : w.heap.size ≤ b
  bel : Below w.heap.size w W
theorem On.step {w W W' : World} {b c : Nat} {l : Lk} {a : Option Addr} (h : On w b l a c W) (hb : Below W.heap.size W W') : On w b l a c W' := ⟨h.ok, h.box.step hb, h.wds.later hb, h.ne, h.ge, h.bel.trans (hb.mono h.bel.size)⟩
/-- the link's box is written -/
theorem On.put {w W : World} {b c c' : Nat} {l l' : Lk} {a a' : Option Addr} (h : On w b l a c W) (o : Ok1 l') (h2 : Wds W a' l'.F.n l'.F.l) (h3 : ∀ x, a' = some x → b < x.block) :
    On w b l' a' c' (((((((W.setCell ⟨b, 0, none⟩ (.int .i64 l'.F.K)).setCell ⟨b, 1, none⟩ (.int .i64 l'.F.L)).setCell ⟨b, 2, none⟩ (.int .u8 l'.F.S)).setCell ⟨b, 3, none⟩ (.slice a' l'.F.n c')).setCell ⟨b, 4, none⟩ (.bool l'.h)).setCell ⟨b, 5, none⟩ (.int .i64 l'.A)).setCell ⟨b, 6, none⟩ (.int .i64 l'.B)) := by
  obtain ⟨w4, hw4, C4, b4, s4, o4, _⟩ := link_put h.box h.bel h.ge (.int .i64 l'.F.K) (.int .i64 l'.F.L) (.int .u8 l'.F.S) (.slice a' l'.F.n c') (.bool l'.h) (.int .i64 l'.A) (.int .i64 l'.B)
  rw [hw4]
  refine ⟨o, C4, fun h0 => ?_, fun _ x hx => by have := h3 x hx; omega, h.ge, b4⟩
  obtain ⟨q, o, rfl, hlt, hrow⟩ := h2 h0
  exact Wds.block (fun _ => ⟨q, o, rfl, hlt, hrow⟩) (by rw [s4]; exact Nat.le_refl _) (o4 q (by have := h3 _ rfl; simp at this; omega)) h0

set_option maxHeartbeats 2000000 in
set_option maxRecDepth 100000 in
theorem walk (seqsa : Option Addr) (seqsn seqsc : Nat) (seqs : Nat → Int) (w : World) (h_seqs : RowZ .u8 1 w seqsa seqsn seqsc seqs) :
    Calls Try.prog 6 #[.slice seqsa seqsn seqsc] w fun e w' => e = .returned (.bool true) ∧ Below w.heap.size w w' := by
  have CP : Hid (∀ (x : Int) (W : World), 0 ≤ x → x < 256 → Calls Try.prog 20 #[.agg #[.int .i64 1, .int .i64 0, .int .u8 x, .slice none 0 0]] W fun e w' => e = .returned (.tuple #[.string (tx x), .int .i64 0]) ∧ Below W.heap.size W w') := fun x W h0 h1 => pack_any ⟨1, 0, x, 0, fun _ => 0⟩ none 0 W h0 h1 (wds_zero _ _ _)
  have CH : Hid (∀ (l : Lk) (a : Option Addr) (c : Nat) (x : Int) (W : World), Wds W a l.F.n l.F.l → Calls Try.prog 9 #[.agg #[.int .i64 l.F.K, .int .i64 l.F.L, .int .u8 l.F.S, .slice a l.F.n c, .bool l.h, .int .i64 l.A, .int .i64 l.B], .string (tx x)] W fun e w' => ∃ a' c', e = .returned (.tuple #[.agg #[.int .i64 (hrL l (tx x)).F.K, .int .i64 (hrL l (tx x)).F.L, .int .u8 (hrL l (tx x)).F.S, .slice a' (hrL l (tx x)).F.n c', .bool (hrL l (tx x)).h, .int .i64 (hrL l (tx x)).A, .int .i64 (hrL l (tx x)).B], .int .i64 (hrE l (tx x))]) ∧ Wds w' a' (hrL l (tx x)).F.n (hrL l (tx x)).F.l ∧ (∀ x, a' = some x → W.heap.size ≤ x.block) ∧ Below W.heap.size W w') := fun l a c x W h => hear_any l a c (tx x) W h (pk_size _)
  have HR : Hid (∀ j, j < seqsn → 0 ≤ seqs j ∧ seqs j < 256 ∧ ∃ b o, seqsa = some ⟨b, o, none⟩ ∧ b < w.heap.size ∧ w.cell? ⟨b, o + j, none⟩ = some (.int .u8 (seqs j))) := fun j hj => by
    obtain ⟨⟨_, _, h3, h4⟩, _, _⟩ := h_seqs
    obtain ⟨b, o, e, hlt, hr⟩ := h4 (by omega)
    exact ⟨(u8_of (h3 j)).1, (u8_of (h3 j)).2, b, o, e, hlt, hr j hj⟩
  have HN : (seqsn : Int) ≤ 140737488351232 := by
    have := h_seqs.2.1
    omega
  clear h_seqs
  go_enter Try.func6, Try.ntmps6
  go_wp2_with fail
  refine (heard_any _).mono ?_
  rintro e w1 ⟨a, c, rfl, hw, ha, hb⟩
  have X1 : Hid (On w w1.heap.size ⟨frSev, true, 0, 0⟩ a c (w1.alloc (.cells #[.int .i64 1, .int .i64 0, .int .u8 5, .slice a 1 c, .bool true, .int .i64 0, .int .i64 0] 26))) := ⟨⟨rfl, rfl, by decide, rfl, rfl, by decide, by decide⟩, cells_new w1 _ _, hw.later ((Below.refl _ w1).alloc (Nat.le_refl _) _), fun _ x hx => by obtain ⟨q, o, e, hlt, _⟩ := hw (by decide); rw [e] at hx; cases hx; show q ≠ _; omega, hb.size, hb.alloc hb.size _⟩
  clear hw ha hb
  go_upto_region 2 with fail
  generalize w1.alloc (.cells #[.int .i64 1, .int .i64 0, .int .u8 5, .slice a 1 c, .bool true, .int .i64 0, .int .i64 0] 26) = w2 at X1 ⊢
  generalize w1.heap.size = b at X1 ⊢
  obtain ⟨lx, x0, x1, x2, x3, x4, x5, x6⟩ := link_cells X1.out.box
  simp only at x4 x6
  go_wp2_with fail
  clear lx x0 x1 x2 x3 x4 x5 x6
  go_loopw [23] (fun i wr => ∃ (j : Nat) (l : Lk) (a : Option Addr) (c : Nat), j ≤ seqsn ∧ i = .int .i64 j ∧ Hid (On w b l a c wr)) (fun i _ => seqsn - (intOf i).toNat)
  case atStart => exact ⟨0, ⟨frSev, true, 0, 0⟩, a, c, by omega, rfl, X1⟩
  case round =>
    clear X1
    obtain ⟨j, l, a, c, hj, rfl, LJ⟩ := hrel
    rcases Nat.lt_or_ge j seqsn with g | g
    · have g' : (j : Int) < (seqsn : Int) := by omega
      obtain ⟨v0, v1, q, o, rfl, hq, hc⟩ := HR.out j g
      have y0 := (LJ.out.bel.cell (p := ⟨q, o + j, none⟩) hq).trans hc
      generalize hx : seqs j = x at *
      clear hc hq hx
      have V : Hid (0 ≤ x ∧ x < 256) := ⟨v0, v1⟩
      clear v0 v1
      go_wp2_with fail
      refine (CP.out x _ V.out.1 V.out.2).mono ?_
      rintro e w3 ⟨rfl, hb⟩
      have X3 : Hid (On w b l a c w3) := LJ.out.step hb
      clear hb LJ y0
      obtain ⟨lx, x0, x1, x2, x3, x4, x5, x6⟩ := link_cells X3.out.box
      go_wp2_with fail
      clear lx x0 x1 x2 x3 x4 x5 x6
      refine (CH.out l a c x _ X3.out.wds).mono ?_
      rintro e w4 ⟨a2, c2, rfl, hw, ha, hb⟩
      have X4 : Hid (On w b l a c w4) := X3.out.step hb
      have HO : Hid (Ok1 (hrL l (tx x)) ∧ hrE (hrL l (tx x)) (tx x) = 6 ∧ (newB x l.F.S = true ∧ hrE l (tx x) = 0 ∨ newB x l.F.S = false ∧ hrE l (tx x) = 6)) := by
        cases hn : newB x l.F.S with
        | true =>
          obtain ⟨h1, h2, h3⟩ := once_new X3.out.ok x V.out.1 V.out.2 hn
          exact ⟨h2, h3, .inl ⟨rfl, h1⟩⟩
        | false =>
          obtain ⟨h1, h2, h3⟩ := once_old X3.out.ok x V.out.1 V.out.2 hn
          exact ⟨h2, h3, .inr ⟨rfl, h1⟩⟩
      have W4 : Hid (Wds w4 a2 (hrL l (tx x)).F.n (hrL l (tx x)).F.l ∧ ∀ y, a2 = some y → b < y.block) := ⟨hw, fun y hy => by have := ha y hy; have := X3.out.box.lt; omega⟩
      clear hw ha hb X3
      generalize hrL l (tx x) = l2 at *
      generalize hrE l (tx x) = E at *
      have bw := (Below.refl _ w4).alloc (Nat.le_refl _) (.cells #[.int .i64 l2.F.K, .int .i64 l2.F.L, .int .u8 l2.F.S, .slice a2 l2.F.n c2, .bool l2.h, .int .i64 l2.A, .int .i64 l2.B] 26)
      have X5 : Hid (On w b l a c (w4.alloc (.cells #[.int .i64 l2.F.K, .int .i64 l2.F.L, .int .u8 l2.F.S, .slice a2 l2.F.n c2, .bool l2.h, .int .i64 l2.A, .int .i64 l2.B] 26))) := X4.out.step bw
      have Y5 : Hid (Cells (w4.alloc (.cells #[.int .i64 l2.F.K, .int .i64 l2.F.L, .int .u8 l2.F.S, .slice a2 l2.F.n c2, .bool l2.h, .int .i64 l2.A, .int .i64 l2.B] 26)) w4.heap.size [.int .i64 l2.F.K, .int .i64 l2.F.L, .int .u8 l2.F.S, .slice a2 l2.F.n c2, .bool l2.h, .int .i64 l2.A, .int .i64 l2.B]) := cells_new w4 _ _
      have W5 : Hid (Wds (w4.alloc (.cells #[.int .i64 l2.F.K, .int .i64 l2.F.L, .int .u8 l2.F.S, .slice a2 l2.F.n c2, .bool l2.h, .int .i64 l2.A, .int .i64 l2.B] 26)) a2 l2.F.n l2.F.l ∧ ∀ y, a2 = some y → b < y.block) := ⟨W4.out.1.later bw, W4.out.2⟩
      have NE : Hid (w4.heap.size ≠ b) := by have := X4.out.box.lt; show w4.heap.size ≠ b; omega
      clear bw X4 W4
      go_upto_region 9 with fail
      generalize w4.alloc (.cells #[.int .i64 l2.F.K, .int .i64 l2.F.L, .int .u8 l2.F.S, .slice a2 l2.F.n c2, .bool l2.h, .int .i64 l2.A, .int .i64 l2.B] 26) = w5 at X5 Y5 W5 ⊢
      generalize w4.heap.size = b5 at Y5 NE ⊢
      obtain ⟨lx, x0, x1, x2, x3, x4, x5, x6⟩ := link_cells X5.out.box
      obtain ⟨O2, E2, HQ⟩ := HO.out
      have O2' : Hid (Ok1 l2) := O2
      have CH2 : Hid (∀ (W : World), Wds W a2 l2.F.n l2.F.l → Calls Try.prog 9 #[.agg #[.int .i64 l2.F.K, .int .i64 l2.F.L, .int .u8 l2.F.S, .slice a2 l2.F.n c2, .bool l2.h, .int .i64 l2.A, .int .i64 l2.B], .string (tx x)] W fun e w' => ∃ (l3 : Lk) (a' : Option Addr) (c' : Nat), e = .returned (.tuple #[.agg #[.int .i64 l3.F.K, .int .i64 l3.F.L, .int .u8 l3.F.S, .slice a' l3.F.n c', .bool l3.h, .int .i64 l3.A, .int .i64 l3.B], .int .i64 6]) ∧ Below W.heap.size W w') := fun W h => (CH.out l2 a2 c2 x W h).mono (by rintro e w' ⟨a', c', h1, _, _, h4⟩; rw [E2] at h1; exact ⟨_, a', c', h1, h4⟩)
      clear O2 E2 HO
      rcases HQ with ⟨hn, rfl⟩ | ⟨hn, rfl⟩
      · go_wp2_with fail
        refine (newer_any x l.F.S _).mono ?_
        rintro e w6 ⟨rfl, rfl⟩
        rw [hn]
        clear lx x0 x1 x2 x3 x4 x5 x6
        obtain ⟨ly, y0, y1, y2, y3, y4, y5, y6⟩ := link_cells Y5.out
        go_wp2_with fail
        clear ly y0 y1 y2 y3 y4 y5 y6
        refine (CH2.out _ W5.out.1).mono ?_
        rintro e w7 ⟨l3, a3, c3, rfl, hb⟩
        have bw := (Below.refl _ w7).alloc (Nat.le_refl _) (.cells #[.int .i64 l3.F.K, .int .i64 l3.F.L, .int .u8 l3.F.S, .slice a3 l3.F.n c3, .bool l3.h, .int .i64 l3.A, .int .i64 l3.B] 26)
        have X8 : Hid (On w b l a c (w7.alloc (.cells #[.int .i64 l3.F.K, .int .i64 l3.F.L, .int .u8 l3.F.S, .slice a3 l3.F.n c3, .bool l3.h, .int .i64 l3.A, .int .i64 l3.B] 26))) := (X5.out.step hb).step bw
        have Y8 : Hid (Cells (w7.alloc (.cells #[.int .i64 l3.F.K, .int .i64 l3.F.L, .int .u8 l3.F.S, .slice a3 l3.F.n c3, .bool l3.h, .int .i64 l3.A, .int .i64 l3.B] 26)) b5 [.int .i64 l2.F.K, .int .i64 l2.F.L, .int .u8 l2.F.S, .slice a2 l2.F.n c2, .bool l2.h, .int .i64 l2.A, .int .i64 l2.B]) := (Y5.out.step hb).step bw
        have W8 : Hid (Wds (w7.alloc (.cells #[.int .i64 l3.F.K, .int .i64 l3.F.L, .int .u8 l3.F.S, .slice a3 l3.F.n c3, .bool l3.h, .int .i64 l3.A, .int .i64 l3.B] 26)) a2 l2.F.n l2.F.l ∧ ∀ y, a2 = some y → b < y.block) := ⟨(W5.out.1.later hb).later bw, W5.out.2⟩
        clear bw hb X5 Y5 W5
        go_upto_region 12 with fail
        generalize w7.alloc (.cells #[.int .i64 l3.F.K, .int .i64 l3.F.L, .int .u8 l3.F.S, .slice a3 l3.F.n c3, .bool l3.h, .int .i64 l3.A, .int .i64 l3.B] 26) = w8 at X8 Y8 W8 ⊢
        obtain ⟨lx, x0, x1, x2, x3, x4, x5, x6⟩ := link_cells X8.out.box
        obtain ⟨f0, f1, f2, f3, f4, f5, f6⟩ := link_froz X8.out.box
        obtain ⟨ly, y0, y1, y2, y3, y4, y5, y6⟩ := link_cells Y8.out
        go_wp2_with fail
        clear lx x0 x1 x2 x3 x4 x5 x6 f0 f1 f2 f3 f4 f5 f6 ly y0 y1 y2 y3 y4 y5 y6
        have X9 : Hid (On w b l2 a2 c2 _) := X8.out.put O2'.out W8.out.1 W8.out.2
        go_roundw
        case rel => exact ⟨j + 1, _, _, _, by omega, by go_num, X9⟩
        case measure => simp [intOf]; omega
      · go_wp2_with fail
        refine (newer_any x l.F.S _).mono ?_
        rintro e w6 ⟨rfl, rfl⟩
        rw [hn]
        clear lx x0 x1 x2 x3 x4 x5 x6
        obtain ⟨ly, y0, y1, y2, y3, y4, y5, y6⟩ := link_cells Y5.out
        go_wp2_with fail
        clear ly y0 y1 y2 y3 y4 y5 y6
        refine (CH2.out _ W5.out.1).mono ?_
        rintro e w7 ⟨l3, a3, c3, rfl, hb⟩
        have bw := (Below.refl _ w7).alloc (Nat.le_refl _) (.cells #[.int .i64 l3.F.K, .int .i64 l3.F.L, .int .u8 l3.F.S, .slice a3 l3.F.n c3, .bool l3.h, .int .i64 l3.A, .int .i64 l3.B] 26)
        have X8 : Hid (On w b l a c (w7.alloc (.cells #[.int .i64 l3.F.K, .int .i64 l3.F.L, .int .u8 l3.F.S, .slice a3 l3.F.n c3, .bool l3.h, .int .i64 l3.A, .int .i64 l3.B] 26))) := (X5.out.step hb).step bw
        have Y8 : Hid (Cells (w7.alloc (.cells #[.int .i64 l3.F.K, .int .i64 l3.F.L, .int .u8 l3.F.S, .slice a3 l3.F.n c3, .bool l3.h, .int .i64 l3.A, .int .i64 l3.B] 26)) b5 [.int .i64 l2.F.K, .int .i64 l2.F.L, .int .u8 l2.F.S, .slice a2 l2.F.n c2, .bool l2.h, .int .i64 l2.A, .int .i64 l2.B]) := (Y5.out.step hb).step bw
        have W8 : Hid (Wds (w7.alloc (.cells #[.int .i64 l3.F.K, .int .i64 l3.F.L, .int .u8 l3.F.S, .slice a3 l3.F.n c3, .bool l3.h, .int .i64 l3.A, .int .i64 l3.B] 26)) a2 l2.F.n l2.F.l ∧ ∀ y, a2 = some y → b < y.block) := ⟨(W5.out.1.later hb).later bw, W5.out.2⟩
        clear bw hb X5 Y5 W5
        go_upto_region 12 with fail
        generalize w7.alloc (.cells #[.int .i64 l3.F.K, .int .i64 l3.F.L, .int .u8 l3.F.S, .slice a3 l3.F.n c3, .bool l3.h, .int .i64 l3.A, .int .i64 l3.B] 26) = w8 at X8 Y8 W8 ⊢
        obtain ⟨lx, x0, x1, x2, x3, x4, x5, x6⟩ := link_cells X8.out.box
        obtain ⟨f0, f1, f2, f3, f4, f5, f6⟩ := link_froz X8.out.box
        obtain ⟨ly, y0, y1, y2, y3, y4, y5, y6⟩ := link_cells Y8.out
        go_wp2_with fail
        clear lx x0 x1 x2 x3 x4 x5 x6 f0 f1 f2 f3 f4 f5 f6 ly y0 y1 y2 y3 y4 y5 y6
        have X9 : Hid (On w b l2 a2 c2 _) := X8.out.put O2'.out W8.out.1 W8.out.2
        go_roundw
        case rel => exact ⟨j + 1, _, _, _, by omega, by go_num, X9⟩
        case measure => simp [intOf]; omega
    · have : j = seqsn := by omega
      subst this
      go_wp2_with fail
      go_ret
      exact ⟨rfl, LJ.out.bel⟩

/-! ### THE ROW's STEP -/
set_option maxRecDepth 100000 in
theorem lifted (os : Os) (started : os.Started) (H : Type) (enc : TypeId × Value → H) :
    ReturnsInHanded {} Try.checked os 6 .any (Rows.linkOnceSpec.pre6 enc Try.prog Try.f6 Rows.linkOnceRow.domain false) (Rows.linkOnceSpec.post enc Try.prog Try.f6 false true false false) := by
  refine returnsInHanded_of_change_sized (C := Try.checked) own started (by kernel_rfl) Try.func6
    (ChangeSpec.witness6 (enc := enc) (C := Try.checked) false ⟨#[], #[.slice none 0 0], []⟩ 8 (by kernel_rfl) (by kernel_rfl) (by kernel_rfl) (by kernel_rfl)) ?_
  intro W base args ds gs before hval0 hW hcnd hsz0 _
  have hval : ∀ (j : Nat) t v, Try.f6.params[j]? = some t → args[j]? = some v → Value.okWide Try.prog W .any base t v := hval0
  have hW' := hW
  obtain ⟨p, q, hA0, hV, rfl, hfz, hnd⟩ := hW
  have hA : DataW.TrodAll enc Try.prog W 0 (fun _ => true) true Try.f6.params.toList args.toList ds p := hA0
  rw [Try.params6] at hA hval
  obtain ⟨v0, vs0, d0, ds0, p0, q0, hargs, rfl, rfl, h0, r0⟩ := trodAll_cons hA
  obtain ⟨rfl, rfl, rfl⟩ := trodAll_nil r0
  obtain rfl : args = #[v0] := by cases args; simp_all
  obtain ⟨rfl, rfl⟩ := trodVars_none hV
  have hz0 : Light Try.prog 44 d0 := light_of hsz0 (j := 0) (by first | rfl | (rw [Try.params6]; rfl)) rfl
  have k0 := h0
  have lt0 : ∀ x ∈ p0, x.block < W.heap.size := by obtain ⟨m, hm⟩ := k0; exact DataW.trod_lt m _ _ _ hm
  obtain ⟨seqsa, seqsn, seqsc, rfl⟩ := okWide_slice Try.underlying44 (hval 0 44 v0 rfl rfl)
  obtain ⟨seqs, h_seqs⟩ : ∃ l, RowZ .u8 1 W seqsa seqsn seqsc l := by
    obtain ⟨fuel, hf⟩ := h0
    obtain ⟨a, m, c, l, hcs, hr⟩ := rowZ_of Try.underlying44 Try.underlying5 (by kernel_rfl) (by kernel_rfl) hf hz0
    simp [Value.cells] at hcs
    obtain ⟨rfl, rfl, rfl⟩ := hcs
    exact ⟨l, hr⟩
  clear hA0 hval0
  refine (walk seqsa seqsn seqsc seqs W h_seqs).mono fun e W' ⟨he, bel⟩ => ?_
  subst he
  exact ⟨_, rfl, _, _, _, [], _, [], hW', trodAll_mk1 (shut_bool Try.underlying4 _), (trodAll_cons_mk (Below.trod laidOut (by kernel_rfl) (of_decide_eq_true (by kernel_rfl)) k0 bel lt0) trodAll_mk0), rfl, bel.frame _, fun h => by cases h⟩

theorem over : Rows.linkOnceRow.holds Try.pinned (OpenSpec.ofChange Rows.linkOnceSpec) :=
  OpenClaim.holds_of_wide 6 Try.f6 rfl rfl rfl rfl rfl rfl rfl ⟨rfl, rfl, rfl, rfl, rfl⟩ rfl rfl rfl rfl rfl (by kernel_rfl) Try.func6 (by kernel_rfl)
    (of_decide_eq_true (by kernel_rfl)) (by unfold Func.isWrapper; first | (rw [if_pos (by decide +kernel)]; kernel_rfl) | (rw [if_neg (by decide +kernel)]; exact ⟨rfl, rfl⟩))
    (fun os started H enc _ => lifted os started H enc)


end Go.Proofs.Ytiaolelkabbnmaa.linkOnce
namespace Go.Proofs.Ytiaolelkabbnmaa
/-- THE STATEMENT -/
theorem linkOnce_holds : Rows.LinkOnceSaid := linkOnce.over
#print axioms linkOnce_holds
end Go.Proofs.Ytiaolelkabbnmaa
