/-
  A link as plain data; what Hear, Tick and Words tell of it, for every link; what the steadkeep package's own link is.
-/
import Derived.Test.YtiaolelkabbnmaaLnkHr
import Derived.Test.YtiaolelkabbnmaaLnkTick
namespace Go.Proofs.Ytiaolelkabbnmaa
open Go.RowKit
set_option linter.unusedVariables false
set_option linter.unusedSimpArgs false

/-- a link as plain data -/
structure Lk where
  F : Fr
  h : Bool
  A : Int
  B : Int
def lkNone : Lk := ⟨frNone, false, 0, 0⟩
def lkErr (l : Lk) : Int := lkE l.F.K l.F.L l.F.S l.F.n l.h l.A l.B
/-- does a text come too late -/
def staleB (l : Lk) (s : ByteArray) : Bool := l.h && decide (l.A < 100) && !newB (rdF s).S l.F.S
def hrE (l : Lk) (s : ByteArray) : Int := if lkErr l ≠ 0 then lkErr l else if rdE s ≠ 0 then rdE s else if staleB l s = true then 6 else 0
def hrL (l : Lk) (s : ByteArray) : Lk := if lkErr l ≠ 0 then lkNone else if hrE l s ≠ 0 then ⟨l.F, l.h, l.A, upB l.B⟩ else ⟨rdF s, true, 0, l.B⟩
theorem hrE_bad {l : Lk} {s : ByteArray} (h : lkErr l ≠ 0) : hrE l s = lkErr l := by unfold hrE; rw [if_pos h]
theorem hrE_read {l : Lk} {s : ByteArray} (h : lkErr l = 0) (h2 : rdE s ≠ 0) : hrE l s = rdE s := by unfold hrE; rw [if_neg (by omega), if_pos h2]
theorem hrE_stale {l : Lk} {s : ByteArray} (h : lkErr l = 0) (h2 : rdE s = 0) (h3 : staleB l s = true) : hrE l s = 6 := by unfold hrE; rw [if_neg (by omega), if_neg (by omega), if_pos h3]
theorem hrE_new {l : Lk} {s : ByteArray} (h : lkErr l = 0) (h2 : rdE s = 0) (h3 : staleB l s = false) : hrE l s = 0 := by unfold hrE; rw [if_neg (by omega), if_neg (by omega), if_neg (by rw [h3]; decide)]
theorem hrL_bad {l : Lk} {s : ByteArray} (h : lkErr l ≠ 0) : hrL l s = lkNone := by unfold hrL; rw [if_pos h]
theorem hrL_spoilt {l : Lk} {s : ByteArray} (h : lkErr l = 0) (h2 : hrE l s ≠ 0) : hrL l s = ⟨l.F, l.h, l.A, upB l.B⟩ := by unfold hrL; rw [if_neg (by omega), if_pos h2]
theorem hrL_new {l : Lk} {s : ByteArray} (h : lkErr l = 0) (h2 : hrE l s = 0) : hrL l s = ⟨rdF s, true, 0, l.B⟩ := by unfold hrL; rw [if_neg (by omega), if_neg (by omega)]

/-- what Hear tells -/
theorem hear_any (l : Lk) (a : Option Addr) (c : Nat) (s : ByteArray) (w : World) (hr : Wds w a l.F.n l.F.l) (hs : s.size ≤ 140737488351232) :
    Calls Try.prog 9 #[.agg #[.int .i64 l.F.K, .int .i64 l.F.L, .int .u8 l.F.S, .slice a l.F.n c, .bool l.h, .int .i64 l.A, .int .i64 l.B], .string s] w fun e w' => ∃ a' c', e = .returned (.tuple #[.agg #[.int .i64 (hrL l s).F.K, .int .i64 (hrL l s).F.L, .int .u8 (hrL l s).F.S, .slice a' (hrL l s).F.n c', .bool (hrL l s).h, .int .i64 (hrL l s).A, .int .i64 (hrL l s).B], .int .i64 (hrE l s)]) ∧ Wds w' a' (hrL l s).F.n (hrL l s).F.l ∧ (∀ x, a' = some x → w.heap.size ≤ x.block) ∧ Below w.heap.size w w' := by
  by_cases h : lkErr l = 0
  · by_cases h2 : rdE s = 0
    · cases h3 : staleB l s with
      | true =>
        have e := hrE_stale h h2 h3
        rw [hrL_spoilt h (by rw [e]; decide), e]
        refine (hear_stale l.F.K l.F.L l.F.S a l.F.n c l.F.l l.h l.A l.B s w h hr hs h2 h3).mono ?_
        rintro e w' ⟨g, h4, h5, h6, h7⟩
        exact ⟨some ⟨g, 0, none⟩, l.F.n, h4, h5, fun x hx => (by cases hx; exact h6), h7⟩
      | false =>
        have e := hrE_new h h2 h3
        rw [hrL_new h e, e]
        exact hear_new l.F.K l.F.L l.F.S a l.F.n c l.h l.A l.B s w h hs h2 h3
    · have e := hrE_read h h2
      rw [hrL_spoilt h (by rw [e]; exact h2), e]
      refine (hear_read l.F.K l.F.L l.F.S a l.F.n c l.F.l l.h l.A l.B (rdE s) s w h hr hs rfl h2).mono ?_
      rintro e w' ⟨g, h4, h5, h6, h7⟩
      exact ⟨some ⟨g, 0, none⟩, l.F.n, h4, h5, fun x hx => (by cases hx; exact h6), h7⟩
  · rw [hrL_bad h, hrE_bad h]
    refine (hear_bad l.F.K l.F.L l.F.S a l.F.n c l.h l.A l.B (lkErr l) s w rfl h).mono ?_
    rintro e w' ⟨h4, h7⟩
    exact ⟨none, 0, h4, wds_zero _ _ _, fun x hx => (by cases hx), h7⟩

/-- what Tick tells -/
def tkL (l : Lk) : Lk := if lkErr l ≠ 0 then lkNone else if l.h = true then ⟨l.F, true, upA l.A, l.B⟩ else l
theorem tick_any (l : Lk) (a : Option Addr) (c : Nat) (w : World) (hr : Wds w a l.F.n l.F.l) :
    Calls Try.prog 10 #[.agg #[.int .i64 l.F.K, .int .i64 l.F.L, .int .u8 l.F.S, .slice a l.F.n c, .bool l.h, .int .i64 l.A, .int .i64 l.B]] w fun e w' => ∃ a' c', e = .returned (.tuple #[.agg #[.int .i64 (tkL l).F.K, .int .i64 (tkL l).F.L, .int .u8 (tkL l).F.S, .slice a' (tkL l).F.n c', .bool (tkL l).h, .int .i64 (tkL l).A, .int .i64 (tkL l).B], .int .i64 (lkErr l)]) ∧ Wds w' a' (tkL l).F.n (tkL l).F.l ∧ (∀ x, a' = some x → w.heap.size ≤ x.block) ∧ Below w.heap.size w w' := by
  by_cases h : lkErr l = 0
  · cases h3 : l.h with
    | true =>
      have e : tkL l = ⟨l.F, true, upA l.A, l.B⟩ := by unfold tkL; rw [if_neg (by omega), if_pos h3]
      rw [e, h]
      have h' : lkE l.F.K l.F.L l.F.S l.F.n true l.A l.B = 0 := by rw [← h3]; exact h
      refine (tick_heard l.F.K l.F.L l.F.S a l.F.n c l.F.l l.A l.B w h' hr).mono ?_
      rintro e w' ⟨g, h4, h5, h6, h7⟩
      exact ⟨some ⟨g, 0, none⟩, l.F.n, h4, h5, fun x hx => (by cases hx; exact h6), h7⟩
    | false =>
      have e : tkL l = l := by unfold tkL; rw [if_neg (by omega), if_neg (by rw [h3]; decide)]
      rw [e, h, h3]
      have h' : lkE l.F.K l.F.L l.F.S l.F.n false l.A l.B = 0 := by rw [← h3]; exact h
      refine (tick_none l.F.K l.F.L l.F.S a l.F.n c l.F.l l.A l.B w h' hr).mono ?_
      rintro e w' ⟨g, h4, h5, h6, h7⟩
      exact ⟨some ⟨g, 0, none⟩, l.F.n, h4, h5, fun x hx => (by cases hx; exact h6), h7⟩
  · have e : tkL l = lkNone := by unfold tkL; rw [if_pos h]
    rw [e]
    refine (tick_bad l.F.K l.F.L l.F.S a l.F.n c l.h l.A l.B (lkErr l) w rfl h).mono ?_
    rintro e w' ⟨h4, h7⟩
    exact ⟨none, 0, h4, wds_zero _ _ _, fun x hx => (by cases hx), h7⟩

/-- what Words tells -/
def wdE (l : Lk) (m : Int) : Int := if lkErr l ≠ 0 then lkErr l else if l.h = false then 7 else if m < l.A then 6 else 0
def wdN (l : Lk) (m : Int) : Nat := if wdE l m = 0 then l.F.n else 0
theorem wdE_bad {l : Lk} {m : Int} (h : lkErr l ≠ 0) : wdE l m = lkErr l := by unfold wdE; rw [if_pos h]
theorem wdE_none {l : Lk} {m : Int} (h : lkErr l = 0) (h2 : l.h = false) : wdE l m = 7 := by unfold wdE; rw [if_neg (by omega), if_pos h2]
theorem wdE_stale {l : Lk} {m : Int} (h : lkErr l = 0) (h2 : l.h = true) (h3 : m < l.A) : wdE l m = 6 := by unfold wdE; rw [if_neg (by omega), if_neg (by rw [h2]; decide), if_pos h3]
theorem wdE_ok {l : Lk} {m : Int} (h : lkErr l = 0) (h2 : l.h = true) (h3 : l.A ≤ m) : wdE l m = 0 := by unfold wdE; rw [if_neg (by omega), if_neg (by rw [h2]; decide), if_neg (by omega)]
theorem wdN_bad {l : Lk} {m : Int} (h : wdE l m ≠ 0) : wdN l m = 0 := by unfold wdN; rw [if_neg h]
theorem wdN_ok {l : Lk} {m : Int} (h : wdE l m = 0) : wdN l m = l.F.n := by unfold wdN; rw [if_pos h]
theorem words_all (l : Lk) (a : Option Addr) (c : Nat) (m : Int) (w : World) (hr : Wds w a l.F.n l.F.l) :
    Calls Try.prog 11 #[.agg #[.int .i64 l.F.K, .int .i64 l.F.L, .int .u8 l.F.S, .slice a l.F.n c, .bool l.h, .int .i64 l.A, .int .i64 l.B], .int .i64 m] w fun e w' => ∃ a' c', e = .returned (.tuple #[.slice a' (wdN l m) c', .int .i64 (wdE l m)]) ∧ Wds w' a' (wdN l m) l.F.l ∧ (∀ x, a' = some x → w.heap.size ≤ x.block) ∧ Below w.heap.size w w' := by
  have bad : ∀ E, wdE l m = E → E ≠ 0 → Calls Try.prog 11 #[.agg #[.int .i64 l.F.K, .int .i64 l.F.L, .int .u8 l.F.S, .slice a l.F.n c, .bool l.h, .int .i64 l.A, .int .i64 l.B], .int .i64 m] w (fun e w' => e = .returned (.tuple #[.slice none 0 0, .int .i64 E]) ∧ Below w.heap.size w w') → Calls Try.prog 11 #[.agg #[.int .i64 l.F.K, .int .i64 l.F.L, .int .u8 l.F.S, .slice a l.F.n c, .bool l.h, .int .i64 l.A, .int .i64 l.B], .int .i64 m] w fun e w' => ∃ a' c', e = .returned (.tuple #[.slice a' (wdN l m) c', .int .i64 (wdE l m)]) ∧ Wds w' a' (wdN l m) l.F.l ∧ (∀ x, a' = some x → w.heap.size ≤ x.block) ∧ Below w.heap.size w w' := fun E hE h0 hc => by
    rw [wdN_bad (by rw [hE]; exact h0), hE]
    refine hc.mono fun e w' ⟨h1, h2⟩ => ⟨none, 0, h1, wds_zero _ _ _, fun x hx => (by cases hx), h2⟩
  by_cases h : lkErr l = 0
  · cases h3 : l.h with
    | true =>
      have h' : lkE l.F.K l.F.L l.F.S l.F.n true l.A l.B = 0 := by rw [← h3]; exact h
      rw [h3] at bad
      rcases Int.lt_or_le m l.A with q | q
      · exact bad 6 (wdE_stale h h3 q) (by decide) (words_stale l.F.K l.F.L l.F.S a l.F.n c l.A l.B m w h' q)
      · have e := wdE_ok h h3 q
        rw [wdN_ok e, e]
        refine (words_ok l.F.K l.F.L l.F.S a l.F.n c l.F.l l.A l.B m w h' hr q).mono ?_
        rintro e w' ⟨g, h4, h5, h6, h7⟩
        exact ⟨some ⟨g, 0, none⟩, l.F.n, h4, h5, fun x hx => (by cases hx; exact h6), h7⟩
    | false =>
      have h' : lkE l.F.K l.F.L l.F.S l.F.n false l.A l.B = 0 := by rw [← h3]; exact h
      rw [h3] at bad
      exact bad 7 (wdE_none h h3) (by decide) (words_none l.F.K l.F.L l.F.S a l.F.n c l.A l.B m w h')
  · exact bad (lkErr l) (wdE_bad h) h (words_bad l.F.K l.F.L l.F.S a l.F.n c l.h l.A l.B (lkErr l) m w rfl h)

/-- the text of a frame without words, and of the one that the laws' own link heard -/
theorem pk_size (f : Fr) : (pkT f).size ≤ 140737488351232 := by
  unfold pkT
  split
  · rename_i h
    have h8 := (frE_zero h).2
    rw [put_size, frT_size]
    omega
  · show 0 ≤ _
    omega
def frSev : Fr := ⟨1, 0, 5, 1, fun _ => 7⟩
theorem sev_E : pkE frSev = 0 := by decide
theorem sev_read : rdE (pkT frSev) = 0 ∧ (rdF (pkT frSev)).K = 1 ∧ (rdF (pkT frSev)).L = 0 ∧ (rdF (pkT frSev)).S = 5 ∧ (rdF (pkT frSev)).n = 1 ∧ ∀ k, k < 1 → (rdF (pkT frSev)).l k = 7 :=
  read_packed frSev sev_E (by decide) (by decide) (fun _ => by show (-2147483648 : Int) ≤ 7 ∧ (7 : Int) ≤ 2147483647; omega)

theorem hear_sev (w : World) : Calls Try.prog 9 #[.agg #[.int .i64 0, .int .i64 0, .int .u8 0, .slice none 0 0, .bool false, .int .i64 0, .int .i64 0], .string (pkT frSev)] w fun e w' => ∃ a c, e = .returned (.tuple #[.agg #[.int .i64 1, .int .i64 0, .int .u8 5, .slice a 1 c, .bool true, .int .i64 0, .int .i64 0], .int .i64 0]) ∧ Wds w' a 1 (fun _ => 7) ∧ (∀ x, a = some x → w.heap.size ≤ x.block) ∧ Below w.heap.size w w' := by
  obtain ⟨r0, r1, r2, r3, r4, r5⟩ := sev_read
  have h0 : lkErr lkNone = 0 := by decide
  have e := hrE_new (l := lkNone) h0 r0 rfl
  have h := hear_any lkNone none 0 (pkT frSev) w (wds_zero _ _ _) (pk_size _)
  rw [hrL_new h0 e, e] at h
  simp only [r1, r2, r3, r4] at h
  refine h.mono ?_
  rintro e w' ⟨a, c, h1, h2, h3⟩
  exact ⟨a, c, h1, h2.congr r5, h3⟩

set_option maxHeartbeats 2000000 in
set_option maxRecDepth 100000 in
theorem heard_any (w : World) : Calls Try.prog 16 #[] w fun e w' => ∃ a c, e = .returned (.agg #[.int .i64 1, .int .i64 0, .int .u8 5, .slice a 1 c, .bool true, .int .i64 0, .int .i64 0]) ∧ Wds w' a 1 (fun _ => 7) ∧ (∀ x, a = some x → w.heap.size ≤ x.block) ∧ Below w.heap.size w w' := by
  have B0 : Hid (Bo w [.int .i64 0, .int .i64 0, .int .u8 0, .slice none 0 0, .bool false, .int .i64 0, .int .i64 0] _) := bo_new w #[.int .i64 0, .int .i64 0, .int .u8 0, .slice none 0 0, .bool false, .int .i64 0, .int .i64 0] 26
  have C1 : Hid (∀ (W : World) (b : Nat), b = W.heap.size → Calls Try.prog 20 #[.agg #[.int .i64 1, .int .i64 0, .int .u8 5, .slice (some ⟨b, 0, none⟩) 1 1]] (W.alloc (.cells #[.int .i32 7] 21)) fun e w' => e = .returned (.tuple #[.string (pkT frSev), .int .i64 0]) ∧ Below W.heap.size W w') := fun W b hbW => by
    subst hbW
    have hb := (Below.refl _ W).alloc (Nat.le_refl _) (.cells #[.int .i32 7] 21)
    have h1 : Wds (W.alloc (.cells #[.int .i32 7] 21)) (some ⟨W.heap.size, 0, none⟩) 1 (fun _ => 7) := fun _ => ⟨W.heap.size, 0, rfl, by simp, fun j hj => by
      obtain rfl : j = 0 := by omega
      exact (cells_new W #[.int .i32 7] 21).cell 0 _ rfl⟩
    have h2 := pack_any frSev (some ⟨W.heap.size, 0, none⟩) 1 (W.alloc (.cells #[.int .i32 7] 21)) (by decide) (by decide) h1
    rw [sev_E] at h2
    refine h2.mono ?_
    rintro e w' ⟨rfl, h⟩
    exact ⟨rfl, hb.trans (h.mono (by simp))⟩
  have C2 : Hid (∀ W, Calls Try.prog 9 #[.agg #[.int .i64 0, .int .i64 0, .int .u8 0, .slice none 0 0, .bool false, .int .i64 0, .int .i64 0], .string (pkT frSev)] W fun e w' => ∃ a c, e = .returned (.tuple #[.agg #[.int .i64 1, .int .i64 0, .int .u8 5, .slice a 1 c, .bool true, .int .i64 0, .int .i64 0], .int .i64 0]) ∧ Wds w' a 1 (fun _ => 7) ∧ (∀ x, a = some x → W.heap.size ≤ x.block) ∧ Below W.heap.size W w') := fun W => hear_sev W
  generalize pkT frSev = T at C1 C2
  go_enter Try.func16, Try.ntmps16
  go_wp2_with fail
  refine (C1.out _ _ (by simp)).mono ?_
  rintro e w1 ⟨rfl, hb⟩
  have X1 : Hid (Bo w [.int .i64 0, .int .i64 0, .int .u8 0, .slice none 0 0, .bool false, .int .i64 0, .int .i64 0] w1) := B0.out.step hb
  clear B0 hb C1
  go_wp2_with fail
  refine (C2.out _).mono ?_
  rintro e w2 ⟨a, c, rfl, hw, ha, hb⟩
  have X2 : Hid (Bo w [.int .i64 0, .int .i64 0, .int .u8 0, .slice none 0 0, .bool false, .int .i64 0, .int .i64 0] w2) := X1.out.step hb
  have HW : Hid (Wds w2 a 1 (fun _ => 7) ∧ ∀ x, a = some x → w.heap.size + 1 ≤ x.block) := ⟨hw, fun x hx => by have := ha x hx; have := X1.out.box.lt; omega⟩
  clear hb hw ha X1 C2
  have bw := (Below.refl _ w2).alloc (Nat.le_refl _) (.cells #[.int .i64 1, .int .i64 0, .int .u8 5, .slice a 1 c, .bool true, .int .i64 0, .int .i64 0] 26)
  have X3 : Hid (Bo w [.int .i64 0, .int .i64 0, .int .u8 0, .slice none 0 0, .bool false, .int .i64 0, .int .i64 0] (w2.alloc (.cells #[.int .i64 1, .int .i64 0, .int .u8 5, .slice a 1 c, .bool true, .int .i64 0, .int .i64 0] 26))) := X2.out.step bw
  have Y3 : Hid (Cells (w2.alloc (.cells #[.int .i64 1, .int .i64 0, .int .u8 5, .slice a 1 c, .bool true, .int .i64 0, .int .i64 0] 26)) w2.heap.size [.int .i64 1, .int .i64 0, .int .u8 5, .slice a 1 c, .bool true, .int .i64 0, .int .i64 0]) := cells_new w2 _ _
  have H3 : Hid (Wds (w2.alloc (.cells #[.int .i64 1, .int .i64 0, .int .u8 5, .slice a 1 c, .bool true, .int .i64 0, .int .i64 0] 26)) a 1 (fun _ => 7) ∧ ∀ x, a = some x → w.heap.size + 1 ≤ x.block) := ⟨HW.out.1.later bw, HW.out.2⟩
  clear bw HW X2
  go_upto_region 3 with fail
  generalize w2.alloc (.cells #[.int .i64 1, .int .i64 0, .int .u8 5, .slice a 1 c, .bool true, .int .i64 0, .int .i64 0] 26) = w3 at X3 Y3 H3 ⊢
  generalize w2.heap.size = b2 at Y3 ⊢
  obtain ⟨lx, x0, x1, x2, x3, x4, x5, x6⟩ := link_cells X3.out.box
  obtain ⟨f0, f1, f2, f3, f4, f5, f6⟩ := link_froz X3.out.box
  obtain ⟨ly, y0, y1, y2, y3, y4, y5, y6⟩ := link_cells Y3.out
  go_wp2_with fail
  clear lx x0 x1 x2 x3 x4 x5 x6 f0 f1 f2 f3 f4 f5 f6 ly y0 y1 y2 y3 y4 y5 y6
  obtain ⟨w4, hw4, C4, b4, s4, o4, _⟩ := link_put X3.out.box X3.out.bel (Nat.le_refl _) (.int .i64 1) (.int .i64 0) (.int .u8 5) (.slice a 1 c) (.bool true) (.int .i64 0) (.int .i64 0)
  rw [hw4]
  obtain ⟨ly, y0, y1, y2, y3, y4, y5, y6⟩ := link_cells C4
  refine bodyPost_ret (by simp [results, Try.results16, go_sem, y0, y1, y2, y3, y4, y5, y6]; try rfl) rfl ?_
  obtain ⟨hw, ha⟩ := H3.out
  refine ⟨a, c, rfl, fun h0 => ?_, fun x hx => by have := ha x hx; omega, b4⟩
  obtain ⟨b, o, rfl, hlt, hrow⟩ := hw h0
  have hb := ha _ rfl
  exact Wds.block (fun _ => ⟨b, o, rfl, hlt, hrow⟩) (by rw [s4]; exact Nat.le_refl _) (o4 b (by simp at hb; omega)) h0

end Go.Proofs.Ytiaolelkabbnmaa
