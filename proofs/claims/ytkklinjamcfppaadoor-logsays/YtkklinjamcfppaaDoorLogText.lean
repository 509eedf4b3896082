/-
  Contracts of log.line and log.Text: a right log as text. Of the memory that was there nothing turns.
-/
import Derived.Test.YtkklinjamcfppaaDoorLogBld
import Derived.Test.YtkklinjamcfppaaDoorLogPut
namespace Go.Proofs.YtkklinjamcfppaaDoor
open Go.RowKit
set_option linter.unusedVariables false

/-- a variable holds still what it held -/
theorem var_step {P : Program} {W W' : World} {n : String} {cs : Array Value} (h : W.var? P n = some cs) (hb : Below W.heap.size W W') : W'.var? P n = some cs := by
  unfold World.var? at h ⊢
  rw [Option.bind_eq_some_iff] at h
  obtain ⟨g, hg, h2⟩ := h
  rw [hg]
  have hl : g < W.heap.size := by
    rcases Nat.lt_or_ge g W.heap.size with q | q
    · exact q
    · rw [Array.getElem?_eq_none q] at h2
      cases h2
  show (match W'.heap[g]? with | some (.cells cs _ _) => some cs | _ => none) = some cs
  rw [hb.block g hl]
  exact h2
/-- the library's table of powers of ten -/
def P10 (W : World) : Prop := Lib.TabIs Tryd.prog W "internal/strconv.uint64pow10" .u64 Lib.pow10Tab
theorem P10.step {W W' : World} (h : P10 W) (hb : Below W.heap.size W W') : P10 W' := var_step h hb
/-- a number of 64 bits -/
def I64 (n : Int) : Prop := -9223372036854775808 ≤ n ∧ n ≤ 9223372036854775807
theorem i64_of {n : Int} (h : 0 ≤ n) (h2 : n ≤ 1073741824) : I64 n := ⟨by omega, by omega⟩
def itB (n : Int) : ByteArray := ⟨(Lib.itoa n).toArray⟩
theorem itoa_any (n : Int) (w : World) (hn : I64 n) (h : P10 w) : Calls Tryd.prog 27 #[.int .i64 n] w fun e w' => e = .returned (.string (itB n)) ∧ Below w.heap.size w w' := by
  refine (Any.strconv_Itoa laysM171 n hn.1 hn.2 w h).mono ?_
  rintro e w' ⟨he, k, os, rfl⟩
  exact ⟨he, rfl, rfl, rfl, by simp [Go.Sort.grow], fun i hi => by
    show ((w.drewN k).heap ++ os)[i]? = _
    rw [Array.getElem?_append_left (by show i < w.heap.size; omega)]
    rfl⟩
/-- an entry's line -/
def lnL (x : En) : List UInt8 := Lib.itoa x.f ++ (58 :: (Lib.itoa x.l ++ (58 :: (Lib.itoa x.c ++ (120 :: (Lib.itoa x.m ++ [10]))))))
/-- the lines of n entries -/
def txL (l : Nat → En) : Nat → List UInt8
  | 0 => []
  | k + 1 => txL l k ++ lnL (l k)
def OkI (x : En) : Prop := I64 x.f ∧ I64 x.l ∧ I64 x.c ∧ I64 x.m
theorem okI_of {x : En} (h : okE x = true) : OkI x := by
  obtain ⟨h1, h2, h3, h4⟩ := (okE_iff x).1 h
  exact ⟨i64_of h1.1 h1.2, i64_of h2.1 (by omega), i64_of (by omega) (by omega), i64_of (by omega) (by omega)⟩
theorem lnL_length {x : En} (h : OkI x) : (lnL x).length ≤ 88 := by
  have h1 := Lib.itoa_length_le x.f h.1.1 h.1.2
  have h2 := Lib.itoa_length_le x.l h.2.1.1 h.2.1.2
  have h3 := Lib.itoa_length_le x.c h.2.2.1.1 h.2.2.1.2
  have h4 := Lib.itoa_length_le x.m h.2.2.2.1 h.2.2.2.2
  unfold lnL
  simp only [List.length_append, List.length_cons, List.length_nil]
  omega
theorem txL_length {l : Nat → En} {n : Nat} (h : ∀ k, k < n → OkI (l k)) : (txL l n).length ≤ 88 * n := by
  induction n with
  | zero => exact Nat.le_refl _
  | succ n ih =>
    have h1 := ih (fun k hk => h k (by omega))
    have h2 := lnL_length (h n (by omega))
    show (txL l n ++ lnL (l n)).length ≤ _
    rw [List.length_append]
    omega
theorem bytes_append (a b : List UInt8) : ((⟨a.toArray⟩ : ByteArray) ++ (⟨b.toArray⟩ : ByteArray)) = ⟨(a ++ b).toArray⟩ := by
  apply ByteArray.ext
  simp

set_option maxHeartbeats 4000000 in
theorem line_any (x : En) (w : World) (hx : OkI x) (h : P10 w) : Calls Tryd.prog 25 #[.agg #[.int .i64 x.f, .int .i64 x.l, .int .i64 x.c, .int .i64 x.m]] w fun e w' => e = .returned (.string ⟨(lnL x).toArray⟩) ∧ Below w.heap.size w w' := by
  obtain ⟨A, hA⟩ : ∃ A : Int → ByteArray, A = itB := ⟨_, rfl⟩
  have HA : Hid (((((((A x.f ++ ⟨#[58]⟩ : ByteArray) ++ A x.l) ++ ⟨#[58]⟩) ++ A x.c) ++ ⟨#[120]⟩) ++ A x.m) ++ ⟨#[10]⟩ = ⟨(lnL x).toArray⟩) := by
    show ((((((A x.f ++ ⟨#[58]⟩ : ByteArray) ++ A x.l) ++ ⟨#[58]⟩) ++ A x.c) ++ ⟨#[120]⟩) ++ A x.m) ++ ⟨#[10]⟩ = ⟨(lnL x).toArray⟩
    rw [hA]
    unfold itB lnL
    rw [show (#[58] : Array UInt8) = [58].toArray from rfl, show (#[120] : Array UInt8) = [120].toArray from rfl, show (#[10] : Array UInt8) = [10].toArray from rfl]
    simp only [bytes_append, List.append_assoc, List.cons_append, List.nil_append]
  have CI : Hid (∀ (n : Int) (W : World), I64 n → (Below w.heap.size w W ∧ P10 W ∧ Cells W w.heap.size [.int .i64 x.f, .int .i64 x.l, .int .i64 x.c, .int .i64 x.m]) → Calls Tryd.prog 27 #[.int .i64 n] W fun e w' => e = .returned (.string (A n)) ∧ (Below w.heap.size w w' ∧ P10 w' ∧ Cells w' w.heap.size [.int .i64 x.f, .int .i64 x.l, .int .i64 x.c, .int .i64 x.m])) := fun n W hn hW => by
    rw [hA]
    refine (itoa_any n W hn hW.2.1).mono ?_
    rintro e w' ⟨he, hb⟩
    exact ⟨he, below_then hW.1 hb hW.1.size, hW.2.1.step hb, hW.2.2.step hb⟩
  have n0 : (A x.f).size ≤ 21 := by rw [hA]; exact Lib.itoa_length_le x.f hx.1.1 hx.1.2
  have n1 : (A x.l).size ≤ 21 := by rw [hA]; exact Lib.itoa_length_le x.l hx.2.1.1 hx.2.1.2
  have n2 : (A x.c).size ≤ 21 := by rw [hA]; exact Lib.itoa_length_le x.c hx.2.2.1.1 hx.2.2.1.2
  have n3 : (A x.m).size ≤ 21 := by rw [hA]; exact Lib.itoa_length_le x.m hx.2.2.2.1 hx.2.2.2.2
  have g1 : ¬ 9223372036854775807 < (A x.f).size + 1 := by omega
  have g2 : ¬ 9223372036854775807 < (A x.f).size + 1 + (A x.l).size := by omega
  have g3 : ¬ 9223372036854775807 < (A x.f).size + 1 + (A x.l).size + 1 := by omega
  have g4 : ¬ 9223372036854775807 < (A x.f).size + 1 + (A x.l).size + 1 + (A x.c).size := by omega
  have g5 : ¬ 9223372036854775807 < (A x.f).size + 1 + (A x.l).size + 1 + (A x.c).size + 1 := by omega
  have g6 : ¬ 9223372036854775807 < (A x.f).size + 1 + (A x.l).size + 1 + (A x.c).size + 1 + (A x.m).size := by omega
  have g7 : ¬ 9223372036854775807 < (A x.f).size + 1 + (A x.l).size + 1 + (A x.c).size + 1 + (A x.m).size + 1 := by omega
  clear hA n0 n1 n2 n3
  have J0 : Hid (I64 x.f) := hx.1
  have J1 : Hid (I64 x.l) := hx.2.1
  have J2 : Hid (I64 x.c) := hx.2.2.1
  have J3 : Hid (I64 x.m) := hx.2.2.2
  have H0 : Hid (Below w.heap.size w (w.alloc (.cells #[.int .i64 x.f, .int .i64 x.l, .int .i64 x.c, .int .i64 x.m] 33)) ∧ P10 (w.alloc (.cells #[.int .i64 x.f, .int .i64 x.l, .int .i64 x.c, .int .i64 x.m] 33)) ∧ Cells (w.alloc (.cells #[.int .i64 x.f, .int .i64 x.l, .int .i64 x.c, .int .i64 x.m] 33)) w.heap.size [.int .i64 x.f, .int .i64 x.l, .int .i64 x.c, .int .i64 x.m]) := ⟨(Below.refl _ w).alloc (Nat.le_refl _) _, h.step ((Below.refl _ w).alloc (Nat.le_refl _) _), cells_new _ _ _⟩
  clear h hx
  go_enter Tryd.func25, Tryd.ntmps25
  go_wp2_with fail
  obtain ⟨w1, hw1⟩ : ∃ w1, w1 = w.alloc (.cells #[.int .i64 x.f, .int .i64 x.l, .int .i64 x.c, .int .i64 x.m] 33) := ⟨_, rfl⟩
  rw [← hw1] at H0 ⊢
  clear hw1
  have H1 : Hid (Below w.heap.size w w1.drew ∧ P10 w1.drew ∧ Cells w1.drew w.heap.size [.int .i64 x.f, .int .i64 x.l, .int .i64 x.c, .int .i64 x.m]) := ⟨H0.out.1.drew, H0.out.2.1.step (Below.refl _ _).drew, H0.out.2.2.drew⟩
  have x0 := H0.out.2.2.cell 0 _ rfl
  have x1 := H0.out.2.2.cell 1 _ rfl
  have x2 := H0.out.2.2.cell 2 _ rfl
  have x3 := H0.out.2.2.cell 3 _ rfl
  go_region_held3 (fun w' => w'.cell? ⟨w.heap.size, 0, none⟩ = some (.int .i64 x.f) ∧ w'.cell? ⟨w.heap.size, 1, none⟩ = some (.int .i64 x.l) ∧ w'.cell? ⟨w.heap.size, 2, none⟩ = some (.int .i64 x.c) ∧ w'.cell? ⟨w.heap.size, 3, none⟩ = some (.int .i64 x.m)) (go_keep) (first | (go_at_call 27; refine (CI.out _ _ (by first | exact J0.out | exact J1.out | exact J2.out | exact J3.out) (by first | exact H1.out | assumption)).mono ?_; rintro e w2 ⟨rfl, hs⟩; have y0 := hs.2.2.cell 0 _ rfl; have y1 := hs.2.2.cell 1 _ rfl; have y2 := hs.2.2.cell 2 _ rfl; have y3 := hs.2.2.cell 3 _ rfl))
  clear x0 x1 x2 x3 y0 y1 y2 y3 g1 g2 g3 g4 g5 g6 g7
  go_wp2_with fail
  go_ret
  exact ⟨by rw [← HA.out]; rfl, hs.1⟩

set_option maxHeartbeats 2000000 in
theorem text_bad (a : Option Addr) (n c : Nat) (l : Nat → En) (w : World) (h : RowE w a n l) (E : Int) (hE : chE l n = E) (h0 : E ≠ 0) :
    Calls Tryd.prog 9 #[.slice a n c] w fun e w' => e = .returned (.tuple #[.string ⟨#[]⟩, .int .i64 E]) ∧ Below w.heap.size w w' := by
  have C := check_any a n c l w h
  rw [hE] at C
  have q : (E != 0) = true := by simpa using h0
  clear h hE
  go_enter Tryd.func9, Tryd.ntmps9
  go_wp2_with fail
  refine C.mono ?_
  rintro e w1 ⟨rfl, hb⟩
  have B1 : Hid (_) := hb
  clear hb C
  go_wp2_with fail
  go_ret2
  exact ⟨rfl, B1.out⟩

set_option maxHeartbeats 4000000 in
theorem text_ok (a : Option Addr) (n c : Nat) (l : Nat → En) (w : World) (h : RowE w a n l) (hE : chE l n = 0) (hp : P10 w) :
    Calls Tryd.prog 9 #[.slice a n c] w fun e w' => e = .returned (.tuple #[.string ⟨(txL l n).toArray⟩, .int .i64 0]) ∧ Below w.heap.size w w' := by
  have C := check_any a n c l w h
  rw [hE] at C
  obtain ⟨hn, hf⟩ := chE_zero hE
  have HR : Hid (RowE w a n l) := h
  have HP : Hid (P10 w) := hp
  have HI : Hid (∀ k, k < n → OkI (l k)) := fun k hk => okI_of (fsE_zero hf hk).1
  clear h hE hf hp
  go_enter Tryd.func9, Tryd.ntmps9
  go_wp2_with fail
  refine C.mono ?_
  rintro e w1 ⟨rfl, hb⟩
  have B1 : Hid (Below w.heap.size w w1) := hb
  clear hb C
  go_wp2_with fail
  have D0 : Hid (Bd w1.heap.size [] (w1.alloc (.cells #[.pointer none, .slice none 0 0] 48))) := bd_new w1
  have L0 : Hid (Below w1.heap.size w1 (w1.alloc (.cells #[.pointer none, .slice none 0 0] 48))) := (Below.refl _ w1).alloc (Nat.le_refl _) _
  have hs0 : w1.heap.size < (w1.alloc (.cells #[.pointer none, .slice none 0 0] 48)).heap.size := by simp
  generalize w1.alloc (.cells #[.pointer none, .slice none 0 0] 48) = w2 at D0 L0 hs0 ⊢
  obtain ⟨N, hN⟩ : ∃ N, w1.heap.size = N := ⟨_, rfl⟩
  rw [hN] at D0 L0 hs0 ⊢
  have HN : Hid (w1.heap.size = N) := hN
  clear hN
  go_loopg [15] (n + 1) (fun g s wr => ∃ q : Nat, s = .int .i64 q ∧ n - q < g ∧ q ≤ n ∧ N < wr.heap.size ∧ Hid (Bd N (txL l q) wr) ∧ Hid (Below N w1 wr))
  case atStart => exact ⟨0, rfl, by omega, by omega, hs0, D0, L0⟩
  case round =>
    obtain ⟨q, rfl, hg, hq, hlt0, HD, HB⟩ := hrel
    have B2 : Hid (Below w.heap.size w wr) := below_then B1.out HB.out (by rw [← HN.out]; exact B1.out.size)
    by_cases hlt : q < n
    · have z1 : (q : Int) < (n : Int) := by omega
      obtain ⟨b, o, rfl, hb, hc⟩ := HR.out (by omega)
      obtain ⟨x0, x1, x2, x3⟩ := (hc q hlt).step B2.out hb
      have X3 : Hid (_) := cells_new wr #[.int .i64 (l q).f, .int .i64 (l q).l, .int .i64 (l q).c, .int .i64 (l q).m] 33
      have L3 : Hid (Below wr.heap.size wr (wr.alloc (.cells #[.int .i64 (l q).f, .int .i64 (l q).l, .int .i64 (l q).c, .int .i64 (l q).m] 33))) := (Below.refl _ wr).alloc (Nat.le_refl _) _
      have CL : Hid (∀ W, Below wr.heap.size wr W → Calls Tryd.prog 25 #[.agg #[.int .i64 (l q).f, .int .i64 (l q).l, .int .i64 (l q).c, .int .i64 (l q).m]] W fun e w' => e = .returned (.string ⟨(lnL (l q)).toArray⟩) ∧ Below W.heap.size W w') := fun W hW => line_any (l q) W (HI.out q hlt) ((HP.out.step B2.out).step hW)
      clear hc
      go_wp2_with fail
      refine (CL.out _ L3.out).mono ?_
      rintro e w4 ⟨rfl, hb4⟩
      have B4 : Hid (Below wr.heap.size wr w4) := below_then L3.out hb4 (by simp)
      have D4 : Hid (Bd N (txL l q) w4) := HD.out.step B4.out
      have hl4 := B4.out.size
      clear hb4 x0 x1 x2 x3 X3 L3 CL
      go_wp2_with fail
      refine (write_any N (txL l q) ⟨(lnL (l q)).toArray⟩ w4 D4.out (by
        have h1 := txL_length (l := l) (n := q) (fun k hk => HI.out k (by omega))
        have h2 := lnL_length (HI.out q hlt)
        show _ + (lnL (l q)).length ≤ _
        omega) (by omega)).mono ?_
      rintro e w5 ⟨rfl, hd, hb5⟩
      have D5 : Hid (Bd N (txL l (q + 1)) w5) := hd
      have B5 : Hid (Below N w1 w5) := below_then (HB.out.trans (B4.out.mono (by omega))) hb5 (Nat.le_refl _)
      have hl5 := hb5.size
      clear hd hb5 D4 B4
      go_wp2_with fail
      go_roundg (n - (q + 1) + 1)
      case measure => omega
      case rel => exact ⟨q + 1, by go_num, by omega, by omega, by omega, D5, B5⟩
    · have z1 : ¬ (q : Int) < (n : Int) := by omega
      obtain rfl : q = n := by omega
      go_wp2_with fail
      refine (told_any N (txL l q) _ HD.out (by omega)).mono ?_
      rintro e w6 ⟨rfl, hb6⟩
      have B6 : Hid (Below w.heap.size w w6) := below_then B2.out hb6 (by rw [← HN.out]; exact B1.out.size)
      clear hb6
      go_wp2_with fail
      go_ret2
      exact ⟨rfl, B6.out⟩

/-- what Text tells -/
def txB (l : Nat → En) (n : Nat) : ByteArray := if chE l n = 0 then ⟨(txL l n).toArray⟩ else ⟨#[]⟩
theorem text_any (a : Option Addr) (n c : Nat) (l : Nat → En) (w : World) (h : RowE w a n l) (hp : P10 w) :
    Calls Tryd.prog 9 #[.slice a n c] w fun e w' => e = .returned (.tuple #[.string (txB l n), .int .i64 (chE l n)]) ∧ Below w.heap.size w w' := by
  unfold txB
  by_cases e0 : chE l n = 0
  · rw [if_pos e0, e0]
    exact text_ok a n c l w h e0 hp
  · rw [if_neg e0]
    exact text_bad a n c l w h _ rfl e0

end Go.Proofs.YtkklinjamcfppaaDoor
