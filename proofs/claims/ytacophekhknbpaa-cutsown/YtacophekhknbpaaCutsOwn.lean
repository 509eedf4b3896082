/-
  Whatever is handed in, the law CutsOwn returns true: trees and sets that are handed in stay, with the memory behind them; answers are new memory. No condition.
-/
import Derived.Test.YtacophekhknbpaaOwnGt
import Derived.Deep.Onto
import Derived.Deep.QuietTactic
import Derived.BigQuiet
namespace Go.Proofs.Ytacophekhknbpaa.cutsOwn
open Go.ChangeShapes Go.WideShapes Go.ChangeAt Go.RowKit
set_option linter.unusedVariables false

theorem own : ownKnob Try.prog.godebug = none := by kernel_rfl
theorem laidOut : laidOutB Try.prog = true := by kernel_rfl


theorem first_two : leastL (meets [2]) = [2] := by decide +kernel
theorem first_across (w : World) (b : Nat) (h : Cells w b (numsU [2])) : Calls Try.prog 12 #[.slice (some ⟨b, 0, none⟩) 1 1] w fun e w' => ∃ a c, e = .returned (.tuple #[.slice a 1 c, .int .i64 0]) ∧ RS w' a 1 (fun j => [2].getD j 0) ∧ Below w.heap.size w w' := by
  refine (across_list [2] (by decide) (by decide) (some ⟨b, 0, none⟩) 1 w (rs_lit h)).mono ?_
  rintro e w' ⟨v, rfl, hv⟩
  rw [first_two] at hv
  obtain ⟨a, c, rfl, _, hr, hb⟩ := hv
  exact ⟨a, c, rfl, hr.rs, hb⟩
theorem one_list (w : World) (a : Option Addr) (c b : Nat) (h : RS w a 1 (fun j => [2].getD j 0)) (h2 : Cells w b (numsU [2])) : Calls Try.prog 18 #[.slice a 1 c, .slice (some ⟨b, 0, none⟩) 1 1] w fun e w' => e = .returned (.bool true) ∧ Below w.heap.size w w' :=
  equalL_any [2] [2] a (some ⟨b, 0, none⟩) c 1 w (by decide) h (rs_lit h2)
theorem same_list (l : List Nat) (w : World) (a1 a2 : Option Addr) (c1 c2 : Nat) (hl : l.length ≤ 256) (h : RS w a1 l.length (fun j => l.getD j 0)) (h2 : RS w a2 l.length (fun j => l.getD j 0)) : Calls Try.prog 18 #[.slice a1 l.length c1, .slice a2 l.length c2] w fun e w' => e = .returned (.bool true) ∧ Below w.heap.size w w' := by
  have := equalL_any l l a1 a2 c1 c2 w (by omega) h h2
  rw [decide_eq_true rfl] at this
  exact this
theorem rowZ_step {k : IntKind} {by1 : Nat} {w w' : World} {a : Option Addr} {n c : Nat} {l : Nat → Int} (h : RowZ k by1 w a n c l) (hb : Below w.heap.size w w') : RowZ k by1 w' a n c l :=
  ⟨⟨h.1.1, h.1.2.1, h.1.2.2.1, fun hn => by
    obtain ⟨b, o, rfl, h1, h2⟩ := h.1.2.2.2 hn
    exact ⟨b, o, rfl, Nat.lt_of_lt_of_le h1 hb.size, fun j hj => (hb.cell (p := ⟨b, o + j, none⟩) h1).trans (h2 j hj)⟩⟩, h.2⟩
theorem ampU_lt {N : Nat} {w : World} {g cap n : Nat} {l : Nat → Int} {f : Int} (h : AmpleU N w g cap n l f) : N ≤ g ∧ g < w.heap.size ∧ n + 2 ≤ cap ∧ cap ≤ maxLen := by
  obtain ⟨h1, h2, h3, h4, _⟩ := cap_ofU h (by omega)
  exact ⟨h3, h4, h1, h2⟩
theorem ampU_rs {N : Nat} {w : World} {g cap n : Nat} {l : Nat → Int} (h : AmpleU N w g cap n l 77) (hl : ∀ j, 0 ≤ l j) : RS w (some ⟨g, 0, none⟩) n (fun j => (l j).toNat) := fun hn => by
  obtain ⟨h1, h2, h3, h4, _⟩ := cap_ofU h (by omega)
  refine ⟨g, 0, rfl, h4, fun j hj => ?_⟩
  have := World.ownsRow.cellAt h j (by omega)
  rw [List.getElem?_append_left (by rw [valK_length]; exact hj), valK_get hj, Nat.zero_add] at this
  rw [Nat.zero_add, Int.toNat_of_nonneg (hl j)]
  exact this
theorem same_dual {t u v : Gt} (h1 : DualOf t u) (h2 : DualOf t v) : SameG u v := ⟨h1.k.trans h2.k.symm, h1.v.trans h2.v.symm, h1.n.trans h2.n.symm, fun j _ => by rw [h1.of, h2.of]⟩
theorem ampU_step {N : Nat} {w w' : World} {g cap n : Nat} {l : Nat → Int} (h : AmpleU N w g cap n l 77) (hb : Below w.heap.size w w') : AmpleU N w' g cap n l 77 := h.grown (gb_below hb) (by simp)

set_option maxHeartbeats 8000000 in
set_option maxRecDepth 100000 in
theorem walk (ta : Option Addr) (tn tc : Nat) (t : Nat → Gt) (la : Option Addr) (ln lc : Nat) (l : Nat → Int) (w : World) (h_t : RowGJ w ta tn tc t) (h_l : RowZ .u16 2 w la ln lc l) :
    Calls Try.prog 7 #[.slice ta tn tc, .slice la ln lc] w fun e w' => e = .returned (.bool true) ∧ Below w.heap.size w w' := by
  have HT : Hid (RowGJ w ta tn tc t) := h_t
  have HL : Hid (RowZ .u16 2 w la ln lc l) := h_l
  have zt : (tn : Int) ≤ 3518437208880 := by have := h_t.small; omega
  have HLW : Hid (∀ j, 0 ≤ l j ∧ l j < 65536) := fun j => u16_of (h_l.1.2.2.1 j)
  have B0 : Hid (Below w.heap.size w (w.alloc (.cells #[.int .u16 2] 23))) := gbox _ _
  clear h_t h_l
  go_enter Try.func7, Try.ntmps7
  go_wp2_with fail
  refine (first_across _ _ (cells_new w #[.int .u16 2] 23)).mono ?_
  rintro e w1 ⟨a1, c1, rfl, hr1, hb⟩
  have B1 : Hid (Below w.heap.size w w1) := B0.out.trans (hb.mono B0.out.size)
  have R1 : Hid (RS w1 a1 1 (fun j => [2].getD j 0)) := hr1
  clear hb B0
  clear hr1
  go_wp2_with fail
  refine (one_list _ a1 c1 _ (R1.out.step (gbox _ _)) (cells_new w1 #[.int .u16 2] 23)).mono ?_
  rintro e w2 ⟨rfl, hb0⟩
  have hb : Below w1.heap.size w1 w2 := (gbox _ _).trans (hb0.mono (gbox w1 _).size)
  clear hb0
  have B2 : Hid (Below w.heap.size w w2) := B1.out.trans (hb.mono B1.out.size)
  have R2 : Hid (RS w2 a1 1 (fun j => [2].getD j 0)) := R1.out.step hb
  clear hb B1 R1
  clear R2
  go_wp2_with fail
  refine (cloneG_any ta tn tc t _ HT.out.small (HT.out.row.step B2.out)).mono ?_
  rintro e w3 ⟨v3, rfl, ho, hb⟩
  obtain ⟨a0, c0, rfl, hI⟩ := inSt_of (World.ownsRow.mono ho B2.out.size)
  have B3 : Hid (Below w.heap.size w w3) := B2.out.trans (hb.mono B2.out.size)
  have I3 : Hid (InSt w.heap.size w3 a0 tn 0 t (fun _ => 0) (fun _ => 0)) := hI
  clear hb B2
  clear ho hI
  go_wp2_with fail
  go_loopg [39] (tn + 1) (fun gk u wr => ∃ (q : Nat) (g c : Nat → Nat), u = .int .i64 q ∧ tn - q < gk ∧ q ≤ tn ∧ Hid (InSt w.heap.size wr a0 tn q t g c) ∧ Hid (Below w.heap.size w wr))
  case atStart => exact ⟨0, _, _, rfl, by omega, by omega, I3.out, B3.out⟩
  case round =>
    obtain ⟨q, g, c, rfl, hgk, hq, IQ, BQ⟩ := hrel
    clear I3 B3
    by_cases hlt : q < tn
    · have y1 : (q : Int) < (tn : Int) := by omega
      obtain ⟨G, rfl, g1, g2, g3, g4, g5⟩ := IQ.out.row (by omega)
      have HG : Hid (w.heap.size ≤ G ∧ G < wr.heap.size ∧ ∀ j, j < q → G < g j) := ⟨g1, g2, g5⟩
      have e1 : inG t g c q q = t q := by unfold inG; rw [if_neg (by omega)]
      have k2 := (g3 q hlt).hs
      rw [e1] at k2
      have CA : Hid (Calls Try.prog 28 #[.slice (t q).a (t q).n (t q).c, .int .i64 77] wr fun e w' => ∃ g cap, e = .returned (.slice (some ⟨g, 0, none⟩) (t q).n cap) ∧ AmpleI wr.heap.size w' g cap (t q).n (t q).of 77 ∧ Below wr.heap.size wr w') := ample_anyI _ _ _ _ _ _ (rowZ_step (HT.out.of q hlt) BQ.out)
      clear g3 g4 g5 g1 e1
      go_wp2_with fail
      refine CA.out.mono ?_
      rintro e w4 ⟨x, y, rfl, hA, hb⟩
      have I4 : Hid (InSt w.heap.size w4 (some ⟨G, 0, none⟩) tn q t g c) := IQ.out.step hb
      have B4 : Hid (Below w.heap.size w w4) := BQ.out.trans (hb.mono BQ.out.size)
      have A4 : Hid (AmpleI w.heap.size w4 x y (t q).n (t q).of 77) := World.ownsRow.mono hA BQ.out.size
      have X4 : Hid (wr.heap.size ≤ x) := hA.lt.1
      have XG : Hid (∀ j, j < q → g j < x) := fun j hj => by have := (IQ.out.amp j hj).lt.2.1; have := X4.out; omega
      have k4 := (hb.cell (p := ⟨G, q * 3 + 2, none⟩) g2).trans k2
      obtain ⟨G', e, _, g2', _, g4', _⟩ := I4.out.row (by omega)
      cases e
      have f4 := g4' (q * 3 + 2) (by omega)
      have l4 := g2'
      clear hA hb CA k2 g2 g4' g2' IQ BQ
      go_wp2_with fail
      have I5 : Hid (_) := I4.out.next hlt x y A4.out XG.out (by have := HG.out.2.1; have := X4.out; omega)
      have B5 : Hid (Below w.heap.size w (w4.setCell ⟨G, q * 3 + 2, none⟩ (.slice (some ⟨x, 0, none⟩) (t q).n y))) := B4.out.setCell (p := ⟨G, q * 3 + 2, none⟩) HG.out.1 _
      go_roundg (tn - (q + 1) + 1)
      case measure => omega
      case rel => exact ⟨q + 1, _, _, by go_num, by omega, by omega, I5.out, B5.out⟩
    · have y1 : ¬ (q : Int) < (tn : Int) := by omega
      obtain rfl : q = tn := by omega
      clear hlt hgk hq
      have I4 : Hid (InSt w.heap.size wr a0 q q t g c) := IQ.out
      have B4 : Hid (Below w.heap.size w wr) := BQ.out
      have HG4 : Hid (∀ j, j < q → g j < wr.heap.size) := fun j hj => (IQ.out.amp j hj).lt.2.1
      obtain ⟨w4, rfl⟩ : ∃ w4, w4 = wr := ⟨wr, rfl⟩
      clear IQ BQ y1
      go_wp2_with fail
      refine (ample_anyU la ln lc l 77 _ (rowZ_step HL.out B4.out)).mono ?_
      rintro e w5 ⟨gs, cs, rfl, hA, hb⟩
      have GS : Hid (w4.heap.size ≤ gs ∧ gs < w5.heap.size) := ⟨(ampU_lt hA).1, (ampU_lt hA).2.1⟩
      have B5 : Hid (Below w.heap.size w w5) := B4.out.trans (hb.mono B4.out.size)
      have I5 : Hid (InSt w.heap.size w5 a0 q q t g c) := I4.out.step hb
      have A5 : Hid (AmpleU w.heap.size w5 gs cs ln l 77) := World.ownsRow.mono hA B4.out.size
      clear hb B4 I4
      clear hA
      obtain ⟨M, hM⟩ : ∃ M, M = w5.heap.size := ⟨_, rfl⟩
      have M5 : Hid (M ≤ w5.heap.size) := Nat.le_of_eq hM
      have HM : Hid (w.heap.size ≤ gs ∧ gs < M ∧ (∀ j, j < q → w.heap.size ≤ g j ∧ g j < gs) ∧ w.heap.size ≤ M) := ⟨(ampU_lt A5.out).1, by rw [hM]; exact GS.out.2, fun j hj => ⟨(I5.out.amp j hj).lt.1, by have := HG4.out j hj; have := GS.out.1; omega⟩, by rw [hM]; exact B5.out.size⟩
      clear hM GS HG4
      have HGW : Hid (∀ j, j < q → GW (t j)) := HT.out.row.ok
      obtain ⟨T, hT⟩ : ∃ T, T = inG t g c q := ⟨_, rfl⟩
      have HTT : Hid (inG t g c q = T) := hT.symm
      clear hT
      obtain ⟨m, hm⟩ : ∃ m, (if chG T q = 0 then q else 0) = m := ⟨_, rfl⟩
      have Hm : Hid ((if chG T q = 0 then q else 0) = m) := hm
      have Hm30 : Hid (m ≤ 30) := by
        show m ≤ 30
        rw [← hm]
        split
        · rename_i h0
          exact (chG_zero h0).2.1
        · omega
      clear hm
      go_wp2_with fail
      refine (dual_res a0 q c0 T _ (HTT.out ▸ I5.out.rowG HGW.out)).mono ?_
      rintro e w6 ⟨aD, cD, uD, rfl, hd, hdu, hb⟩
      rw [Hm.out] at hd hdu ⊢
      have DU : Hid (∀ j, j < m → DualOf (T j) (uD j)) := hdu
      have B6 : Hid (Below w.heap.size w w6) := B5.out.trans (hb.mono B5.out.size)
      have I6 : Hid (InSt w.heap.size w6 a0 q q t g c) := I5.out.step hb
      have A6 : Hid (AmpleU w.heap.size w6 gs cs ln l 77) := ampU_step A5.out hb
      have M6 : Hid (M ≤ w6.heap.size) := Nat.le_trans M5.out hb.size
      have D6 : Hid (DRow M w6 aD m uD) := hd.mono M5.out
      clear hb B5 I5 A5 M5
      clear hd hdu
      go_wp2_with fail
      refine (cuts_res a0 q c0 T _ (HTT.out ▸ I6.out.rowG HGW.out)).mono ?_
      rintro e w7 ⟨vC, lC, EC, rfl, hv, hl⟩
      have LC : Hid (lC.length ≤ 256) := hl
      obtain ⟨aC, cC, rfl, _, hr, hb⟩ := hv
      have B7 : Hid (Below w.heap.size w w7) := B6.out.trans (hb.mono B6.out.size)
      have I7 : Hid (InSt w.heap.size w7 a0 q q t g c) := I6.out.step hb
      have A7 : Hid (AmpleU w.heap.size w7 gs cs ln l 77) := ampU_step A6.out hb
      have M7 : Hid (M ≤ w7.heap.size) := Nat.le_trans M6.out hb.size
      have D7 : Hid (DRow M w7 aD m uD) := D6.out.step hb
      have C7 : Hid (RU M w7 aC lC) := hr.mono M6.out
      clear hb B6 I6 A6 M6 D6
      clear hr hl
      go_wp2_with fail
      refine (across_res (some ⟨gs, 0, none⟩) ln cs (fun j => (l j).toNat) _ (ampU_rs A7.out (fun j => (HLW.out j).1)) (fun j => by have := HLW.out j; omega)).mono ?_
      rintro e w8 ⟨vA, lA, EA, rfl, hv, hl⟩
      have LA : Hid (lA.length ≤ 256) := hl
      obtain ⟨aA, cA, rfl, _, hr, hb⟩ := hv
      have B8 : Hid (Below w.heap.size w w8) := B7.out.trans (hb.mono B7.out.size)
      have I8 : Hid (InSt w.heap.size w8 a0 q q t g c) := I7.out.step hb
      have A8 : Hid (AmpleU w.heap.size w8 gs cs ln l 77) := ampU_step A7.out hb
      have M8 : Hid (M ≤ w8.heap.size) := Nat.le_trans M7.out hb.size
      have D8 : Hid (DRow M w8 aD m uD) := D7.out.step hb
      have C8 : Hid (RU M w8 aC lC) := C7.out.step hb
      have E8 : Hid (RU M w8 aA lA) := hr.mono M7.out
      clear hb B7 I7 A7 M7 D7 C7
      clear hr hl
      go_wp2_with fail
      refine (fails_res a0 q c0 T _ (HTT.out ▸ I8.out.rowG HGW.out)).mono ?_
      rintro e w9 ⟨bF, EF, rfl, hb⟩
      have B9 : Hid (Below w.heap.size w w9) := B8.out.trans (hb.mono B8.out.size)
      have I9 : Hid (InSt w.heap.size w9 a0 q q t g c) := I8.out.step hb
      have A9 : Hid (AmpleU w.heap.size w9 gs cs ln l 77) := ampU_step A8.out hb
      have M9 : Hid (M ≤ w9.heap.size) := Nat.le_trans M8.out hb.size
      have D9 : Hid (DRow M w9 aD m uD) := D8.out.step hb
      have C9 : Hid (RU M w9 aC lC) := C8.out.step hb
      have E9 : Hid (RU M w9 aA lA) := E8.out.step hb
      clear hb B8 I8 A8 M8 D8 C8 E8
      go_wp2_with fail
      refine (stays_anyU w.heap.size gs cs ln la lc l 77 _ HL.out.2.1 A9.out (rowZ_step HL.out B9.out).1).mono ?_
      rintro e w10 ⟨rfl, d10, hd10⟩
      have hb : Below w9.heap.size w9 w10 := by
            rw [hd10]
            exact gbelow_drew (Below.refl _ _) d10
      clear hd10
      have B10 : Hid (Below w.heap.size w w10) := B9.out.trans (hb.mono B9.out.size)
      have I10 : Hid (InSt w.heap.size w10 a0 q q t g c) := I9.out.step hb
      have A10 : Hid (AmpleU w.heap.size w10 gs cs ln l 77) := ampU_step A9.out hb
      have M10 : Hid (M ≤ w10.heap.size) := Nat.le_trans M9.out hb.size
      have D10 : Hid (DRow M w10 aD m uD) := D9.out.step hb
      have C10 : Hid (RU M w10 aC lC) := C9.out.step hb
      have E10 : Hid (RU M w10 aA lA) := E9.out.step hb
      clear hb B9 I9 A9 M9 D9 C9 E9
      go_wp2_with fail
      go_loopg [78] (q + 1) (fun gk u wr => ∃ p : Nat, u = .int .i64 p ∧ q - p < gk ∧ p ≤ q ∧ Hid (Below w10.heap.size w10 wr))
      case atStart => exact ⟨0, rfl, by omega, by omega, Below.refl _ _⟩
      case round =>
        obtain ⟨p, rfl, hgk, hp, BQ⟩ := hrel
        have IQ : Hid (InSt w.heap.size wr a0 q q t g c) := I10.out.step BQ.out
        have BW : Hid (Below w.heap.size w wr) := B10.out.trans (BQ.out.mono B10.out.size)
        by_cases hlt : p < q
        · have y1 : (p : Int) < (q : Int) := by omega
          obtain ⟨G, rfl, g1, g2, g3, g4, g5⟩ := IQ.out.row (by omega)
          have e1 : inG t g c q p = ⟨(t p).k, (t p).v, some ⟨g p, 0, none⟩, (t p).n, c p, (t p).of⟩ := by unfold inG; rw [if_pos hlt]
          have k2 := (g3 p hlt).hs
          rw [e1] at k2
          simp only [] at k2
          obtain ⟨b, o, rfl, h1, h2⟩ := (HT.out.row.step BW.out).row (by omega)
          have x2 := (h2 p hlt).hs
          have CS : Hid (∀ W, Below wr.heap.size wr W → Calls Try.prog 31 #[.slice (some ⟨g p, 0, none⟩) (t p).n (c p), .slice (t p).a (t p).n (t p).c, .int .i64 77] W fun e w' => e = .returned (.bool true) ∧ ∃ d, w' = W.drewN d) := fun W hW =>
            stays_anyI w.heap.size (g p) (c p) (t p).n (t p).a (t p).c (t p).of 77 W (HT.out.of p hlt).2.1 (((IQ.out.amp p hlt)).grown (gb_below hW) (by simp)) (rowZ_step (HT.out.of p hlt) (BW.out.trans (hW.mono BW.out.size))).1
          have LF : Hid (Below wr.heap.size wr wr) := Below.refl _ _
          clear g3 g4 g5 e1 h2 g1
          go_wp2_with fail
          go_quiet (first | (go_at_call 31; exact (CS.out _ (gbelow_drew LF.out _)).mono fun _ _ h => ⟨h.1, h.2.elim fun d hd => ⟨_, hd.trans (World.drewN_drewN _ _ _)⟩⟩))
          have BN : Hid (Below w10.heap.size w10 (wr.drewN nq)) := gbelow_drew BQ.out nq
          clear BQ IQ BW k2 x2
          go_wp2_with fail
          go_roundg (q - (p + 1) + 1)
          case measure => omega
          case rel => exact ⟨p + 1, by go_num, by omega, by omega, BN.out⟩
        · have y1 : ¬ (p : Int) < (q : Int) := by omega
          obtain rfl : p = q := by omega
          obtain ⟨w11, rfl⟩ : ∃ w9, w9 = wr := ⟨wr, rfl⟩
          have hb := BQ.out
          clear IQ hlt hgk hp
          have B11 : Hid (Below w.heap.size w w11) := B10.out.trans (hb.mono B10.out.size)
          have I11 : Hid (InSt w.heap.size w11 a0 p p t g c) := I10.out.step hb
          have A11 : Hid (AmpleU w.heap.size w11 gs cs ln l 77) := ampU_step A10.out hb
          have M11 : Hid (M ≤ w11.heap.size) := Nat.le_trans M10.out hb.size
          have D11 : Hid (DRow M w11 aD m uD) := D10.out.step hb
          have C11 : Hid (RU M w11 aC lC) := C10.out.step hb
          have E11 : Hid (RU M w11 aA lA) := E10.out.step hb
          clear B10 I10 A10 M10 D10 C10 E10
          clear hb BQ BW
          go_wp2_with fail
          refine (dual_res a0 p c0 T _ (HTT.out ▸ I11.out.rowG HGW.out)).mono ?_
          rintro e w12 ⟨aU, cU, uU, rfl, hd, hdu, hb⟩
          rw [Hm.out] at hd hdu ⊢
          have DV : Hid (∀ j, j < m → DualOf (T j) (uU j)) := hdu
          have B12 : Hid (Below w.heap.size w w12) := B11.out.trans (hb.mono B11.out.size)
          have I12 : Hid (InSt w.heap.size w12 a0 p p t g c) := I11.out.step hb
          have A12 : Hid (AmpleU w.heap.size w12 gs cs ln l 77) := ampU_step A11.out hb
          have M12 : Hid (M ≤ w12.heap.size) := Nat.le_trans M11.out hb.size
          have D12 : Hid (DRow M w12 aD m uD) := D11.out.step hb
          have C12 : Hid (RU M w12 aC lC) := C11.out.step hb
          have E12 : Hid (RU M w12 aA lA) := E11.out.step hb
          have U12 : Hid (DRow M w12 aU m uU) := hd.mono M11.out
          clear hb B11 I11 A11 M11 D11 C11 E11
          clear hd hdu
          go_wp2_with fail
          refine (cloneU_any aC cC lC _ LC.out C12.out.rs).mono ?_
          rintro e w13 ⟨vX, rfl, hv⟩
          obtain ⟨aX, cX, rfl, _, hr, hb⟩ := hv
          have B13 : Hid (Below w.heap.size w w13) := B12.out.trans (hb.mono B12.out.size)
          have I13 : Hid (InSt w.heap.size w13 a0 p p t g c) := I12.out.step hb
          have A13 : Hid (AmpleU w.heap.size w13 gs cs ln l 77) := ampU_step A12.out hb
          have M13 : Hid (M ≤ w13.heap.size) := Nat.le_trans M12.out hb.size
          have D13 : Hid (DRow M w13 aD m uD) := D12.out.step hb
          have C13 : Hid (RU M w13 aC lC) := C12.out.step hb
          have E13 : Hid (RU M w13 aA lA) := E12.out.step hb
          have U13 : Hid (DRow M w13 aU m uU) := U12.out.step hb
          have X13 : Hid (RU M w13 aX lC) := hr.mono M12.out
          clear hb B12 I12 A12 M12 D12 C12 E12 U12
          clear hr
          go_wp2_with fail
          refine (cloneU_any aA cA lA _ LA.out E13.out.rs).mono ?_
          rintro e w14 ⟨vY, rfl, hv⟩
          obtain ⟨aY, cY, rfl, _, hr, hb⟩ := hv
          have B14 : Hid (Below w.heap.size w w14) := B13.out.trans (hb.mono B13.out.size)
          have I14 : Hid (InSt w.heap.size w14 a0 p p t g c) := I13.out.step hb
          have A14 : Hid (AmpleU w.heap.size w14 gs cs ln l 77) := ampU_step A13.out hb
          have M14 : Hid (M ≤ w14.heap.size) := Nat.le_trans M13.out hb.size
          have D14 : Hid (DRow M w14 aD m uD) := D13.out.step hb
          have C14 : Hid (RU M w14 aC lC) := C13.out.step hb
          have E14 : Hid (RU M w14 aA lA) := E13.out.step hb
          have U14 : Hid (DRow M w14 aU m uU) := U13.out.step hb
          have X14 : Hid (RU M w14 aX lC) := X13.out.step hb
          have Y14 : Hid (RU M w14 aY lA) := hr.mono M13.out
          clear hb B13 I13 A13 M13 D13 C13 E13 U13 X13
          clear hr
          go_wp2_with fail
          go_loopg [105] (p + 1) (fun gk u wr => ∃ z : Nat, u = .int .i64 z ∧ p - z < gk ∧ z ≤ p ∧ Hid (Spt g z w14 wr))
          case atStart => exact ⟨0, rfl, by omega, by omega, spt_refl _ _⟩
          case round =>
            obtain ⟨z, rfl, hgk, hz, SZ⟩ := hrel
            by_cases hlt : z < p
            · have y1 : (z : Int) < (p : Int) := by omega
              obtain ⟨G, rfl, g1, g2, g3, g4, g5⟩ := I14.out.row (by omega)
              have e1 : inG t g c p z = ⟨(t z).k, (t z).v, some ⟨g z, 0, none⟩, (t z).n, c z, (t z).of⟩ := by unfold inG; rw [if_pos hlt]
              have k2 := (g3 z hlt).hs
              rw [e1] at k2
              simp only [] at k2
              have k3 := (World.cell?_of_block (a := ⟨G, z * 3 + 2, none⟩) (SZ.out.block G fun j hj => by have := g5 j (by omega); omega)).trans k2
              have hA := I14.out.amp z hlt
              have lA := hA.lt
              obtain ⟨_, _, _, _, cur, hcur, hsz⟩ := cap_ofI hA (by omega)
              have hF : FullI wr (g z) (c z) := full_ofI ((SZ.out.block (g z) fun j hj => by have := I14.out.inc j z hj hlt; omega).trans hcur) hsz lA.2.2.2
              have l3 : G < wr.heap.size := by
                have := SZ.out.size
                omega
              have CS := spoil_anyI (g z) (t z).n (c z) 5 wr (by omega) (by have := lA.2.2.2; unfold maxLen at this; omega) hF
              clear g3 g4 g5 e1 hA lA hcur hF k2 g1 g2
              go_wp2_with fail
              refine CS.mono ?_
              rintro e w' ⟨rfl, ho⟩
              have S2 : Hid (_) := SZ.out.next ho
              clear ho CS SZ k3 l3
              go_wp2_with fail
              go_roundg (p - (z + 1) + 1)
              case measure => omega
              case rel => exact ⟨z + 1, by go_num, by omega, by omega, S2.out⟩
            · have y1 : ¬ (z : Int) < (p : Int) := by omega
              obtain rfl : z = p := by omega
              clear hlt hgk hz
              obtain ⟨w15, rfl⟩ : ∃ w9, w9 = wr := ⟨wr, rfl⟩
              have aL := ampU_lt A14.out
              obtain ⟨_, _, _, _, cur, hcur, hsz⟩ := cap_ofU A14.out (by omega)
              have hF : FullU w15 gs cs := full_ofU ((SZ.out.block gs fun j hj => by have := (HM.out.2.2.1 j hj).2; omega).trans hcur) hsz aL.2.2.2
              have CG := spoil_anyU gs ln cs 5 w15 (by omega) (by have := aL.2.2.2; unfold maxLen at this; omega) hF
              clear aL hcur hsz hF
              go_wp2_with fail
              refine CG.mono ?_
              rintro e w16 ⟨rfl, ho⟩
              have SP : Hid (Spo M w14 w16) := ⟨ho.size.trans SZ.out.size, fun k hk => (ho.block k (by have := HM.out.2.1; omega)).trans (SZ.out.block k fun j hj => by have := (HM.out.2.2.1 j hj).2; have := HM.out.2.1; omega)⟩
              have B16 : Hid (Below w.heap.size w w16) := ⟨(ho.os.trans SZ.out.os).trans B14.out.os, (ho.tape.trans SZ.out.tape).trans B14.out.tape, (ho.output.trans SZ.out.output).trans B14.out.output, by rw [ho.size, SZ.out.size]; exact B14.out.size, fun k hk => ((ho.block k (by have := HM.out.1; omega)).trans (SZ.out.block k fun j hj => by have := (HM.out.2.2.1 j hj).1; omega)).trans (B14.out.block k hk)⟩
              have C16 : Hid (RU M w16 aC lC) := C14.out.spo SP.out
              have E16 : Hid (RU M w16 aA lA) := E14.out.spo SP.out
              have X16 : Hid (RU M w16 aX lC) := X14.out.spo SP.out
              have Y16 : Hid (RU M w16 aY lA) := Y14.out.spo SP.out
              have D16 : Hid (DRow M w16 aD m uD) := D14.out.spo SP.out
              have U16 : Hid (DRow M w16 aU m uU) := U14.out.spo SP.out
              clear ho CG SZ SP A14 B14 C14 D14 E14 I14 M14 U14 X14 Y14
              go_wp2_with fail
              refine (same_list lC _ aC aX cC cX LC.out C16.out.rs X16.out.rs).mono ?_
              rintro e w17 ⟨rfl, hb⟩
              have B17 : Hid (Below w.heap.size w w17) := B16.out.trans (hb.mono B16.out.size)
              have C17 : Hid (RU M w17 aC lC) := C16.out.step hb
              have E17 : Hid (RU M w17 aA lA) := E16.out.step hb
              have X17 : Hid (RU M w17 aX lC) := X16.out.step hb
              have Y17 : Hid (RU M w17 aY lA) := Y16.out.step hb
              have D17 : Hid (DRow M w17 aD m uD) := D16.out.step hb
              have U17 : Hid (DRow M w17 aU m uU) := U16.out.step hb
              clear hb B16 C16 E16 X16 Y16 D16 U16
              go_wp2_with fail
              refine (same_list lA _ aA aY cA cY LA.out E17.out.rs Y17.out.rs).mono ?_
              rintro e w18 ⟨rfl, hb⟩
              have B18 : Hid (Below w.heap.size w w18) := B17.out.trans (hb.mono B17.out.size)
              have C18 : Hid (RU M w18 aC lC) := C17.out.step hb
              have E18 : Hid (RU M w18 aA lA) := E17.out.step hb
              have X18 : Hid (RU M w18 aX lC) := X17.out.step hb
              have Y18 : Hid (RU M w18 aY lA) := Y17.out.step hb
              have D18 : Hid (DRow M w18 aD m uD) := D17.out.step hb
              have U18 : Hid (DRow M w18 aU m uU) := U17.out.step hb
              clear hb B17 C17 E17 X17 Y17 D17 U17
              go_wp2_with fail
              refine (equalG_any 35 aD aU m cD cU uD uU _ (by have := Hm30.out; omega) D18.out.rowG U18.out.rowG entF_own1 (fun j W hj hW => gateEqO_any (uD j) (uU j) W (same_dual (DU.out j hj) (DV.out j hj)) ((D18.out.of j hj).ri.step hW) ((U18.out.of j hj).ri.step hW) (by have := (D18.out.ok j hj).2; omega))).mono ?_
              rintro e w19 ⟨rfl, hb⟩
              have B19 : Hid (Below w.heap.size w w19) := B18.out.trans (hb.mono B18.out.size)
              have C19 : Hid (RU M w19 aC lC) := C18.out.step hb
              have E19 : Hid (RU M w19 aA lA) := E18.out.step hb
              have X19 : Hid (RU M w19 aX lC) := X18.out.step hb
              have Y19 : Hid (RU M w19 aY lA) := Y18.out.step hb
              have D19 : Hid (DRow M w19 aD m uD) := D18.out.step hb
              have U19 : Hid (DRow M w19 aU m uU) := U18.out.step hb
              clear hb B18 C18 E18 X18 Y18 D18 U18
              go_wp2_with fail
              go_ret
              exact ⟨rfl, B19.out⟩

/-! ### THE ROW's STEP -/
set_option maxRecDepth 100000 in
theorem lifted (os : Os) (started : os.Started) (H : Type) (enc : TypeId × Value → H) :
    ReturnsInHanded {} Try.checked os 7 .any (Rows.cutsOwnSpec.pre6 enc Try.prog Try.f7 Rows.cutsOwnRow.domain false) (Rows.cutsOwnSpec.post enc Try.prog Try.f7 false true false false) := by
  refine returnsInHanded_of_change_sized (C := Try.checked) own started (by kernel_rfl) Try.func7
    (ChangeSpec.witness6 (enc := enc) (C := Try.checked) false ⟨#[], #[.slice none 0 0, .slice none 0 0], []⟩ 8 (by kernel_rfl) (by kernel_rfl) (by kernel_rfl) (by kernel_rfl)) ?_
  intro W base args ds gs before hval0 hW hcnd hsz0 _
  have hval : ∀ (j : Nat) t v, Try.f7.params[j]? = some t → args[j]? = some v → Value.okWide Try.prog W .any base t v := hval0
  have hW' := hW
  obtain ⟨p, q, hA0, hV, rfl, hfz, hnd⟩ := hW
  have hA : DataW.TrodAll enc Try.prog W 0 (fun _ => true) true Try.f7.params.toList args.toList ds p := hA0
  rw [Try.params7] at hA hval
  obtain ⟨v_0, vs_0, d_0, ds_0, p_0, q_0, hargs, rfl, rfl, h_0, r_0⟩ := trodAll_cons hA
  obtain ⟨v_1, vs_1, d_1, ds_1, p_1, q_1, rfl, rfl, rfl, h_1, r_1⟩ := trodAll_cons r_0
  obtain ⟨rfl, rfl, rfl⟩ := trodAll_nil r_1
  obtain rfl : args = #[v_0, v_1] := by cases args; simp_all
  obtain ⟨rfl, rfl⟩ := trodVars_none hV
  have hz_0 : Light Try.prog 22 d_0 := light_of hsz0 (j := 0) (by first | rfl | (rw [Try.params7]; rfl)) rfl
  have k_0 := h_0
  have lt_0 : ∀ x ∈ p_0, x.block < W.heap.size := by obtain ⟨m, hm⟩ := k_0; exact DataW.trod_lt m _ _ _ hm
  obtain ⟨ta, tn, tc, rfl⟩ := okWide_slice Try.underlying22 (hval 0 22 v_0 rfl rfl)
  obtain ⟨t, h_t⟩ : ∃ l, RowGJ W ta tn tc l := by
    obtain ⟨fuel, hf⟩ := h_0
    obtain ⟨a, m, c, l, hcs, hr⟩ := rowGJ_of hf hz_0
    simp [Value.cells] at hcs
    obtain ⟨rfl, rfl, rfl⟩ := hcs
    exact ⟨l, hr⟩
  have hz_1 : Light Try.prog 24 d_1 := light_of hsz0 (j := 1) (by first | rfl | (rw [Try.params7]; rfl)) rfl
  have k_1 := h_1
  have lt_1 : ∀ x ∈ p_1, x.block < W.heap.size := by obtain ⟨m, hm⟩ := k_1; exact DataW.trod_lt m _ _ _ hm
  obtain ⟨la, ln, lc, rfl⟩ := okWide_slice Try.underlying24 (hval 1 24 v_1 rfl rfl)
  obtain ⟨l, h_l⟩ : ∃ l, RowZ .u16 2 W la ln lc l := by
    obtain ⟨fuel, hf⟩ := h_1
    obtain ⟨a, m, c, l, hcs, hr⟩ := rowZ_of Try.underlying24 Try.underlying23 (by kernel_rfl) (by kernel_rfl) hf hz_1
    simp [Value.cells] at hcs
    obtain ⟨rfl, rfl, rfl⟩ := hcs
    exact ⟨l, hr⟩
  clear hA0 hval0
  refine (walk ta tn tc t la ln lc l W h_t h_l).mono fun e W' ⟨he, bel⟩ => ?_
  subst he
  exact ⟨_, rfl, _, _, _, [], _, [], hW', trodAll_mk1 (shut_bool Try.underlying4 _), (trodAll_cons_mk (Below.trod laidOut (by kernel_rfl) (of_decide_eq_true (by kernel_rfl)) k_0 bel lt_0) (trodAll_cons_mk (Below.trod laidOut (by kernel_rfl) (of_decide_eq_true (by kernel_rfl)) k_1 bel lt_1) trodAll_mk0)), rfl, bel.frame _, fun h => by cases h⟩

theorem over : Rows.cutsOwnRow.holds Try.pinned (OpenSpec.ofChange Rows.cutsOwnSpec) :=
  OpenClaim.holds_of_wide 7 Try.f7 rfl rfl rfl rfl rfl rfl rfl ⟨rfl, rfl, rfl, rfl, rfl⟩ rfl rfl rfl rfl rfl (by kernel_rfl) Try.func7 (by kernel_rfl)
    (of_decide_eq_true (by kernel_rfl)) (by unfold Func.isWrapper; first | (rw [if_pos (by decide +kernel)]; kernel_rfl) | (rw [if_neg (by decide +kernel)]; exact ⟨rfl, rfl⟩))
    (fun os started H enc _ => lifted os started H enc)


end Go.Proofs.Ytacophekhknbpaa.cutsOwn
namespace Go.Proofs.Ytacophekhknbpaa
/-- THE STATEMENT -/
theorem cutsOwn_holds : Rows.CutsOwnSaid := cutsOwn.over
#print axioms cutsOwn_holds
end Go.Proofs.Ytacophekhknbpaa
