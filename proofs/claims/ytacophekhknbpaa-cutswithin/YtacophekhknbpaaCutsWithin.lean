/-
  Whatever is handed in, the law CutsWithin returns true: what fails has a cut within it, and what has one fails; no cut has another one within it; with more parts no less fails. No condition.
-/
import Derived.Test.YtacophekhknbpaaEi
import Derived.Test.YtacophekhknbpaaOpenG
import Derived.Test.YtacophekhknbpaaSetFun
import Derived.Laws.BitsAllLaws
namespace Go.Proofs.Ytacophekhknbpaa.cutsWithin
open Go.ChangeShapes Go.WideShapes Go.ChangeAt Go.RowKit
set_option linter.unusedVariables false

theorem own : ownKnob Try.prog.godebug = none := by kernel_rfl
theorem laidOut : laidOutB Try.prog = true := by kernel_rfl


theorem first_cuts (b : Nat) (A : Option Addr) (c : Nat) (w : World) (h : RowG w (some ⟨b, 0, none⟩) 3 (eiT A c)) : Calls Try.prog 10 #[.slice (some ⟨b, 0, none⟩) 3 3] w fun e w' => ∃ a c', e = .returned (.tuple #[.slice a 2 c', .int .i64 0]) ∧ RS w' a 2 (fun j => [1, 2].getD j 0) ∧ Below w.heap.size w w' := by
  refine (cuts_ok (some ⟨b, 0, none⟩) 3 3 (eiT A c) w h (eiT_ok A c)).mono ?_
  rintro e w' ⟨v, rfl, hv⟩
  rw [eiT_cuts] at hv
  obtain ⟨a, c', rfl, _, hr, hb⟩ := hv
  exact ⟨a, c', rfl, hr.rs, hb⟩
theorem two_list (w : World) (a : Option Addr) (c b : Nat) (h : RS w a 2 (fun j => [1, 2].getD j 0)) (h2 : Cells w b (numsU [1, 2])) : Calls Try.prog 18 #[.slice a 2 c, .slice (some ⟨b, 0, none⟩) 2 2] w fun e w' => e = .returned (.bool true) ∧ Below w.heap.size w w' :=
  equalL_any [1, 2] [1, 2] a (some ⟨b, 0, none⟩) c 2 w (by decide) h (rs_lit h2)
/-- what fails has a cut within it, and what has one fails -/
theorem within_any {t : Nat → Gt} {n p : Nat} (hc : chG t n = 0) : ((leastL (faT t n)).any fun s => s &&& p == s) = faT t n p := by
  have hlow : ∀ i, i < 8 → (p &&& 255).testBit i = p.testBit i := fun i hi => by
    rw [Nat.testBit_and, show (255 : Nat) = 2 ^ 8 - 1 from rfl, Nat.testBit_two_pow_sub_one, decide_eq_true hi, Bool.and_true]
  have h1 : faT t n (p &&& 255) = faT t n p := faT_congr hc hlow
  have h2 : p &&& 255 < 256 := Nat.lt_of_le_of_lt Nat.and_le_right (by decide)
  rw [← h1, Bool.eq_iff_iff, holds_iff (mono_faT hc) h2, List.any_eq_true]
  have key : ∀ s, s < 256 → (s &&& p = s ↔ sub s (p &&& 255)) := fun s hs => by
    show sub s p ↔ _
    rw [sub_iff, sub_iff]
    constructor
    · intro h i hi
      have hi8 : i < 8 := by
        rcases Nat.lt_or_ge i 8 with q | q
        · exact q
        · rw [bit_high hs q] at hi
          cases hi
      rw [hlow i hi8]
      exact h i hi
    · intro h i hi
      have hi8 : i < 8 := by
        rcases Nat.lt_or_ge i 8 with q | q
        · exact q
        · rw [bit_high hs q] at hi
          cases hi
      rw [← hlow i hi8]
      exact h i hi
  constructor
  · rintro ⟨s, hs, h⟩
    exact ⟨s, hs, (key s (least_lt hs)).1 (by simpa using h)⟩
  · rintro ⟨s, hs, h⟩
    exact ⟨s, hs, by simpa using (key s (least_lt hs)).2 h⟩
theorem or_more {t : Nat → Gt} {n p m : Nat} (hc : chG t n = 0) (h : faT t n p = true) : faT t n (p ||| m) = true :=
  faT_mono hc (fun i _ hi => by rw [Nat.testBit_or, hi, Bool.true_or]) h
/-- no cut has another one within it -/
theorem apart_list {F : Nat → Bool} (hM : Mono F) {j q : Nat} (hj : j < (leastL F).length) (hq : q < (leastL F).length) (hne : j ≠ q) : ¬ (leastL F).getD j 0 &&& (leastL F).getD q 0 = (leastL F).getD j 0 := by
  intro h
  have e := leastL_anti hM (getD_mem hq) (getD_mem hj) h
  have hn := List.pairwise_iff_getElem.1 (leastL_nodup F)
  have e1 : ∀ i (hi : i < (leastL F).length), (leastL F).getD i 0 = (leastL F)[i] := fun i hi => by
    rw [List.getD_eq_getElem?_getD, List.getElem?_eq_getElem hi]
    rfl
  rw [e1 j hj, e1 q hq] at e
  rcases Nat.lt_or_gt_of_ne hne with g | g
  · exact hn j q hj hq g e
  · exact hn q j hq hj g e.symm

theorem within_one (B p s : Nat) (w : World) (hB : w.cell? ⟨B, 0, none⟩ = some (.int .u16 (p : Nat))) (hs : s < 65536) (hp : p < 65536) :
    Calls Try.prog 24 #[.int .u16 (s : Nat), .pointer (some ⟨B, 0, none⟩)] w fun e w' => e = .returned (.bool (s &&& p == s)) ∧ Below w.heap.size w w' := by
  have x1 : bits .and .u16 (s : Int) (p : Int) = ((s &&& p : Nat) : Int) := u16_and_nat s p hs hp
  have lB := lt_of_cell hB
  generalize s &&& p = z at x1 ⊢
  by_cases hz : z = s
  · subst hz
    rw [beq_self_eq_true]
    go_enter Try.func24, Try.ntmps24
    go_wp2_with fail
    go_ret
    exact ⟨rfl, Below.refl _ _⟩
  · have z2 : ((z : Int) == (s : Int)) = false := by simp only [beq_eq_false_iff_ne, ne_eq]; omega
    rw [show (z == s) = false by simpa using hz]
    go_enter Try.func24, Try.ntmps24
    go_wp2_with fail
    go_ret
    exact ⟨rfl, Below.refl _ _⟩
theorem entF_within : EntF 24 := fun args W => Go.MuLone.run_callFunc_enter Try.func24 (by kernel_rfl) rfl args W

set_option maxHeartbeats 4000000 in
set_option maxRecDepth 100000 in
theorem walk_bad (ta : Option Addr) (tn tc : Nat) (t : Nat → Gt) (p m : Nat) (w : World) (h : RowG w ta tn t) (E : Int) (hc : chG t tn = E) (h0 : ¬ E = 0) :
    Calls Try.prog 4 #[.slice ta tn tc, .int .u16 p, .int .u16 m] w fun e w' => e = .returned (.bool true) ∧ Below w.heap.size w w' := by
  have HR : Hid (RowG w ta tn t) := h
  have HC : Hid (chG t tn = E ∧ ¬ E = 0) := ⟨hc, h0⟩
  have z : (E != 0) = true := by simpa using h0
  have B0 : Hid (Below w.heap.size w (w.alloc (.cells #[.int .u16 p] 23))) := gbox _ _
  clear h hc h0
  go_enter Try.func4, Try.ntmps4
  go_wp2_with fail
  refine (either_any _).mono ?_
  rintro e w1 ⟨b, A, c, rfl, hr, hb⟩
  have B1 : Hid (Below w.heap.size w w1) := B0.out.trans (hb.mono B0.out.size)
  have R1 : Hid (RowG w1 (some ⟨b, 0, none⟩) 3 (eiT A c)) := hr
  clear hr hb B0
  go_wp2_with fail
  refine (first_cuts b A c _ R1.out).mono ?_
  rintro e w2 ⟨a2, c2, rfl, hr, hb⟩
  have B2 : Hid (Below w.heap.size w w2) := B1.out.trans (hb.mono B1.out.size)
  have R2 : Hid (RS w2 a2 2 (fun j => [1, 2].getD j 0)) := hr
  clear hr hb B1 R1
  go_wp2_with fail
  refine (two_list _ a2 c2 _ (R2.out.step (gbox _ _)) (cells_new w2 #[.int .u16 1, .int .u16 2] 23)).mono ?_
  rintro e w3 ⟨rfl, hb⟩
  have B3 : Hid (Below w.heap.size w w3) := B2.out.trans (((gbox _ _).trans (hb.mono (gbox w2 _).size)).mono B2.out.size)
  clear hb B2 R2
  go_wp2_with fail
  refine (cuts_bad ta tn tc t _ (HR.out.step B3.out) E HC.out.1 HC.out.2).mono ?_
  rintro e w4 ⟨rfl, hb⟩
  have B4 : Hid (Below w.heap.size w w4) := B3.out.trans (hb.mono B3.out.size)
  clear hb B3
  go_wp2_with fail
  go_ret
  exact ⟨rfl, B4.out⟩

set_option maxHeartbeats 4000000 in
set_option maxRecDepth 100000 in
theorem walk_ok (ta : Option Addr) (tn tc : Nat) (t : Nat → Gt) (p m : Nat) (hp : p < 65536) (hm : m < 65536) (w : World) (h : RowG w ta tn t) (hc : chG t tn = 0) :
    Calls Try.prog 4 #[.slice ta tn tc, .int .u16 p, .int .u16 m] w fun e w' => e = .returned (.bool true) ∧ Below w.heap.size w w' := by
  have HR : Hid (RowG w ta tn t) := h
  have HC : Hid (chG t tn = 0) := hc
  have z1 : bits .or .u16 (p : Int) (m : Int) = ((p ||| m : Nat) : Int) := u16_or_nat p m hp hm
  have HP : Hid (p < 65536 ∧ p ||| m < 65536) := ⟨hp, Nat.or_lt_two_pow (n := 16) hp hm⟩
  have B0 : Hid (Below w.heap.size w (w.alloc (.cells #[.int .u16 p] 23))) := gbox _ _
  have X0 : Hid ((w.alloc (.cells #[.int .u16 p] 23)).cell? ⟨w.heap.size, 0, none⟩ = some (.int .u16 (p : Nat))) := (cells_new w #[.int .u16 p] 23).cell 0 _ rfl
  obtain ⟨L, hL⟩ : ∃ L, leastL (faT t tn) = L := ⟨_, rfl⟩
  have HL : Hid (leastL (faT t tn) = L) := hL
  have KL : Hid (L.length ≤ 70 ∧ ∀ x, x ∈ L → x < 256) := ⟨hL ▸ leastL_len (mono_faT HC.out), fun x hx => least_lt (hL.symm ▸ hx)⟩
  have KM : Hid (∀ j q, j < L.length → q < L.length → j ≠ q → ¬ L.getD j 0 &&& L.getD q 0 = L.getD j 0) := fun j q hj hq hne => by
    subst hL
    exact apart_list (mono_faT HC.out) hj hq hne
  have KF : Hid (∀ j, j < L.length → faT t tn (L.getD j 0) = true) := fun j hj => by
    have h1 : L.getD j 0 ∈ leastL (faT t tn) := hL.symm ▸ getD_mem hj
    exact (isL_iff.1 (mem_leastL.1 h1).2).1
  have KW : Hid ((L.any fun s => s &&& p == s) = faT t tn p) := by
    show _ = _
    rw [← hL, within_any HC.out]
  have KO : Hid (faT t tn p = true → faT t tn (p ||| m) = true) := or_more HC.out
  clear h hc hp hm hL
  generalize p ||| m = pm at *
  go_enter Try.func4, Try.ntmps4
  go_wp2_with fail
  refine (either_any _).mono ?_
  rintro e w1 ⟨b, A, c, rfl, hr, hb⟩
  have B1 : Hid (Below w.heap.size w w1) := B0.out.trans (hb.mono B0.out.size)
  have X1 : Hid (w1.cell? ⟨w.heap.size, 0, none⟩ = some (.int .u16 (p : Nat))) := (hb.cell (p := ⟨w.heap.size, 0, none⟩) (lt_of_cell X0.out)).trans X0.out
  have R1 : Hid (RowG w1 (some ⟨b, 0, none⟩) 3 (eiT A c)) := hr
  clear hr hb B0 X0
  go_wp2_with fail
  refine (first_cuts b A c _ R1.out).mono ?_
  rintro e w2 ⟨a2, c2, rfl, hr, hb⟩
  have B2 : Hid (Below w.heap.size w w2) := B1.out.trans (hb.mono B1.out.size)
  have X2 : Hid (w2.cell? ⟨w.heap.size, 0, none⟩ = some (.int .u16 (p : Nat))) := (hb.cell (p := ⟨w.heap.size, 0, none⟩) (lt_of_cell X1.out)).trans X1.out
  have R2 : Hid (RS w2 a2 2 (fun j => [1, 2].getD j 0)) := hr
  clear hr hb B1 R1 X1
  go_wp2_with fail
  refine (two_list _ a2 c2 _ (R2.out.step (gbox _ _)) (cells_new w2 #[.int .u16 1, .int .u16 2] 23)).mono ?_
  rintro e w3 ⟨rfl, hb⟩
  have hb3 : Below w2.heap.size w2 w3 := (gbox _ _).trans (hb.mono (gbox w2 _).size)
  have B3 : Hid (Below w.heap.size w w3) := B2.out.trans (hb3.mono B2.out.size)
  have X3 : Hid (w3.cell? ⟨w.heap.size, 0, none⟩ = some (.int .u16 (p : Nat))) := (hb3.cell (p := ⟨w.heap.size, 0, none⟩) (lt_of_cell X2.out)).trans X2.out
  clear hb hb3 B2 R2 X2
  go_wp2_with fail
  refine (cuts_ok ta tn tc t _ (HR.out.step B3.out) HC.out).mono ?_
  rintro e w4 ⟨v4, rfl, hv⟩
  rw [HL.out] at hv
  obtain ⟨aL, cL, rfl, _, hr, hb⟩ := hv
  have RL4 : Hid (RS w4 aL L.length (fun j => L.getD j 0)) := hr.rs
  have B4 : Hid (Below w.heap.size w w4) := B3.out.trans (hb.mono B3.out.size)
  have X4 : Hid (w4.cell? ⟨w.heap.size, 0, none⟩ = some (.int .u16 (p : Nat))) := (hb.cell (p := ⟨w.heap.size, 0, none⟩) (lt_of_cell X3.out)).trans X3.out
  have x4 := X4.out
  have l4 := lt_of_cell x4
  clear hr hb B3 X3
  go_wp2_with fail
  refine (fails_ok ta tn tc p t _ (HR.out.step B4.out) HC.out HP.out.1).mono ?_
  rintro e w5 ⟨rfl, hb⟩
  have RL5 : Hid (RS w5 aL L.length (fun j => L.getD j 0)) := RL4.out.step hb
  have B5 : Hid (Below w.heap.size w w5) := B4.out.trans (hb.mono B4.out.size)
  have X5 : Hid (w5.cell? ⟨w.heap.size, 0, none⟩ = some (.int .u16 (p : Nat))) := (hb.cell (p := ⟨w.heap.size, 0, none⟩) (lt_of_cell X4.out)).trans X4.out
  have x5 := X5.out
  have l5 := lt_of_cell x5
  clear hb B4 X4 RL4 x4 l4
  go_wp2_with fail
  refine (fails_ok ta tn tc pm t _ (HR.out.step B5.out) HC.out HP.out.2).mono ?_
  rintro e w6 ⟨rfl, hb⟩
  have RL6 : Hid (RS w6 aL L.length (fun j => L.getD j 0)) := RL5.out.step hb
  have B6 : Hid (Below w.heap.size w w6) := B5.out.trans (hb.mono B5.out.size)
  have X6 : Hid (w6.cell? ⟨w.heap.size, 0, none⟩ = some (.int .u16 (p : Nat))) := (hb.cell (p := ⟨w.heap.size, 0, none⟩) (lt_of_cell X5.out)).trans X5.out
  clear hb B5 X5 RL5 x5 l5
  obtain ⟨x, hx⟩ : ∃ x, faT t tn p = x := ⟨_, rfl⟩
  obtain ⟨y, hy⟩ : ∃ y, faT t tn pm = y := ⟨_, rfl⟩
  rw [hx] at KW KO ⊢
  rw [hy] at KO ⊢
  clear hx hy
  go_wp2_with fail
  go_loopg [60] (L.length + 1) (fun g s wr => ∃ q : Nat, s = .int .i64 q ∧ L.length - q < g ∧ q ≤ L.length ∧ Hid (RS wr aL L.length (fun j => L.getD j 0)) ∧ Hid (Below w.heap.size w wr) ∧ Hid (wr.cell? ⟨w.heap.size, 0, none⟩ = some (.int .u16 (p : Nat))))
  case atStart => exact ⟨0, rfl, by omega, by omega, RL6.out, B6.out, X6.out⟩
  case round =>
    obtain ⟨q, rfl, hgo, hq, RL, HB, HX⟩ := hrel
    clear RL6 B6 X6
    by_cases hlt : q < L.length
    · have y1 : (q : Int) < (L.length : Int) := by omega
      have y2 : (q : Int) < 70 := by have := KL.out.1; omega
      obtain ⟨b1, o1, rfl, h1, h2⟩ := RL.out (by omega)
      have x0 : _ = some (Value.int .u16 ((L.getD q 0 : Nat) : Int)) := h2 q hlt
      have KQ : Hid (∀ k, k < L.length → bits .and .u16 ((L.getD q 0 : Nat) : Int) ((L.getD k 0 : Nat) : Int) = ((L.getD q 0 &&& L.getD k 0 : Nat) : Int) ∧ (q ≠ k → ¬ L.getD q 0 &&& L.getD k 0 = L.getD q 0)) := fun k hk =>
        ⟨u16_and_nat _ _ (by have := KL.out.2 _ (getD_mem hlt); omega) (by have := KL.out.2 _ (getD_mem hk); omega), KM.out q k hlt hk⟩
      have KE : Hid (faT t tn (L.getD q 0) = true ∧ L.getD q 0 < 65536) := ⟨KF.out q hlt, by have := KL.out.2 _ (getD_mem hlt); omega⟩
      clear h2
      generalize L.getD q 0 = z at *
      go_wp2_with fail
      obtain ⟨w7, rfl⟩ : ∃ w7, w7 = wr := ⟨wr, rfl⟩
      go_loopg [67] (L.length + 1) (fun g s wr => ∃ k : Nat, s = .int .i64 k ∧ L.length - k < g ∧ k ≤ L.length ∧ wr = w7)
      case atStart => exact ⟨0, rfl, by omega, by omega, rfl⟩
      case round =>
        obtain ⟨k, rfl, hg, hk, rfl⟩ := hrel
        rename World => w7
        clear x0 h1
        by_cases hlk : k < L.length
        · have y3 : (k : Int) < (L.length : Int) := by omega
          have y4 : (k : Int) < 70 := by have := KL.out.1; omega
          obtain ⟨b2, o2, e2, h3, h4⟩ := RL.out (by omega)
          cases e2
          have x1 : _ = some (Value.int .u16 ((L.getD k 0 : Nat) : Int)) := h4 k hlk
          obtain ⟨x2, x3⟩ := KQ.out k hlk
          clear h4
          generalize L.getD k 0 = y at *
          generalize z &&& y = v at *
          by_cases hqk : q = k
          · have x4 : ((q : Int) != (k : Int)) = false := by simp; omega
            clear x3
            go_wp2_with fail
            go_roundg (L.length - (k + 1) + 1)
            case measure => omega
            case rel => exact ⟨k + 1, by go_num, by omega, by omega, rfl⟩
          · have x4 : ((q : Int) != (k : Int)) = true := by simp; omega
            have x5 : ((v : Int) == (z : Int)) = false := by
              have := x3 hqk
              simp only [beq_eq_false_iff_ne, ne_eq]
              omega
            clear x3
            go_wp2_with fail
            go_roundg (L.length - (k + 1) + 1)
            case measure => omega
            case rel => exact ⟨k + 1, by go_num, by omega, by omega, rfl⟩
        · have y3 : ¬ (k : Int) < (L.length : Int) := by omega
          obtain rfl : k = L.length := by omega
          have CF := fails_ok ta tn tc z t _ (HR.out.step HB.out) HC.out KE.out.2
          rw [KE.out.1] at CF
          go_wp2_with fail
          refine CF.mono ?_
          rintro e w8 ⟨rfl, hb⟩
          have RL8 : Hid (_) := RL.out.step hb
          have B8 : Hid (Below w.heap.size w w8) := HB.out.trans (hb.mono HB.out.size)
          have X8 : Hid (w8.cell? ⟨w.heap.size, 0, none⟩ = some (.int .u16 (p : Nat))) := (hb.cell (p := ⟨w.heap.size, 0, none⟩) (lt_of_cell HX.out)).trans HX.out
          clear hb CF
          go_wp2_with fail
          go_roundg (L.length - (q + 1) + 1)
          case measure => omega
          case rel => exact ⟨q + 1, by go_num, by omega, by omega, RL8.out, B8.out, X8.out⟩
    · have y1 : ¬ (q : Int) < (L.length : Int) := by omega
      obtain rfl : q = L.length := by omega
      have CC := containsUP_any 24 ⟨w.heap.size, 0, none⟩ aL L.length cL (fun j => L.getD j 0) (fun j => L.getD j 0 &&& p == L.getD j 0) _ (by have := KL.out.1; omega) RL.out entF_within (fun j W hj hW => within_one w.heap.size p (L.getD j 0) W ((hW.cell (p := ⟨w.heap.size, 0, none⟩) (lt_of_cell HX.out)).trans HX.out) (by have := KL.out.2 _ (getD_mem hj); omega) HP.out.1)
      rw [anyU_list (fun s => s &&& p == s) L, KW.out] at CC
      have hmf : ∀ (fn : Fn) (first cap : Array Value) (w : World), (Instr.makeFunc fn first cap).run Try.prog w = .ok (.func fn first cap) w := fun _ _ _ _ => rfl
      cases x
      · go_wp2_with fail
        refine CC.mono ?_
        rintro e w8 ⟨rfl, hb⟩
        have B8 : Hid (Below w.heap.size w w8) := HB.out.trans (hb.mono HB.out.size)
        clear hb CC
        go_wp2_with fail
        go_ret
        exact ⟨rfl, B8.out⟩
      · obtain rfl : y = true := KO.out rfl
        go_wp2_with fail
        refine CC.mono ?_
        rintro e w8 ⟨rfl, hb⟩
        have B8 : Hid (Below w.heap.size w w8) := HB.out.trans (hb.mono HB.out.size)
        clear hb CC
        go_wp2_with fail
        go_ret
        exact ⟨rfl, B8.out⟩

theorem walk (ta : Option Addr) (tn tc : Nat) (t : Nat → Gt) (parts : Int) (more : Int) (w : World) (h_t : RowGJ w ta tn tc t) (h_parts : (Lit.int .u16 parts).wf = true) (h_more : (Lit.int .u16 more).wf = true) :
    Calls Try.prog 4 #[.slice ta tn tc, .int .u16 parts, .int .u16 more] w fun e w' => e = .returned (.bool true) ∧ Below w.heap.size w w' := by
  obtain ⟨h1, h2⟩ := u16_of h_parts
  obtain ⟨p, rfl⟩ : ∃ p : Nat, parts = (p : Int) := ⟨parts.toNat, by omega⟩
  obtain ⟨h3, h4⟩ := u16_of h_more
  obtain ⟨m, rfl⟩ : ∃ m : Nat, more = (m : Int) := ⟨more.toNat, by omega⟩
  by_cases h : chG t tn = 0
  · exact walk_ok ta tn tc t p m (by omega) (by omega) w h_t.row h
  · exact walk_bad ta tn tc t p m w h_t.row _ rfl h

/-! ### THE ROW's STEP -/
set_option maxRecDepth 100000 in
theorem lifted (os : Os) (started : os.Started) (H : Type) (enc : TypeId × Value → H) :
    ReturnsInHanded {} Try.checked os 4 .any (Rows.cutsWithinSpec.pre6 enc Try.prog Try.f4 Rows.cutsWithinRow.domain false) (Rows.cutsWithinSpec.post enc Try.prog Try.f4 false true false false) := by
  refine returnsInHanded_of_change_sized (C := Try.checked) own started (by kernel_rfl) Try.func4
    (ChangeSpec.witness6 (enc := enc) (C := Try.checked) false ⟨#[], #[.slice none 0 0, .int .u16 0, .int .u16 0], []⟩ 8 (by kernel_rfl) (by kernel_rfl) (by kernel_rfl) (by kernel_rfl)) ?_
  intro W base args ds gs before hval0 hW hcnd hsz0 _
  have hval : ∀ (j : Nat) t v, Try.f4.params[j]? = some t → args[j]? = some v → Value.okWide Try.prog W .any base t v := hval0
  have hW' := hW
  obtain ⟨p, q, hA0, hV, rfl, hfz, hnd⟩ := hW
  have hA : DataW.TrodAll enc Try.prog W 0 (fun _ => true) true Try.f4.params.toList args.toList ds p := hA0
  rw [Try.params4] at hA hval
  obtain ⟨v_0, vs_0, d_0, ds_0, p_0, q_0, hargs, rfl, rfl, h_0, r_0⟩ := trodAll_cons hA
  obtain ⟨v_1, vs_1, d_1, ds_1, p_1, q_1, rfl, rfl, rfl, h_1, r_1⟩ := trodAll_cons r_0
  obtain ⟨v_2, vs_2, d_2, ds_2, p_2, q_2, rfl, rfl, rfl, h_2, r_2⟩ := trodAll_cons r_1
  obtain ⟨rfl, rfl, rfl⟩ := trodAll_nil r_2
  obtain rfl : args = #[v_0, v_1, v_2] := by cases args; simp_all
  obtain ⟨rfl, rfl⟩ := trodVars_none hV
  have hz_0 : Light Try.prog 22 d_0 := light_of hsz0 (j := 0) (by first | rfl | (rw [Try.params4]; rfl)) rfl
  have k_0 := h_0
  have lt_0 : ∀ x ∈ p_0, x.block < W.heap.size := by obtain ⟨m, hm⟩ := k_0; exact DataW.trod_lt m _ _ _ hm
  obtain ⟨ta, tn, tc, rfl⟩ := okWide_slice Try.underlying22 (hval 0 22 v_0 rfl rfl)
  obtain ⟨t, h_t⟩ : ∃ l, RowGJ W ta tn tc l := by
    obtain ⟨fuel, hf⟩ := h_0
    obtain ⟨a, m, c, l, hcs, hr⟩ := rowGJ_of hf hz_0
    simp [Value.cells] at hcs
    obtain ⟨rfl, rfl, rfl⟩ := hcs
    exact ⟨l, hr⟩
  have hz_1 : Light Try.prog 23 d_1 := light_of hsz0 (j := 1) (by first | rfl | (rw [Try.params4]; rfl)) rfl
  have k_1 := h_1
  have lt_1 : ∀ x ∈ p_1, x.block < W.heap.size := by obtain ⟨m, hm⟩ := k_1; exact DataW.trod_lt m _ _ _ hm
  obtain ⟨parts, rfl, rfl, rfl, h_parts⟩ := open_int Try.underlying23 (hval 1 23 v_1 rfl rfl) h_1
  have hz_2 : Light Try.prog 23 d_2 := light_of hsz0 (j := 2) (by first | rfl | (rw [Try.params4]; rfl)) rfl
  have k_2 := h_2
  have lt_2 : ∀ x ∈ p_2, x.block < W.heap.size := by obtain ⟨m, hm⟩ := k_2; exact DataW.trod_lt m _ _ _ hm
  obtain ⟨more, rfl, rfl, rfl, h_more⟩ := open_int Try.underlying23 (hval 2 23 v_2 rfl rfl) h_2
  clear hA0 hval0
  refine (walk ta tn tc t parts more W h_t h_parts h_more).mono fun e W' ⟨he, bel⟩ => ?_
  subst he
  exact ⟨_, rfl, _, _, _, [], _, [], hW', trodAll_mk1 (shut_bool Try.underlying4 _), (trodAll_cons_mk (Below.trod laidOut (by kernel_rfl) (of_decide_eq_true (by kernel_rfl)) k_0 bel lt_0) (trodAll_cons_mk (Below.trod laidOut (by kernel_rfl) (of_decide_eq_true (by kernel_rfl)) k_1 bel lt_1) (trodAll_cons_mk (Below.trod laidOut (by kernel_rfl) (of_decide_eq_true (by kernel_rfl)) k_2 bel lt_2) trodAll_mk0))), rfl, bel.frame _, fun h => by cases h⟩

theorem over : Rows.cutsWithinRow.holds Try.pinned (OpenSpec.ofChange Rows.cutsWithinSpec) :=
  OpenClaim.holds_of_wide 4 Try.f4 rfl rfl rfl rfl rfl rfl rfl ⟨rfl, rfl, rfl, rfl, rfl⟩ rfl rfl rfl rfl rfl (by kernel_rfl) Try.func4 (by kernel_rfl)
    (of_decide_eq_true (by kernel_rfl)) (by unfold Func.isWrapper; first | (rw [if_pos (by decide +kernel)]; kernel_rfl) | (rw [if_neg (by decide +kernel)]; exact ⟨rfl, rfl⟩))
    (fun os started H enc _ => lifted os started H enc)


end Go.Proofs.Ytacophekhknbpaa.cutsWithin
namespace Go.Proofs.Ytacophekhknbpaa
/-- THE STATEMENT -/
theorem cutsWithin_holds : Rows.CutsWithinSaid := cutsWithin.over
#print axioms cutsWithin_holds
end Go.Proofs.Ytacophekhknbpaa
