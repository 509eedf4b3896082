/-
  The document's Midway: the least and the greatest are taken out, so many times; what is left are the ends of the middle ones.
-/
import Derived.Test.YtdnjipikggehmaaTikDel
namespace Go.Proofs.Ytdnjipikggehmaa
open Go.RowKit
set_option linter.unusedVariables false

/-! ### plain mathematics -/
theorem cnt_del (p : Int → Bool) (g : Nat → Int) (i : Nat) : ∀ n, i ≤ n → cnt p (del g i) n + (if p (g i) then 1 else 0) = cnt p g (n + 1) := by
  intro n
  induction n with
  | zero =>
    intro hi
    obtain rfl : i = 0 := by omega
    rw [cnt_succ, cnt_zero, cnt_zero]
  | succ n ih =>
    intro hi
    by_cases e : i = n + 1
    · subst e
      rw [cnt_succ p g (n + 1)]
      congr 1
      refine cnt_congr (n + 1) fun t ht => ?_
      unfold del
      rw [if_pos ht]
    · have h := ih (by omega)
      rw [cnt_succ p (del g i) n, cnt_succ p g (n + 1)]
      have e2 : del g i n = g (n + 1) := by unfold del; rw [if_neg (by omega)]
      rw [e2]
      omega
theorem lo_min {g : Nat → Int} {i m : Nat} (h : Mn g (m + 1) (g i)) (hi : i ≤ m) (x : Int) : lo (del g i) m x = lo g (m + 1) x - 1 := by
  have e := cnt_del (ltB x) g i m hi
  unfold lo
  by_cases q : g i < x
  · rw [if_pos (show ltB x (g i) = true from decide_eq_true q)] at e
    omega
  · rw [if_neg (show ¬ ltB x (g i) = true by unfold ltB; rw [decide_eq_false q]; decide)] at e
    have : cnt (ltB x) g (m + 1) = 0 := lo_no (l := g) (n := m + 1) fun t ht => by have := h.1 t ht; omega
    omega
theorem lo_max {g : Nat → Int} {i m : Nat} (h : Mx g (m + 1) (g i)) (hi : i ≤ m) (x : Int) : (lo g (m + 1) x = m + 1 ∧ lo (del g i) m x = m) ∨ (lo g (m + 1) x ≤ m ∧ lo (del g i) m x = lo g (m + 1) x) := by
  have e := cnt_del (ltB x) g i m hi
  have e2 := cnt_le (ltB x) (del g i) m
  unfold lo
  by_cases q : g i < x
  · rw [if_pos (show ltB x (g i) = true from decide_eq_true q)] at e
    have : cnt (ltB x) g (m + 1) = m + 1 := lo_all (l := g) (n := m + 1) fun t ht => by have := h.1 t ht; omega
    omega
  · rw [if_neg (show ¬ ltB x (g i) = true by unfold ltB; rw [decide_eq_false q]; decide)] at e
    omega
/-- what is left of n numbers when the k least and the k greatest are taken out -/
def Tr (l : Nat → Int) (n k : Nat) (g : Nat → Int) (L : Nat) : Prop := L + 2 * k = n ∧ ∀ x, (lo l n x ≤ k ∧ lo g L x = 0) ∨ (k ≤ lo l n x ∧ lo l n x ≤ n - k ∧ lo g L x = lo l n x - k) ∨ (n - k ≤ lo l n x ∧ lo g L x = L)
theorem tr_first (l : Nat → Int) (n : Nat) : Tr l n 0 l n := ⟨by omega, fun x => Or.inr (Or.inl ⟨by omega, by have := lo_le l n x; omega, by omega⟩)⟩
theorem Tr.next {l : Nat → Int} {n k m i j : Nat} {g : Nat → Int} (h : Tr l n k g (m + 2)) (h1 : Mn g (m + 2) (g i)) (hi : i ≤ m + 1) (h2 : Mx (del g i) (m + 1) (del g i j)) (hj : j ≤ m) : Tr l n (k + 1) (del (del g i) j) m := by
  refine ⟨by have := h.1; omega, fun x => ?_⟩
  have h0 := h.1
  have a1 : lo (del g i) (m + 1) x = lo g (m + 2) x - 1 := lo_min h1 hi x
  have a2 := lo_max h2 hj x
  rcases h.2 x with a | a | a <;> rcases a2 with b | b <;> omega
theorem Tr.low {l : Nat → Int} {n k L : Nat} {g : Nat → Int} {a : Int} (h : Tr l n k g L) (hL : 0 < L) (ha : Mn g L a) : Nth l n k a := by
  have h0 := h.1
  obtain ⟨h1, i, hi, e⟩ := ha
  have e1 : lo g L a = 0 := lo_no h1
  have e2 : 0 < lo g L (a + 1) := by
    rcases Nat.eq_zero_or_pos (lo g L (a + 1)) with q | q
    · have := cnt_not (ltB (a + 1)) g L
      unfold lo at q
      rw [q] at this
      have h3 : cnt (fun x => !ltB (a + 1) x) g L < L := by
        rcases Nat.lt_or_ge (cnt (fun x => !ltB (a + 1) x) g L) L with p | p
        · exact p
        · exfalso
          have s := cnt_del (ltB (a + 1)) g i (L - 1) (by omega)
          rw [if_pos (show ltB (a + 1) (g i) = true from decide_eq_true (by omega)), show L - 1 + 1 = L by omega] at s
          omega
      omega
    · exact q
  have b1 := h.2 a
  have b2 := h.2 (a + 1)
  constructor <;> omega
theorem Tr.high {l : Nat → Int} {n k L : Nat} {g : Nat → Int} {b : Int} (h : Tr l n k g L) (hL : 0 < L) (hb : Mx g L b) : Nth l n (n - 1 - k) b := by
  have h0 := h.1
  obtain ⟨h1, i, hi, e⟩ := hb
  have e1 : lo g L (b + 1) = L := lo_all fun t ht => by have := h1 t ht; omega
  have e2 : lo g L b < L := by
    have s := cnt_del (ltB b) g i (L - 1) (by omega)
    rw [if_neg (show ¬ ltB b (g i) = true by unfold ltB; rw [decide_eq_false (by omega)]; decide), show L - 1 + 1 = L by omega] at s
    have := cnt_le (ltB b) (del g i) (L - 1)
    unfold lo
    omega
  have b1 := h.2 b
  have b2 := h.2 (b + 1)
  constructor <;> omega

theorem tdiv_neg3 {x : Int} (h : x < 0) (n : Int) : x.tdiv n = -((-x) / n) := by
  have e : x = -(-x) := by omega
  rw [e, Int.neg_tdiv, Int.tdiv_eq_ediv_of_nonneg (by omega)]
  simp
theorem tmod_neg3 {x : Int} (h : x < 0) (n : Int) : x.tmod n = -((-x) % n) := by
  have e : x = -(-x) := by omega
  rw [e, Int.neg_tmod, Int.tmod_eq_emod_of_nonneg (by omega)]
  simp

set_option maxHeartbeats 400000 in
theorem rhalf_any (x : Int) (x1 : -9223372036854775808 ≤ x) (x2 : x ≤ 9223372036854775807) (w : World) :
    Calls Try.prog 20 #[.int .i64 x] w fun e w' => e = .returned (.int .i64 (x / 2)) ∧ w' = w := by
  rcases Int.lt_or_le x 0 with h | h
  · have d := tdiv_neg3 h 2
    have m := tmod_neg3 h 2
    rcases Int.emod_two_eq (-x) with h2 | h2
    · have t : (x.tmod 2 != 0) = false := by rw [m, h2]; rfl
      have D : Hid (x.tdiv 2 = x / 2) := show x.tdiv 2 = x / 2 from by omega
      clear d m h2
      go_enter Try.func20, Try.ntmps20
      go_wp2
      go_ret
      exact ⟨congrArg (fun y => Ending.returned (.int .i64 y)) D.out, rfl⟩
    · have t : (x.tmod 2 != 0) = true := by rw [m, h2]; rfl
      have D : Hid (wrap64 (x.tdiv 2 - 1) = x / 2) := show wrap64 (x.tdiv 2 - 1) = x / 2 from by rw [IntWalk.wrap64_in _ (by omega)]; omega
      clear d m h2
      go_enter Try.func20, Try.ntmps20
      go_wp2
      go_ret
      exact ⟨congrArg (fun y => Ending.returned (.int .i64 y)) D.out, rfl⟩
  · go_enter Try.func20, Try.ntmps20
    go_wp2
    go_ret
    exact ⟨rfl, rfl⟩

set_option maxHeartbeats 1000000 in
theorem rmidway_large (a : Option Addr) (n c : Nat) (f : Int) (h : 64 < n) (w : World) : Calls Try.prog 8 #[.slice a n c, .int .i64 f] w fun e w' => e = .returned (.tuple #[.int .i64 0, .int .i64 2]) ∧ w' = w := by
  have z2 : (64 : Int) < (n : Int) := by omega
  go_enter Try.func8, Try.ntmps8
  go_wp2_with fail
  go_ret2
  exact ⟨rfl, rfl⟩

set_option maxHeartbeats 4000000 in
set_option maxRecDepth 100000 in
theorem rmidway_small (a : Option Addr) (n c : Nat) (l : Nat → Int) (f m E : Int) (f2 : f ≤ 9223372036854775807) (w : World) (hn : n ≤ 64) (hr : R64 w a n l) (hM : Mw l n f m E) :
    Calls Try.prog 8 #[.slice a n c, .int .i64 f] w fun e w' => e = .returned (.tuple #[.int .i64 m, .int .i64 E]) ∧ Below w.heap.size w w' := by
  have HR : Hid (R64 w a n l) := hr
  have HM : Hid (Mw l n f m E) := hM
  have z0 : ¬ (64 : Int) < (n : Int) := by omega
  clear hr hM
  go_enter Try.func8, Try.ntmps8
  go_wp2_with fail
  go_loopg [16] (n + 1) (fun g s wr => ∃ q : Nat, s = .int .i64 q ∧ n - q < g ∧ q ≤ n ∧ wr = w ∧ Hid (allT l q = true))
  case atStart => exact ⟨0, rfl, by omega, by omega, rfl, rfl⟩
  case round =>
    obtain ⟨q, rfl, hg, hq, rfl, HQ⟩ := hrel
    by_cases hlt : q < n
    · have z1 : (q : Int) < (n : Int) := by omega
      obtain ⟨b, off, rfl, hb, hc⟩ := HR.out (by omega)
      have x0 := hc q hlt
      clear hc
      cases e : tkB (l q)
      · have E1 : Hid (m = 0 ∧ E = 1) := by
          have e1 := allT_no hlt e
          rcases HM.out with ⟨h, _⟩ | ⟨_, _, h1, h2⟩ | ⟨_, _, h, _⟩ | ⟨_, h, _⟩
          · omega
          · exact ⟨h1, h2⟩
          · rw [e1] at h; cases h
          · rw [e1] at h; cases h
        rcases tkB_no.1 e with p | p
        · clear e
          generalize l q = y at x0 p
          go_wp2_with fail
          go_ret2
          exact ⟨by rw [E1.out.1, E1.out.2]; rfl, Below.refl _ _⟩
        · clear e
          have p2 : ¬ l q < -1099511627776 := by omega
          generalize l q = y at x0 p p2
          go_wp2_with fail
          go_ret2
          exact ⟨by rw [E1.out.1, E1.out.2]; rfl, Below.refl _ _⟩
      · have E1 : Hid (allT l (q + 1) = true) := allT_yes HQ.out e
        obtain ⟨p1, p2⟩ := tkB_iff.1 e
        have p3 : ¬ l q < -1099511627776 := by omega
        have p4 : ¬ 1099511627776 < l q := by omega
        clear e
        generalize l q = y at x0 p1 p2 p3 p4
        clear p1 p2
        go_wp2_with fail
        go_roundg (n - (q + 1) + 1)
        case measure => omega
        case rel => exact ⟨q + 1, by go_num, by omega, by omega, rfl, E1⟩
    · have z1 : ¬ (q : Int) < (n : Int) := by omega
      obtain rfl : q = n := by omega
      clear hlt hq hg
      by_cases f0 : f < 0
      · have E1 : Hid (m = 0 ∧ E = 1) := by
          rcases HM.out with ⟨h, _⟩ | ⟨_, _, h1, h2⟩ | ⟨_, h, _⟩ | ⟨_, _, _, k, _, _, h, _⟩
          · omega
          · exact ⟨h1, h2⟩
          · omega
          · omega
        go_wp2_with fail
        go_ret2
        exact ⟨by rw [E1.out.1, E1.out.2]; rfl, Below.refl _ _⟩
      · by_cases f1 : (q : Int) - f ≤ f
        · have E1 : Hid (m = 0 ∧ E = 7) := by
            rcases HM.out with ⟨h, _⟩ | ⟨_, h, _⟩ | ⟨_, _, _, _, h1, h2⟩ | ⟨_, _, _, k, _, _, h, h2, _⟩
            · omega
            · rcases h with h | h
              · omega
              · rw [HQ.out] at h; cases h
            · exact ⟨h1, h2⟩
            · omega
          by_cases f3 : 64 < f
          · go_wp2_with fail
            go_ret2
            exact ⟨by rw [E1.out.1, E1.out.2]; rfl, Below.refl _ _⟩
          · have z3 : (q : Int) ≤ 2 * f := by omega
            clear f1
            go_wp2_with fail
            go_ret2
            exact ⟨by rw [E1.out.1, E1.out.2]; rfl, Below.refl _ _⟩
        · obtain ⟨k, rfl⟩ : ∃ k : Nat, f = k := ⟨f.toNat, by omega⟩
          have HT : Hid (E = 0 ∧ ∀ x y, Nth l q k x → Nth l q (q - 1 - k) y → m = (x + y) / 2) := by
            rcases HM.out with ⟨h, _⟩ | ⟨_, h, _⟩ | ⟨_, _, _, h, _⟩ | ⟨_, _, h0, k', x, y, h, h2, hx, hy, h3⟩
            · omega
            · rcases h with h | h
              · omega
              · rw [HQ.out] at h; cases h
            · omega
            · obtain rfl : k = k' := by omega
              exact ⟨h0, fun x' y' hx' hy' => by rw [h3, nth_one hx hx', nth_one hy hy']⟩
          have hk : 2 * k < q := by omega
          have z3 : ¬ (q : Int) ≤ 2 * (k : Int) := by omega
          have z4 : ¬ (64 : Int) < (k : Int) := by omega
          have z5 : ¬ (k : Int) < 0 := by omega
          clear f0 f1 HM
          obtain ⟨w0, rfl⟩ : ∃ w0, w0 = wr := ⟨wr, rfl⟩
          obtain ⟨b, off, rfl, hb, hl⟩ := HR.out (by omega)
          have C2 := clone_some ⟨b, off, none⟩ q c l w0 (by omega) (fun j u hu => by
            obtain ⟨h1, rfl⟩ := vals_at hu
            rw [Nat.zero_add, Addr.add_lit]
            exact hl j h1) (fun _ => hb)
          clear hl HR
          go_wp2_with fail
          refine C2.mono ?_
          rintro e w2 ⟨v, rfl, ho, hbel⟩
          have HC0 := ho.2
          rcases HC0 with ⟨_, h0⟩ | ⟨G, cap, cur, rfl, _, _, hc1, hc2, _⟩
          · omega
          have HC := cur_of (N := w0.heap.size) (w0 := w0) ho (by omega) hbel
          have HS : Hid (Rs w0.heap.size w0 G q l w2) := ⟨HC.low, HC.lt, fun t ht => (HC.cell t ht).trans (by rw [arr_at ht]), HC.froz, HC.bel⟩
          have hcap : Hid (q ≤ cap ∧ cap ≤ maxLen) := ⟨hc1, hc2⟩
          clear C2 ho hbel HC hc1 hc2
          go_wp2_with fail
          go_loopg [8, 41] (k + 1) (fun g s u wr => ∃ (j L : Nat) (gg : Nat → Int), s = .slice (some ⟨G, 0, none⟩) L cap ∧ u = .int .i64 j ∧ k - j < g ∧ j ≤ k ∧ Hid (Tr l q j gg L) ∧ Hid (Rs w0.heap.size w0 G L gg wr))
          case atStart => exact ⟨0, q, l, rfl, rfl, by omega, by omega, tr_first l q, HS⟩
          case round =>
            obtain ⟨j, L, gg, rfl, rfl, hg, hj, HT2, HS2⟩ := hrel
            have hL := HT2.out.1
            by_cases hlt : j < k
            · have z6 : (j : Int) < (k : Int) := by omega
              obtain ⟨L2, rfl⟩ : ∃ L2, L = L2 + 2 := ⟨L - 2, by omega⟩
              obtain ⟨M1, hM1⟩ := mn_there gg (L2 + 1)
              have HM1 : Hid (Mn gg (L2 + 2) M1) := hM1
              clear hM1
              obtain ⟨La, hLa⟩ : ∃ La, La = L2 + 2 := ⟨_, rfl⟩
              obtain ⟨Lb, hLb⟩ : ∃ Lb, Lb = L2 + 1 := ⟨_, rfl⟩
              have HLa : Hid (La = L2 + 2) := hLa
              have HLb : Hid (Lb = L2 + 1) := hLb
              have HLq : Hid (L2 + 2 + 2 * j = q) := hL
              rw [← hLa] at HT2 HS2 HM1 ⊢
              clear hLa hLb hL
              go_wp2_with fail
              refine (min_any G 0 La cap gg M1 _ (by have := HLa.out; omega) (by have := HLa.out; have := HLq.out; omega) HM1.out HS2.out.cell).mono ?_
              rintro e w3 ⟨rfl, rfl⟩
              go_wp2_with fail
              refine (index_any G 0 La cap gg M1 _ (by have := HLa.out; have := HLq.out; omega) HM1.out.2 HS2.out.cell).mono ?_
              rintro e w4 ⟨i, rfl, hi, hgi, rfl⟩
              have HI : Hid (i < La ∧ gg i = M1) := ⟨hi, hgi⟩
              have zi : (i : Int) < 9223372036854775807 := by have := HLa.out; have := HLq.out; omega
              clear hi hgi
              go_wp2_with fail
              refine (del_any w0.heap.size w0 G La Lb cap i gg _ HS2.out (by have := HLa.out; have := HLb.out; omega) HI.out.1 (by have := HLa.out; have := HLq.out; have := hcap.out.1; omega) hcap.out.2).mono ?_
              rintro e w5 ⟨rfl, hs⟩
              have HS3 : Hid (Rs w0.heap.size w0 G Lb (del gg i) w5) := hs
              clear hs zi
              obtain ⟨M2, hM2⟩ := mx_there (del gg i) L2
              rw [← HLb.out] at hM2
              have HM2 : Hid (Mx (del gg i) Lb M2) := hM2
              clear hM2
              go_wp2_with fail
              refine (max_any G 0 Lb cap (del gg i) M2 _ (by have := HLb.out; omega) (by have := HLb.out; have := HLq.out; omega) HM2.out HS3.out.cell).mono ?_
              rintro e w6 ⟨rfl, rfl⟩
              go_wp2_with fail
              refine (index_any G 0 Lb cap (del gg i) M2 _ (by have := HLb.out; have := HLq.out; omega) HM2.out.2 HS3.out.cell).mono ?_
              rintro e w7 ⟨i2, rfl, hi, hgi, rfl⟩
              have HI2 : Hid (i2 < Lb ∧ del gg i i2 = M2) := ⟨hi, hgi⟩
              have zi : (i2 : Int) < 9223372036854775807 := by have := HLb.out; have := HLq.out; omega
              clear hi hgi
              go_wp2_with fail
              refine (del_any w0.heap.size w0 G Lb L2 cap i2 (del gg i) _ HS3.out HLb.out HI2.out.1 (by have := HLb.out; have := HLq.out; have := hcap.out.1; omega) hcap.out.2).mono ?_
              rintro e w8 ⟨rfl, hs⟩
              have HS4 : Hid (Rs w0.heap.size w0 G L2 (del (del gg i) i2) w8) := hs
              clear hs zi
              have HT3 : Hid (Tr l q (j + 1) (del (del gg i) i2) L2) := by
                have q1 := HT2.out
                have q2 := HM1.out
                have q3 := HM2.out
                have q4 := HI.out
                have q5 := HI2.out
                have e1 := HLa.out
                have e2 := HLb.out
                subst e1 e2
                rw [← q4.2] at q2
                rw [← q5.2] at q3
                exact Tr.next q1 q2 (by omega) q3 (by omega)
              go_wp2_with fail
              go_roundg (k - (j + 1) + 1)
              case measure => omega
              case rel => exact ⟨j + 1, L2, del (del gg i) i2, rfl, by go_num, by omega, by omega, HT3, HS4⟩
            · have z6 : ¬ (j : Int) < (k : Int) := by omega
              obtain rfl : j = k := by omega
              obtain ⟨M1, hM1⟩ := mn_there gg (L - 1)
              obtain ⟨M2, hM2⟩ := mx_there gg (L - 1)
              rw [show L - 1 + 1 = L by omega] at hM1 hM2
              have x1 := HT2.out.low (by omega) hM1
              have x2 := HT2.out.high (by omega) hM2
              have E1 : Hid (m = (M1 + M2) / 2) := HT.out.2 M1 M2 x1 x2
              obtain ⟨b1, b2⟩ := nth_tick x1 HQ.out
              obtain ⟨b3, b4⟩ := nth_tick x2 HQ.out
              have HM1 : Hid (Mn gg L M1) := hM1
              have HM2 : Hid (Mx gg L M2) := hM2
              clear hM1 hM2 x1 x2
              go_wp2_with fail
              refine (min_any G 0 L cap gg M1 _ (by omega) (by omega) HM1.out HS2.out.cell).mono ?_
              rintro e w3 ⟨rfl, rfl⟩
              go_wp2_with fail
              refine (max_any G 0 L cap gg M2 _ (by omega) (by omega) HM2.out HS2.out.cell).mono ?_
              rintro e w4 ⟨rfl, rfl⟩
              go_wp2_with fail
              refine (rhalf_any (M1 + M2) (by omega) (by omega) _).mono ?_
              rintro e w5 ⟨rfl, rfl⟩
              go_wp2_with fail
              go_ret2
              exact ⟨by rw [E1.out, HT.out.1]; rfl, HS2.out.bel⟩

theorem rmidway_any (a : Option Addr) (n c : Nat) (l : Nat → Int) (f m E : Int) (f2 : f ≤ 9223372036854775807) (w : World) (hr : R64 w a n l) (hM : Mw l n f m E) :
    Calls Try.prog 8 #[.slice a n c, .int .i64 f] w fun e w' => e = .returned (.tuple #[.int .i64 m, .int .i64 E]) ∧ Below w.heap.size w w' := by
  by_cases h : 64 < n
  · obtain ⟨rfl, rfl⟩ := hM.one (Or.inl ⟨h, rfl, rfl⟩)
    exact (rmidway_large a n c f h w).mono fun _ _ q => ⟨q.1, by rw [q.2]; exact Below.refl _ _⟩
  · exact rmidway_small a n c l f m E f2 w (by omega) hr hM

end Go.Proofs.Ytdnjipikggehmaa
