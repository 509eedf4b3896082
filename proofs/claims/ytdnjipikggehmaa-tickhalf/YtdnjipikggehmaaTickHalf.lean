/-
  Whatever is handed in, the law TickHalf returns true: two that see the same of all but n, being more than three times n, come at least half as near as those are. No condition.
-/
import Derived.Test.YtdnjipikggehmaaTikCat
import Derived.Test.YtdnjipikggehmaaOpenZ
import Derived.ProofKit
import Derived.Deep.RegionWith
import Derived.Deep.RegionHeld3
import Derived.Deep.DeepCutAuto
namespace Go.Proofs.Ytdnjipikggehmaa.tickHalf
open Go.ChangeShapes Go.WideShapes Go.ChangeAt Go.RowKit
set_option linter.unusedVariables false

theorem own : ownKnob Try.prog.godebug = none := by kernel_rfl
theorem laidOut : laidOutB Try.prog = true := by kernel_rfl


theorem lo_cat (s a : Nat → Int) (S n : Nat) (x : Int) : lo (cat s S a) (S + n) x = lo s S x + lo a n x := by
  unfold lo
  rw [cnt_split]
  congr 1
  · exact cnt_congr S fun t ht => by unfold cat; rw [if_pos ht]
  · exact cnt_congr n fun t ht => by
      show cat s S a (S + t) = a t
      unfold cat
      rw [if_neg (by omega)]
      congr 1
      omega
theorem half_one {s a : Nat → Int} {S n : Nat} {x y L H v : Int} (h3 : 2 * n < S) (hL : Mn s S L) (hH : Mx s S H) (hv : Nth s S n v) (hx : Nth (cat s S a) (S + n) n x) (hy : Nth (cat s S a) (S + n) (S + n - 1 - n) y) : L ≤ x ∧ x ≤ v ∧ v ≤ y ∧ y ≤ H := by
  have c := lo_cat s a S n
  obtain ⟨x1, x2⟩ := hx
  obtain ⟨y1, y2⟩ := hy
  rw [c] at x1 x2 y1 y2
  obtain ⟨v1, v2⟩ := hv
  have l0 : lo s S L = 0 := lo_no hL.1
  have h0 : lo s S (H + 1) = S := lo_all fun t ht => by have := hH.1 t ht; omega
  have a1 := lo_le a n (x + 1)
  have a2 := lo_le a n (y + 1)
  refine ⟨?_, ?_, ?_, ?_⟩
  · rcases Int.lt_or_le x L with q | q
    · have := lo_mono s S (show x + 1 ≤ L by omega); omega
    · exact q
  · rcases Int.lt_or_le v x with q | q
    · have := lo_mono s S (show v + 1 ≤ x by omega); omega
    · exact q
  · rcases Int.lt_or_le y v with q | q
    · have := lo_mono s S (show y + 1 ≤ v by omega); omega
    · exact q
  · rcases Int.lt_or_le H y with q | q
    · have := lo_mono s S (show H + 1 ≤ y by omega); omega
    · exact q

def three : Nat → Int
  | 0 => 0
  | 1 => 10
  | _ => 4
theorem first_mid (w : World) (b : Nat) (hb : b = w.heap.size) : Calls Try.prog 7 #[.slice (some ⟨b, 0, none⟩) 3 3, .int .i64 0] (w.alloc (.cells #[.int .i64 0, .int .i64 10, .int .i64 4] 3)) fun r w' => r = .returned (.tuple #[.int .i64 5, .int .i64 0]) ∧ Below w.heap.size w w' := by
  subst hb
  refine (midway_any _ 3 3 three 0 5 0 (by decide) _ (fun _ => ⟨w.heap.size, 0, rfl, by simp, fun j hj => ?_⟩) (Or.inr (Or.inr (Or.inr ⟨by decide, by decide, rfl, 0, 0, 10, rfl, by decide, ⟨by decide, by decide⟩, ⟨by decide, by decide⟩, by decide⟩)))).mono ?_
  · match j, hj with
    | 0, _ => go_simp; rfl
    | 1, _ => go_simp; rfl
    | 2, _ => go_simp; rfl
  · rintro r w1 ⟨rfl, hb⟩
    exact ⟨rfl, ((Below.refl _ w).alloc (Nat.le_refl _) _).trans (hb.mono (by simp))⟩

theorem R64.less {w : World} {a : Option Addr} {n m : Nat} {l : Nat → Int} (h : R64 w a n l) (hm : m ≤ n) : R64 w a m l := fun hp => by
  obtain ⟨b, off, rfl, h1, h2⟩ := h (by omega)
  exact ⟨b, off, rfl, h1, fun j hj => h2 j (by omega)⟩

set_option maxHeartbeats 4000000 in
set_option maxRecDepth 100000 in
theorem walk (samea : Option Addr) (samen samec : Nat) (same : Nat → Int) (aa : Option Addr) (an ac : Nat) (a : Nat → Int) (ba : Option Addr) (bn bc : Nat) (b : Nat → Int) (w : World) (h_same : RowZ .i64 8 w samea samen samec same) (h_a : RowZ .i64 8 w aa an ac a) (h_b : RowZ .i64 8 w ba bn bc b) :
    Calls Try.prog 5 #[.slice samea samen samec, .slice aa an ac, .slice ba bn bc] w fun e w' => e = .returned (.bool true) ∧ Below w.heap.size w w' := by
  obtain ⟨nm, hna, hnb, hmin⟩ : ∃ nm : Nat, nm ≤ an ∧ nm ≤ bn ∧ ∀ (ts : Array TypeId) (t : TypeId) (W : World), (Builtin.min_ ts t #[.int .i64 (an : Int), .int .i64 (bn : Int)]).run Try.prog W = .ok (.int .i64 (nm : Int)) W := by
    by_cases q : (bn : Int) < (an : Int)
    · exact ⟨bn, by omega, by omega, fun ts t W => by rw [run_min_int2 W ts t .i64 .i64 an bn, if_pos q]⟩
    · exact ⟨an, by omega, by omega, fun ts t W => by rw [run_min_int2 W ts t .i64 .i64 an bn, if_neg q]⟩
  have hs8 := h_same.2.1
  have ha8 := h_a.2.1
  have hac := h_a.1.1
  have hbc := h_b.1.1
  have HS : Hid (R64 w samea samen same) := h_same.1.2.2.2
  have ZA : Hid (R64 w aa nm a) := R64.less h_a.1.2.2.2 hna
  have ZB : Hid (R64 w ba nm b) := R64.less h_b.1.2.2.2 hnb
  obtain ⟨T, hT⟩ : ∃ T, T = samen + nm := ⟨_, rfl⟩
  have HT : Hid (T = samen + nm) := hT
  have CG : Hid (∀ (a2 : Option Addr) (c2 : Nat) (f2 : Nat → Int), Hid (R64 w a2 nm f2) → ∀ (v : Nat) (W : World), v < W.heap.size → W.cell? ⟨v, 0, none⟩ = some (.slice samea samen samec) → W.cell? ⟨v, 1, none⟩ = some (.slice a2 nm c2) → Below w.heap.size w W → Calls Try.prog 13 #[.slice (some ⟨v, 0, none⟩) 2 2] W fun e w' => ∃ a' c', e = .returned (.slice a' T c') ∧ Hid (R64 w' a' T (cat same samen f2)) ∧ Hid (Below W.heap.size W w')) := fun a2 c2 f2 hz v W hv c0 c1 hB => by
    subst hT
    exact (concat_all v samea a2 samen nm samec c2 same f2 W hv c0 c1 (by omega) (HS.out.step hB) (hz.out.step hB)).mono (by rintro e w' ⟨a', c', h1, h2, h3⟩; exact ⟨a', c', h1, h2, h3⟩)
  have zA : (nm : Int) ≤ (ac : Int) := by omega
  have zB : (nm : Int) ≤ (bc : Int) := by omega
  have zT : (T : Int) ≤ 35184372088832 := by omega
  have zn : (nm : Int) ≤ 35184372088832 := by omega
  have HF : Hid (∀ (w : World) (b : Nat) (hb : b = w.heap.size), Calls Try.prog 7 #[.slice (some ⟨b, 0, none⟩) 3 3, .int .i64 0] (w.alloc (.cells #[.int .i64 0, .int .i64 10, .int .i64 4] 3)) fun r w' => r = .returned (.tuple #[.int .i64 5, .int .i64 0]) ∧ Below w.heap.size w w') := first_mid
  clear hT hs8 ha8 hna hnb h_same h_a h_b hac hbc
  go_enter Try.func5, Try.ntmps5
  go_wp2_with fail
  refine (HF.out w _ rfl).mono ?_
  rintro r w1 ⟨rfl, hb⟩
  have B1 : Hid (Below w.heap.size w w1) := hb
  clear hb HF
  go_upto_region 5 with (fail)
  go_cut [10, 11] (fun s t wc => ∃ (xa : Option Addr) (xc : Nat) (ya : Option Addr) (yc : Nat), s = .slice xa T xc ∧ t = .slice ya T yc ∧ Hid (R64 wc xa T (cat same samen a)) ∧ Hid (R64 wc ya T (cat same samen b)) ∧ Hid (Below w.heap.size w wc))
  case first =>
    go_region_with (first | (go_at_call 13; refine (CG.out ba bc b ZB _ _ (by first | (simp; done) | (have q := BA.out.size; simp at q; simp; omega)) (by first | exact (BA.out.cell (p := ⟨_, 0, none⟩) (by first | (simp; done) | (simp; omega))).trans (by go_simp; done) | (go_simp; done)) (by first | exact (BA.out.cell (p := ⟨_, 1, none⟩) (by first | (simp; done) | (simp; omega))).trans (by go_simp; done) | (go_simp; done)) (by first | exact SA.out | exact (SA.out.alloc SA.out.size _) | exact (SA.out.alloc SA.out.size _).drew)).mono ?_; rintro e wB ⟨ya, yc, rfl, HB, BB⟩; have SB : Hid (Below w.heap.size w wB) := (by first | exact SA.out.trans (BB.out.mono SA.out.size) | exact (SA.out.alloc SA.out.size _).trans (BB.out.mono (by have := SA.out.size; simp; omega)) | exact (SA.out.alloc SA.out.size _).drew.trans (BB.out.mono (by have := SA.out.size; simp; omega))); have HA2 : Hid (R64 wB xa T (cat same samen a)) := (by first | exact HA.out.step BB.out | exact (HA.out.step ((Below.refl _ _).alloc (Nat.le_refl _) _)).step BB.out | exact (HA.out.step (((Below.refl _ _).alloc (Nat.le_refl _) _).drew)).step BB.out)) | (go_at_call 13; refine (CG.out aa ac a ZA _ _ (by first | (simp; done) | (simp; omega)) (by go_simp; done) (by go_simp; done) (by first | exact (B1.out.alloc B1.out.size _).drew | exact ((B1.out.alloc B1.out.size _).alloc (by have := B1.out.size; simp; omega) _).drew)).mono ?_; rintro e wA ⟨xa, xc, rfl, HA, BA⟩; have SA : Hid (Below w.heap.size w wA) := (by first | exact ((B1.out.alloc B1.out.size _).drew).trans (BA.out.mono (by have := B1.out.size; simp; omega)) | exact (((B1.out.alloc B1.out.size _).alloc (by have := B1.out.size; simp; omega) _).drew).trans (BA.out.mono (by have := B1.out.size; simp; omega)))))
    all_goals (try go_wp2)
    all_goals go_meet
    all_goals exact ⟨xa, xc, ya, yc, rfl, rfl, HA2, HB, SB⟩
  case rest =>
    obtain ⟨xa, xc, ya, yc, rfl, rfl, HX, HY, B2⟩ := hcut
    obtain ⟨w2, rfl⟩ : ∃ w2, w2 = wc := ⟨wc, rfl⟩
    clear CG ZA ZB B1 hmin zA zB
    have HS2 : Hid (R64 w2 samea samen same) := HS.out.step B2.out
    by_cases h3 : T ≤ 3 * nm
    · have z1 : (T : Int) ≤ 3 * (nm : Int) := by omega
      go_wp2_with fail
      go_ret
      exact ⟨rfl, B2.out⟩
    · have z1 : ¬ (T : Int) ≤ 3 * (nm : Int) := by omega
      have hpos : 2 * nm < samen := by have := HT.out; omega
      have z2 : ((samen : Int) == 0) = false := by simp; omega
      obtain ⟨p, E1, hM1⟩ := mw_there (cat same samen a) T (nm : Int)
      obtain ⟨q, E2, hM2⟩ := mw_there (cat same samen b) T (nm : Int)
      have HM1 : Hid (Mw (cat same samen a) T (nm : Int) p E1) := hM1
      have HM2 : Hid (Mw (cat same samen b) T (nm : Int) q E2) := hM2
      have HN : Hid ((nm : Int) ≤ 9223372036854775807) := by show (nm : Int) ≤ _; omega
      clear hM1 hM2 h3
      go_wp2_with fail
      refine (midway_any xa T xc (cat same samen a) (nm : Int) p E1 HN.out w2 HX.out HM1.out).mono ?_
      rintro r w3 ⟨rfl, hb⟩
      have BB3 : Hid (Below w2.heap.size w2 w3) := hb
      have B3 : Hid (Below w.heap.size w w3) := B2.out.trans (hb.mono B2.out.size)
      clear hb
      go_wp2_with fail
      refine (midway_any ya T yc (cat same samen b) (nm : Int) q E2 HN.out w3 (HY.out.step BB3.out) HM2.out).mono ?_
      rintro r w4 ⟨rfl, hb⟩
      have B4 : Hid (Below w.heap.size w w4) := B3.out.trans (hb.mono B3.out.size)
      clear hb BB3 B3 HX HY
      by_cases e1 : E1 = 0
      · subst e1
        by_cases e2 : E2 = 0
        · subst e2
          obtain ⟨g1, g2, k1, x1, y1, f1, _, hx1, hy1, ep⟩ := HM1.out.good rfl
          obtain ⟨_, _, k2, x2, y2, f2, _, hx2, hy2, eq⟩ := HM2.out.good rfl
          obtain rfl : nm = k1 := by omega
          obtain rfl : nm = k2 := by omega
          obtain ⟨L, hL⟩ := mn_there same (samen - 1)
          obtain ⟨H, hH⟩ := mx_there same (samen - 1)
          rw [show samen - 1 + 1 = samen by omega] at hL hH
          obtain ⟨v, hv⟩ := nth_there same samen nm (by omega)
          rw [HT.out] at hx1 hy1 hx2 hy2
          have c1 := half_one hpos hL hH hv hx1 hy1
          have c2 := half_one hpos hL hH hv hx2 hy2
          have tick : ∀ i, i < samen → -1099511627776 ≤ same i ∧ same i ≤ 1099511627776 := fun i hi => by
            have := allT_iff.1 g2 i (by have := HT.out; omega)
            unfold cat at this
            rw [if_pos hi] at this
            exact tkB_iff.1 this
          have tL : -1099511627776 ≤ L ∧ L ≤ 1099511627776 := by
            obtain ⟨i, hi, e⟩ := hL.2
            rw [← e]; exact tick i hi
          have tH : -1099511627776 ≤ H ∧ H ≤ 1099511627776 := by
            obtain ⟨i, hi, e⟩ := hH.2
            rw [← e]; exact tick i hi
          obtain ⟨l1, l2⟩ := tL
          obtain ⟨h1, h2⟩ := tH
          obtain ⟨D, hD, hmax⟩ : ∃ D : Int, (D = p - q ∨ D = q - p) ∧ ∀ (ts : Array TypeId) (t : TypeId) (W : World), (Builtin.max_ ts t #[.int .i64 (p - q), .int .i64 (q - p)]).run Try.prog W = .ok (.int .i64 D) W := by
            refine ⟨_, ?_, fun ts t W => run_max_int2 W ts t .i64 .i64 (p - q) (q - p)⟩
            split
            · exact Or.inr rfl
            · exact Or.inl rfl
          have d1 : D ≤ (H - L + 1) / 2 := by rcases hD with rfl | rfl <;> omega
          have d2 : L ≤ p := by omega
          have d3 : p ≤ H := by omega
          have d4 : -1099511627776 ≤ q ∧ q ≤ 1099511627776 := by omega
          have d5 : 0 ≤ H - L + 1 := by omega
          have hs64 : samen ≤ 1048576 := by have := HT.out; omega
          have hs0 : 0 < samen := by omega
          have HL : Hid (Mn same samen L) := hL
          have HH : Hid (Mx same samen H) := hH
          obtain ⟨q1, q2⟩ := d4
          obtain ⟨bb, off, rfl, hbb, hcell⟩ := HS2.out hs0
          have HC : Hid (∀ t, t < samen → w4.cell? ⟨bb, off + t, none⟩ = some (.int .i64 (same t))) := by
            obtain ⟨b', o', e, hb', hc'⟩ := HS.out hs0
            simp only [Option.some.injEq, Addr.mk.injEq] at e
            obtain ⟨rfl, rfl, _⟩ := e
            exact fun t ht => (B4.out.cell (p := ⟨bb, off + t, none⟩) hb').trans (hc' t ht)
          clear hL hH hD c1 c2 hx1 hy1 hx2 hy2 ep eq tick hv g2 HM1 HM2 f1 f2 hcell hbb HS2 HS B2
          go_wp2_with fail
          refine (max_any bb off samen samec same H w4 hs0 hs64 HH.out HC.out).mono ?_
          rintro r w5 ⟨rfl, rfl⟩
          go_wp2_with fail
          refine (min_any bb off samen samec same L w5 hs0 hs64 HL.out HC.out).mono ?_
          rintro r w6 ⟨rfl, rfl⟩
          go_wp2_with fail
          refine (min_any bb off samen samec same L w6 hs0 hs64 HL.out HC.out).mono ?_
          rintro r w7 ⟨rfl, rfl⟩
          go_wp2_with fail
          refine (max_any bb off samen samec same H w7 hs0 hs64 HH.out HC.out).mono ?_
          rintro r w8 ⟨rfl, rfl⟩
          go_wp2_with fail
          go_ret
          exact ⟨rfl, B4.out⟩
        · have q0 : (E2 != 0) = true := by simpa using e2
          clear e2 HM1 HM2
          go_wp2_with fail
          go_ret
          exact ⟨rfl, B4.out⟩
      · have q0 : (E1 != 0) = true := by simpa using e1
        clear e1 HM1 HM2
        go_wp2_with fail
        go_ret
        exact ⟨rfl, B4.out⟩

/-! ### THE ROW's STEP -/
set_option maxRecDepth 100000 in
theorem lifted (os : Os) (started : os.Started) (H : Type) (enc : TypeId × Value → H) :
    ReturnsInHanded {} Try.checked os 5 .any (Rows.tickHalfSpec.pre6 enc Try.prog Try.f5 Rows.tickHalfRow.domain false) (Rows.tickHalfSpec.post enc Try.prog Try.f5 false true false false) := by
  refine returnsInHanded_of_change_sized (C := Try.checked) own started (by kernel_rfl) Try.func5
    (ChangeSpec.witness6 (enc := enc) (C := Try.checked) false ⟨#[], #[.slice none 0 0, .slice none 0 0, .slice none 0 0], []⟩ 8 (by kernel_rfl) (by kernel_rfl) (by kernel_rfl) (by kernel_rfl)) ?_
  intro W base args ds gs before hval0 hW hcnd hsz0 _
  have hval : ∀ (j : Nat) t v, Try.f5.params[j]? = some t → args[j]? = some v → Value.okWide Try.prog W .any base t v := hval0
  have hW' := hW
  obtain ⟨p, q, hA0, hV, rfl, hfz, hnd⟩ := hW
  have hA : DataW.TrodAll enc Try.prog W 0 (fun _ => true) true Try.f5.params.toList args.toList ds p := hA0
  rw [Try.params5] at hA hval
  obtain ⟨v_0, vs_0, d_0, ds_0, p_0, q_0, hargs, rfl, rfl, h_0, r_0⟩ := trodAll_cons hA
  obtain ⟨v_1, vs_1, d_1, ds_1, p_1, q_1, rfl, rfl, rfl, h_1, r_1⟩ := trodAll_cons r_0
  obtain ⟨v_2, vs_2, d_2, ds_2, p_2, q_2, rfl, rfl, rfl, h_2, r_2⟩ := trodAll_cons r_1
  obtain ⟨rfl, rfl, rfl⟩ := trodAll_nil r_2
  obtain rfl : args = #[v_0, v_1, v_2] := by cases args; simp_all
  obtain ⟨rfl, rfl⟩ := trodVars_none hV
  have hz_0 : Light Try.prog 22 d_0 := light_of hsz0 (j := 0) (by first | rfl | (rw [Try.params5]; rfl)) rfl
  have k_0 := h_0
  have lt_0 : ∀ x ∈ p_0, x.block < W.heap.size := by obtain ⟨m, hm⟩ := k_0; exact DataW.trod_lt m _ _ _ hm
  obtain ⟨samea, samen, samec, rfl⟩ := okWide_slice Try.underlying22 (hval 0 22 v_0 rfl rfl)
  obtain ⟨same, h_same⟩ : ∃ l, RowZ .i64 8 W samea samen samec l := by
    obtain ⟨fuel, hf⟩ := h_0
    obtain ⟨a, m, c, l, hcs, hr⟩ := rowZ_of Try.underlying22 Try.underlying3 (by kernel_rfl) (by kernel_rfl) hf hz_0
    simp [Value.cells] at hcs
    obtain ⟨rfl, rfl, rfl⟩ := hcs
    exact ⟨l, hr⟩
  have hz_1 : Light Try.prog 22 d_1 := light_of hsz0 (j := 1) (by first | rfl | (rw [Try.params5]; rfl)) rfl
  have k_1 := h_1
  have lt_1 : ∀ x ∈ p_1, x.block < W.heap.size := by obtain ⟨m, hm⟩ := k_1; exact DataW.trod_lt m _ _ _ hm
  obtain ⟨aa, an, ac, rfl⟩ := okWide_slice Try.underlying22 (hval 1 22 v_1 rfl rfl)
  obtain ⟨a, h_a⟩ : ∃ l, RowZ .i64 8 W aa an ac l := by
    obtain ⟨fuel, hf⟩ := h_1
    obtain ⟨a, m, c, l, hcs, hr⟩ := rowZ_of Try.underlying22 Try.underlying3 (by kernel_rfl) (by kernel_rfl) hf hz_1
    simp [Value.cells] at hcs
    obtain ⟨rfl, rfl, rfl⟩ := hcs
    exact ⟨l, hr⟩
  have hz_2 : Light Try.prog 22 d_2 := light_of hsz0 (j := 2) (by first | rfl | (rw [Try.params5]; rfl)) rfl
  have k_2 := h_2
  have lt_2 : ∀ x ∈ p_2, x.block < W.heap.size := by obtain ⟨m, hm⟩ := k_2; exact DataW.trod_lt m _ _ _ hm
  obtain ⟨ba, bn, bc, rfl⟩ := okWide_slice Try.underlying22 (hval 2 22 v_2 rfl rfl)
  obtain ⟨b, h_b⟩ : ∃ l, RowZ .i64 8 W ba bn bc l := by
    obtain ⟨fuel, hf⟩ := h_2
    obtain ⟨a, m, c, l, hcs, hr⟩ := rowZ_of Try.underlying22 Try.underlying3 (by kernel_rfl) (by kernel_rfl) hf hz_2
    simp [Value.cells] at hcs
    obtain ⟨rfl, rfl, rfl⟩ := hcs
    exact ⟨l, hr⟩
  clear hA0 hval0
  refine (walk samea samen samec same aa an ac a ba bn bc b W h_same h_a h_b).mono fun e W' ⟨he, bel⟩ => ?_
  subst he
  exact ⟨_, rfl, _, _, _, [], _, [], hW', trodAll_mk1 (shut_bool Try.underlying4 _), (trodAll_cons_mk (Below.trod laidOut (by kernel_rfl) (of_decide_eq_true (by kernel_rfl)) k_0 bel lt_0) (trodAll_cons_mk (Below.trod laidOut (by kernel_rfl) (of_decide_eq_true (by kernel_rfl)) k_1 bel lt_1) (trodAll_cons_mk (Below.trod laidOut (by kernel_rfl) (of_decide_eq_true (by kernel_rfl)) k_2 bel lt_2) trodAll_mk0))), rfl, bel.frame _, fun h => by cases h⟩

theorem over : Rows.tickHalfRow.holds Try.pinned (OpenSpec.ofChange Rows.tickHalfSpec) :=
  OpenClaim.holds_of_wide 5 Try.f5 rfl rfl rfl rfl rfl rfl rfl ⟨rfl, rfl, rfl, rfl, rfl⟩ rfl rfl rfl rfl rfl (by kernel_rfl) Try.func5 (by kernel_rfl)
    (of_decide_eq_true (by kernel_rfl)) (by unfold Func.isWrapper; first | (rw [if_pos (by decide +kernel)]; kernel_rfl) | (rw [if_neg (by decide +kernel)]; exact ⟨rfl, rfl⟩))
    (fun os started H enc _ => lifted os started H enc)


end Go.Proofs.Ytdnjipikggehmaa.tickHalf
namespace Go.Proofs.Ytdnjipikggehmaa
/-- THE STATEMENT -/
theorem tickHalf_holds : Rows.TickHalfSaid := tickHalf.over
#print axioms tickHalf_holds
end Go.Proofs.Ytdnjipikggehmaa
