/-
  Whatever is handed in, the law TickWithin returns true: whatever up to n of the numbers are, what comes lies among the others; their order makes no difference; all later by so much it is so, too. No condition.
-/
import Derived.Test.YtdnjipikggehmaaTikRot
import Derived.Test.YtdnjipikggehmaaRest
import Derived.Test.YtdnjipikggehmaaOpenZ
import Derived.ProofKit
import Derived.Deep.RegionWith
namespace Go.Proofs.Ytdnjipikggehmaa.tickWithin
open Go.ChangeShapes Go.WideShapes Go.ChangeAt Go.RowKit
set_option linter.unusedVariables false

theorem own : ownKnob Try.prog.godebug = none := by kernel_rfl
theorem laidOut : laidOutB Try.prog = true := by kernel_rfl


def four : Nat → Int
  | 0 => 1
  | 1 => 900
  | 2 => 3
  | _ => -700
theorem first_mid (w : World) (b : Nat) (hb : b = w.heap.size) : Calls Try.prog 7 #[.slice (some ⟨b, 0, none⟩) 4 4, .int .i64 1] (w.alloc (.cells #[.int .i64 1, .int .i64 900, .int .i64 3, .int .i64 (-700)] 3)) fun r w' => r = .returned (.tuple #[.int .i64 2, .int .i64 0]) ∧ Below w.heap.size w w' := by
  subst hb
  refine (midway_any _ 4 4 four 1 2 0 (by decide) _ (fun _ => ⟨w.heap.size, 0, rfl, by simp, fun j hj => ?_⟩) (Or.inr (Or.inr (Or.inr ⟨by decide, by decide, rfl, 1, 1, 3, rfl, by decide, ⟨by decide, by decide⟩, ⟨by decide, by decide⟩, by decide⟩)))).mono ?_
  · match j, hj with
    | 0, _ => go_simp; rfl
    | 1, _ => go_simp; rfl
    | 2, _ => go_simp; rfl
    | 3, _ => go_simp; rfl
  · rintro r w1 ⟨rfl, hb⟩
    exact ⟨rfl, ((Below.refl _ w).alloc (Nat.le_refl _) _).trans (hb.mono (by simp))⟩

set_option maxHeartbeats 4000000 in
set_option maxRecDepth 100000 in
theorem walk (la : Option Addr) (ln lc : Nat) (l : Nat → Int) (n : Int) (byv : Int) (turn : Int) (w : World) (h_l : RowZ .i64 8 w la ln lc l) (h_n : (Lit.int .i64 n).wf = true) (h_byv : (Lit.int .i64 byv).wf = true) (h_turn : (Lit.int .i64 turn).wf = true) :
    Calls Try.prog 4 #[.slice la ln lc, .int .i64 n, .int .i64 byv, .int .i64 turn] w fun e w' => e = .returned (.bool true) ∧ Below w.heap.size w w' := by
  obtain ⟨n1, n2⟩ := bounds_i64 h_n
  have HR : Hid (R64 w la ln l) := h_l.1.2.2.2
  have HZ : Hid (ln ≤ lc ∧ lc ≤ maxLen) := ⟨h_l.1.1, h_l.1.2.1⟩
  have HF : Hid (∀ (w : World) (b : Nat) (hb : b = w.heap.size), Calls Try.prog 7 #[.slice (some ⟨b, 0, none⟩) 4 4, .int .i64 1] (w.alloc (.cells #[.int .i64 1, .int .i64 900, .int .i64 3, .int .i64 (-700)] 3)) fun r w' => r = .returned (.tuple #[.int .i64 2, .int .i64 0]) ∧ Below w.heap.size w w') := first_mid
  obtain ⟨m, E, hM⟩ := mw_there l ln n
  have HM : Hid (Mw l ln n m E) := hM
  have HN : Hid (n ≤ 9223372036854775807) := n2
  clear hM h_l h_n h_byv h_turn n1 n2
  go_enter Try.func4, Try.ntmps4
  go_wp2_with fail
  refine (HF.out w _ rfl).mono ?_
  rintro r w1 ⟨rfl, hb⟩
  have B1 : Hid (Below w.heap.size w w1) := hb
  clear hb HF
  go_wp2_with fail
  refine (midway_any la ln lc l n m E HN.out w1 (HR.out.step B1.out) HM.out).mono ?_
  rintro r w2 ⟨rfl, hb⟩
  have B2 : Hid (Below w.heap.size w w2) := B1.out.trans (hb.mono B1.out.size)
  clear hb B1 HN
  by_cases h0 : E = 0
  · obtain ⟨g1, g2, k, x, y, rfl, hk, hx, hy, em⟩ := HM.out.good h0
    subst h0
    have HX : Hid (Nth l ln k x ∧ Nth l ln (ln - 1 - k) y ∧ m = (x + y) / 2) := ⟨hx, hy, em⟩
    have HT : Hid (allT l ln = true) := g2
    obtain ⟨m1, m2⟩ := HM.out.bounds
    obtain ⟨b, off, rfl, hb, hl⟩ := HR.out (by omega)
    have HL : Hid (∀ t, t < ln → w2.cell? ⟨b, off + t, none⟩ = some (.int .i64 (l t))) := fun t ht => (B2.out.cell (p := ⟨b, off + t, none⟩) hb).trans (hl t ht)
    have hb2 : b < w2.heap.size := Nat.lt_of_lt_of_le hb B2.out.size
    have C2 := clone_some ⟨b, off, none⟩ ln lc l w2 (by omega) (fun j u hu => by
      obtain ⟨h1, rfl⟩ := vals_at hu
      rw [Nat.zero_add, Addr.add_lit]
      exact HL.out j h1) (fun _ => hb2)
    clear hx hy em g2 HR hl HM
    go_wp2_with fail
    refine C2.mono ?_
    rintro e w3 ⟨v, rfl, ho, hbel⟩
    have HC0 := ho.2
    rcases HC0 with ⟨_, h0⟩ | ⟨G, cap, cur, rfl, _, _, hc1, hc2, _⟩
    · omega
    have HC : Hid (Cur w2.heap.size w2 G 0 ln (arr l ln) w3) := cur_of ho (by omega) hbel
    unfold maxLen at hc2
    clear C2 ho hbel
    go_wp2_with fail
    refine (sort_any w2.heap.size w2 G 0 ln cap (arr l ln) w3 HC.out (by omega)).mono ?_
    rintro e w4 ⟨rfl, d', C3, P, S⟩
    have B4 : Hid (Below w.heap.size w w4) := B2.out.trans (C3.bel.mono B2.out.size)
    have HS : Hid (∀ t, t < ln → Nth l ln t (d'[t]!) ∧ w4.cell? ⟨G, t, none⟩ = some (.int .i64 (d'[t]!))) := fun t ht => ⟨nth_sorted P S t ht, by have := C3.cell t ht; rwa [Nat.zero_add] at this⟩
    have HL4 : Hid (∀ t, t < ln → w4.cell? ⟨b, off + t, none⟩ = some (.int .i64 (l t))) := fun t ht => (C3.bel.cell (p := ⟨b, off + t, none⟩) hb2).trans (HL.out t ht)
    have hb4 : b < w4.heap.size := Nat.lt_of_lt_of_le hb2 C3.bel.size
    clear P S C3 HC HL hb2 B2
    go_wp2_with fail
    go_loopg [50] (k + 2) (fun g s wr => ∃ q : Nat, s = .int .i64 q ∧ k + 1 - q < g ∧ q ≤ k + 1 ∧ wr = w4)
    case atStart => exact ⟨0, rfl, by omega, by omega, rfl⟩
    case round =>
      obtain ⟨q, rfl, hg, hq, rfl⟩ := hrel
      by_cases hlt : q < k + 1
      · have z1 : (q : Int) < (k : Int) + 1 := by omega
        obtain ⟨s1, x0⟩ := HS.out q (by omega)
        obtain ⟨s2, x1⟩ := HS.out (q + (ln - k - 1)) (by omega)
        have t1 := nth_le s1 HX.out.1 (by omega)
        have t2 := nth_le HX.out.2.1 s2 (by omega)
        have t3 := nth_le HX.out.1 HX.out.2.1 (by omega)
        have t4 := HX.out.2.2
        generalize d'[q]! = u at x0 t1
        generalize d'[q + (ln - k - 1)]! = v at x1 t2
        have y1 : ¬ m < u := by omega
        have y2 : ¬ v < m := by omega
        clear s1 s2 t1 t2 t3 t4
        have z2 : ¬ cap = q := by omega
        go_wp2_with fail
        go_roundg (k + 1 - (q + 1) + 1)
        case measure => omega
        case rel => exact ⟨q + 1, by go_num, by omega, by omega, rfl⟩
      · have z1 : ¬ (q : Int) < (k : Int) + 1 := by omega
        clear hlt hg hq HS
        obtain ⟨w0, rfl⟩ : ∃ w0, w0 = wr := ⟨wr, rfl⟩
        have r1 := Int.emod_nonneg turn (show (ln : Int) ≠ 0 by omega)
        have r2 := Int.emod_lt_of_pos turn (show (0 : Int) < (ln : Int) by omega)
        have hR := rrest_any turn (ln : Int) (by omega) (by omega)
        obtain ⟨i, hi⟩ := Int.eq_ofNat_of_zero_le r1
        rw [hi] at r2 hR
        clear hi r1
        have s1 := Int.emod_nonneg byv (show (1000 : Int) ≠ 0 by omega)
        have s2 := Int.emod_lt_of_pos byv (show (0 : Int) < (1000 : Int) by omega)
        have hR2 := rrest_any byv 1000 (by omega) (by omega)
        generalize byv % 1000 = B at s1 s2 hR2
        go_wp2_with fail
        refine (hR _).mono ?_
        rintro r w5 ⟨rfl, rfl⟩
        clear hR
        go_wp2_with fail
        refine (hR2 _).mono ?_
        rintro r w6 ⟨rfl, rfl⟩
        clear hR2
        have z2 : (i : Int) ≤ (ln : Int) := by omega
        have z3 : (i : Int) ≤ (lc : Int) := by have := HZ.out.1; omega
        have z4 : ¬ lc = i := by have := HZ.out.1; omega
        have HI : Hid (i < ln) := by show i < ln; omega
        have CC : Calls Try.prog 13 #[.slice (some ⟨w6.heap.size, 0, none⟩) 2 2] (w6.alloc (.cells #[.slice (some ⟨b, off + i, none⟩) (ln - i) (lc - i), .slice (some ⟨b, off, none⟩) i lc] 22)).drew fun e w' => ∃ g cap : Nat, e = .returned (.slice (some ⟨g, 0, none⟩) ln cap) ∧ Rs w.heap.size w g ln (rot l i ln) w' :=
          concat_rot w.heap.size w b off ln lc i 1 l w6 B4.out B4.out.size HI.out g1 hb4 HL4.out _ rfl
        go_wp2_with fail
        go_region_with (first | (go_at_call 13; refine CC.mono ?_; rintro e w7 ⟨g, cap7, rfl, hrs⟩; have HRs : Hid (Rs w.heap.size w g ln (rot l i ln) w7) := hrs; clear hrs))
        clear CC
        have HMr : Hid (Mw (rot l i ln) ln (k : Int) m 0) := Or.inr (Or.inr (Or.inr ⟨g1, rot_all HI.out HT.out, rfl, k, x, y, rfl, hk, rot_nth (Nat.le_of_lt HI.out) HX.out.1, rot_nth (Nat.le_of_lt HI.out) HX.out.2.1, HX.out.2.2⟩))
        have HKb : Hid ((k : Int) ≤ 9223372036854775807) := by show (k : Int) ≤ _; omega
        have hTr : Hid (allT (rot l i ln) ln = true) := rot_all HI.out HT.out
        have HXr : Hid (Nth (rot l i ln) ln k x ∧ Nth (rot l i ln) ln (ln - 1 - k) y ∧ m = (x + y) / 2) := ⟨rot_nth (Nat.le_of_lt HI.out) HX.out.1, rot_nth (Nat.le_of_lt HI.out) HX.out.2.1, HX.out.2.2⟩
        generalize rot l i ln = lr at HRs HMr hTr HXr
        clear HX HL4 hb4 z2 z3 z4 HI HT
        go_wp2_with fail
        refine (midway_any (some ⟨g, 0, none⟩) ln cap7 lr (k : Int) m 0 HKb.out w7 HRs.out.row HMr.out).mono ?_
        rintro r w8 ⟨rfl, hb8⟩
        have HR8 : Hid (Rs w.heap.size w g ln lr w8) := HRs.out.later hb8 HRs.out.lt
        clear hb8 HRs
        go_wp2_with fail
        go_loopg [100] (ln + 1) (fun gk s wr => ∃ q : Nat, s = .int .i64 q ∧ ln - q < gk ∧ q ≤ ln ∧ Hid (Rs w.heap.size w g ln (upTo lr B q) wr))
        case atStart => exact ⟨0, rfl, by omega, by omega, HR8.out.congr fun t _ => by unfold upTo; rw [if_neg (by omega)]⟩
        case round =>
          obtain ⟨q, rfl, hg, hq, HRq⟩ := hrel
          by_cases hlt : q < ln
          · have z1 : (q : Int) < (ln : Int) := by omega
            have x0 := HRq.out.cell q hlt
            have x1 := HRq.out.froz q hlt
            rw [Nat.zero_add] at x0 x1
            rw [upTo_none] at x0
            obtain ⟨b1, b2⟩ := tkB_iff.1 (allT_iff.1 hTr.out q hlt)
            obtain ⟨v, hv⟩ : ∃ v, lr q = v := ⟨_, rfl⟩
            have HV : Hid (lr q = v) := hv
            rw [hv] at x0 b1 b2
            clear hv
            go_wp2_with fail
            go_roundg (ln - (q + 1) + 1)
            case measure => omega
            case rel => exact ⟨q + 1, by go_num, by omega, by omega, HRq.out.store hlt (by rw [← upTo_next, HV.out]) (fun t ht => upTo_other lr B q t ht)⟩
          · have z1 : ¬ (q : Int) < (ln : Int) := by omega
            obtain rfl : q = ln := by omega
            obtain ⟨w9, rfl⟩ : ∃ w9, w9 = wr := ⟨wr, rfl⟩
            have HR9 : Hid (Rs w.heap.size w g q (fun t => lr t + B) w9) := HRq.out.congr fun t ht => upTo_all lr B q t ht
            obtain ⟨m2, E2, hM2⟩ := mw_there (fun t => lr t + B) q (k : Int)
            have HM2 : Hid (Mw (fun t => lr t + B) q (k : Int) m2 E2) := hM2
            clear hM2 HRq hlt hg hq
            go_wp2_with fail
            refine (midway_any (some ⟨g, 0, none⟩) q cap7 (fun t => lr t + B) (k : Int) m2 E2 HKb.out w9 HR9.out.row HM2.out).mono ?_
            rintro r w10 ⟨rfl, hb10⟩
            have HBe : Hid (Below w.heap.size w w10) := HR9.out.bel.trans (hb10.mono HR9.out.bel.size)
            clear hb10
            have s3 : (m == m) = true := by simp
            by_cases e2 : E2 = 0
            · have e3 := sh_mw HXr.out.1 HXr.out.2.1 HM2.out e2
              rw [← HXr.out.2.2] at e3
              subst e2 e3
              have s4 : (m + B == m + B) = true := by simp
              clear HM2 HXr
              go_wp2_with fail
              go_ret
              exact ⟨rfl, HBe.out⟩
            · have e3 : (E2 != 0) = true := by simpa using e2
              clear e2 HM2 HXr
              go_wp2_with fail
              go_ret
              exact ⟨rfl, HBe.out⟩
  · obtain rfl := HM.out.bad h0
    have q : (E != 0) = true := by simpa using h0
    clear h0 HM
    go_wp2_with fail
    go_ret
    exact ⟨rfl, B2.out⟩

/-! ### THE ROW's STEP -/
set_option maxRecDepth 100000 in
theorem lifted (os : Os) (started : os.Started) (H : Type) (enc : TypeId × Value → H) :
    ReturnsInHanded {} Try.checked os 4 .any (Rows.tickWithinSpec.pre6 enc Try.prog Try.f4 Rows.tickWithinRow.domain false) (Rows.tickWithinSpec.post enc Try.prog Try.f4 false true false false) := by
  refine returnsInHanded_of_change_sized (C := Try.checked) own started (by kernel_rfl) Try.func4
    (ChangeSpec.witness6 (enc := enc) (C := Try.checked) false ⟨#[], #[.slice none 0 0, .int .i64 0, .int .i64 0, .int .i64 0], []⟩ 8 (by kernel_rfl) (by kernel_rfl) (by kernel_rfl) (by kernel_rfl)) ?_
  intro W base args ds gs before hval0 hW hcnd hsz0 _
  have hval : ∀ (j : Nat) t v, Try.f4.params[j]? = some t → args[j]? = some v → Value.okWide Try.prog W .any base t v := hval0
  have hW' := hW
  obtain ⟨p, q, hA0, hV, rfl, hfz, hnd⟩ := hW
  have hA : DataW.TrodAll enc Try.prog W 0 (fun _ => true) true Try.f4.params.toList args.toList ds p := hA0
  rw [Try.params4] at hA hval
  obtain ⟨v_0, vs_0, d_0, ds_0, p_0, q_0, hargs, rfl, rfl, h_0, r_0⟩ := trodAll_cons hA
  obtain ⟨v_1, vs_1, d_1, ds_1, p_1, q_1, rfl, rfl, rfl, h_1, r_1⟩ := trodAll_cons r_0
  obtain ⟨v_2, vs_2, d_2, ds_2, p_2, q_2, rfl, rfl, rfl, h_2, r_2⟩ := trodAll_cons r_1
  obtain ⟨v_3, vs_3, d_3, ds_3, p_3, q_3, rfl, rfl, rfl, h_3, r_3⟩ := trodAll_cons r_2
  obtain ⟨rfl, rfl, rfl⟩ := trodAll_nil r_3
  obtain rfl : args = #[v_0, v_1, v_2, v_3] := by cases args; simp_all
  obtain ⟨rfl, rfl⟩ := trodVars_none hV
  have hz_0 : Light Try.prog 22 d_0 := light_of hsz0 (j := 0) (by first | rfl | (rw [Try.params4]; rfl)) rfl
  have k_0 := h_0
  have lt_0 : ∀ x ∈ p_0, x.block < W.heap.size := by obtain ⟨m, hm⟩ := k_0; exact DataW.trod_lt m _ _ _ hm
  obtain ⟨la, ln, lc, rfl⟩ := okWide_slice Try.underlying22 (hval 0 22 v_0 rfl rfl)
  obtain ⟨l, h_l⟩ : ∃ l, RowZ .i64 8 W la ln lc l := by
    obtain ⟨fuel, hf⟩ := h_0
    obtain ⟨a, m, c, l, hcs, hr⟩ := rowZ_of Try.underlying22 Try.underlying3 (by kernel_rfl) (by kernel_rfl) hf hz_0
    simp [Value.cells] at hcs
    obtain ⟨rfl, rfl, rfl⟩ := hcs
    exact ⟨l, hr⟩
  have hz_1 : Light Try.prog 3 d_1 := light_of hsz0 (j := 1) (by first | rfl | (rw [Try.params4]; rfl)) rfl
  have k_1 := h_1
  have lt_1 : ∀ x ∈ p_1, x.block < W.heap.size := by obtain ⟨m, hm⟩ := k_1; exact DataW.trod_lt m _ _ _ hm
  obtain ⟨n, rfl, rfl, rfl, h_n⟩ := open_int Try.underlying3 (hval 1 3 v_1 rfl rfl) h_1
  have hz_2 : Light Try.prog 3 d_2 := light_of hsz0 (j := 2) (by first | rfl | (rw [Try.params4]; rfl)) rfl
  have k_2 := h_2
  have lt_2 : ∀ x ∈ p_2, x.block < W.heap.size := by obtain ⟨m, hm⟩ := k_2; exact DataW.trod_lt m _ _ _ hm
  obtain ⟨byv, rfl, rfl, rfl, h_byv⟩ := open_int Try.underlying3 (hval 2 3 v_2 rfl rfl) h_2
  have hz_3 : Light Try.prog 3 d_3 := light_of hsz0 (j := 3) (by first | rfl | (rw [Try.params4]; rfl)) rfl
  have k_3 := h_3
  have lt_3 : ∀ x ∈ p_3, x.block < W.heap.size := by obtain ⟨m, hm⟩ := k_3; exact DataW.trod_lt m _ _ _ hm
  obtain ⟨turn, rfl, rfl, rfl, h_turn⟩ := open_int Try.underlying3 (hval 3 3 v_3 rfl rfl) h_3
  clear hA0 hval0
  refine (walk la ln lc l n byv turn W h_l h_n h_byv h_turn).mono fun e W' ⟨he, bel⟩ => ?_
  subst he
  exact ⟨_, rfl, _, _, _, [], _, [], hW', trodAll_mk1 (shut_bool Try.underlying4 _), (trodAll_cons_mk (Below.trod laidOut (by kernel_rfl) (of_decide_eq_true (by kernel_rfl)) k_0 bel lt_0) (trodAll_cons_mk (Below.trod laidOut (by kernel_rfl) (of_decide_eq_true (by kernel_rfl)) k_1 bel lt_1) (trodAll_cons_mk (Below.trod laidOut (by kernel_rfl) (of_decide_eq_true (by kernel_rfl)) k_2 bel lt_2) (trodAll_cons_mk (Below.trod laidOut (by kernel_rfl) (of_decide_eq_true (by kernel_rfl)) k_3 bel lt_3) trodAll_mk0)))), rfl, bel.frame _, fun h => by cases h⟩

theorem over : Rows.tickWithinRow.holds Try.pinned (OpenSpec.ofChange Rows.tickWithinSpec) :=
  OpenClaim.holds_of_wide 4 Try.f4 rfl rfl rfl rfl rfl rfl rfl ⟨rfl, rfl, rfl, rfl, rfl⟩ rfl rfl rfl rfl rfl (by kernel_rfl) Try.func4 (by kernel_rfl)
    (of_decide_eq_true (by kernel_rfl)) (by unfold Func.isWrapper; first | (rw [if_pos (by decide +kernel)]; kernel_rfl) | (rw [if_neg (by decide +kernel)]; exact ⟨rfl, rfl⟩))
    (fun os started H enc _ => lifted os started H enc)


end Go.Proofs.Ytdnjipikggehmaa.tickWithin
namespace Go.Proofs.Ytdnjipikggehmaa
/-- THE STATEMENT -/
theorem tickWithin_holds : Rows.TickWithinSaid := tickWithin.over
#print axioms tickWithin_holds
end Go.Proofs.Ytdnjipikggehmaa
