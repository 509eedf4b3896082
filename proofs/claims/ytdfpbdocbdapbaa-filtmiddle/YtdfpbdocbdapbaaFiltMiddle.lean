/-
  Whatever is handed in, the law FiltMiddle returns true: no more than half are below the middle one, and no more than half above; their order makes no difference. No condition.
-/
import Derived.Test.YtdfpbdocbdapbaaMid
import Derived.Test.YtdfpbdocbdapbaaConcat
import Derived.Test.YtdfpbdocbdapbaaHas
import Derived.Test.YtdfpbdocbdapbaaRefSat
import Derived.Test.YtdfpbdocbdapbaaOpen
import Derived.ProofKit
import Derived.Deep.RegionWith
namespace Go.Proofs.Ytdfpbdocbdapbaa.filtMiddle
open Go.ChangeShapes Go.WideShapes Go.ChangeAt Go.RowKit
set_option linter.unusedVariables false

theorem own : ownKnob Try.prog.godebug = none := by kernel_rfl
theorem laidOut : laidOutB Try.prog = true := by kernel_rfl


def four : Nat → Int
  | 0 => 9
  | 1 => 1
  | 2 => 5
  | _ => 7
theorem four_mid {m : Int} (h : IsMid four 4 m) : m = 5 := mid_one h ⟨by decide, by decide⟩

theorem first_mid (w : World) : Calls Try.prog 11 #[.slice (some ⟨w.heap.size, 0, none⟩) 4 4] (w.alloc (.cells #[.int .i32 9, .int .i32 1, .int .i32 5, .int .i32 7] 21)) fun r w' => r = .returned (.tuple #[.int .i32 5, .int .i64 0]) ∧ Below w.heap.size w w' := by
  refine (middle_any w.heap.size 0 4 4 four _ (by omega) (by omega) (by simp) (fun t ht => by
    match t, ht with
    | 0, _ => go_simp; rfl
    | 1, _ => go_simp; rfl
    | 2, _ => go_simp; rfl
    | 3, _ => go_simp; rfl)).mono ?_
  rintro r w1 ⟨m, rfl, hm, hb⟩
  rw [four_mid hm]
  exact ⟨rfl, ((Below.refl _ w).alloc (Nat.le_refl _) _).trans (hb.mono (by simp))⟩

/-- l from the i-th number on, and what lay ahead of it behind -/
def rot (l : Nat → Int) (i n : Nat) : Nat → Int := fun t => if t < n - i then l (i + t) else l (t - (n - i))
theorem rot_vals (l : Nat → Int) (i n : Nat) (h : i ≤ n) : vals l i (n - i) ++ vals l 0 i = vals (rot l i n) 0 n := by
  apply List.ext_getElem?
  intro j
  rcases Nat.lt_or_ge j n with q | q
  · rw [vals_get q, Nat.zero_add]
    unfold rot
    rcases Nat.lt_or_ge j (n - i) with q2 | q2
    · rw [List.getElem?_append_left (by rw [vals_length]; exact q2), vals_get q2, if_pos q2]
    · rw [List.getElem?_append_right (by rw [vals_length]; exact q2), vals_length, vals_get (by omega), if_neg (by omega), Nat.zero_add]
  · rw [List.getElem?_eq_none (by rw [List.length_append, vals_length, vals_length]; omega), List.getElem?_eq_none (by rw [vals_length]; exact q)]
theorem cnt_split (p : Int → Bool) (l : Nat → Int) (i k : Nat) : cnt p l (i + k) = cnt p l i + cnt p (fun t => l (i + t)) k := by
  induction k with
  | zero => rfl
  | succ k ih => rw [← Nat.add_assoc, cnt_succ, cnt_succ, ih]; omega
theorem rot_cnt (p : Int → Bool) (l : Nat → Int) (i n : Nat) (h : i ≤ n) : cnt p (rot l i n) n = cnt p l n := by
  obtain ⟨k, rfl⟩ : ∃ k, n = i + k := ⟨n - i, by omega⟩
  have e1 : cnt p (rot l i (i + k)) k = cnt p (fun t => l (i + t)) k := cnt_congr k fun t ht => by unfold rot; rw [if_pos (by omega)]
  have e2 : cnt p (fun t => rot l i (i + k) (k + t)) i = cnt p l i := cnt_congr i fun t ht => by
    show rot l i (i + k) (k + t) = l t
    unfold rot
    rw [if_neg (by omega)]
    congr 1
    omega
  rw [cnt_split p l i k, Nat.add_comm i k]
  rw [Nat.add_comm i k] at e1 e2
  rw [cnt_split p _ k i, e1, e2]
  omega
theorem rot_mid {l : Nat → Int} {i n : Nat} {m m' : Int} (h : i ≤ n) (h1 : IsMid l n m) (h2 : IsMid (rot l i n) n m') : m' = m := by
  refine mid_one (l := l) (n := n) ⟨?_, ?_⟩ h1
  · rw [← rot_cnt _ l i n h]; exact h2.1
  · rw [← rot_cnt _ l i n h]; exact h2.2

set_option maxHeartbeats 1000000 in
theorem walk_bad (la : Option Addr) (ln lc : Nat) (k e : Int) (w : World) (he : e ≠ 0) (hz : ln = 0 ∨ 64 < ln) (hM : ∀ w, Calls Try.prog 11 #[.slice la ln lc] w fun r w' => r = .returned (.tuple #[.int .i32 0, .int .i64 e]) ∧ w' = w) :
    Calls Try.prog 8 #[.slice la ln lc, .int .i64 k] w fun e w' => e = .returned (.bool true) ∧ Below w.heap.size w w' := by
  have he' : (e != 0) = true := by simpa using he
  have C4 := first_mid
  go_enter Try.func8, Try.ntmps8
  go_wp2_with fail
  refine (C4 w).mono ?_
  rintro r w1 ⟨rfl, hb⟩
  have B1 : Hid (Below w.heap.size w w1) := hb
  clear hb C4
  go_wp2_with fail
  refine (hM w1).mono ?_
  rintro r w2 ⟨rfl, rfl⟩
  rcases hz with h | h
  · subst h
    go_wp2_with fail
    go_ret
    exact ⟨rfl, B1.out⟩
  · have z1 : ((ln : Int) == 0) = false := by simp; omega
    have z2 : (64 : Int) < (ln : Int) := by omega
    go_wp2_with fail
    go_ret
    exact ⟨rfl, B1.out⟩

set_option maxHeartbeats 4000000 in
set_option maxRecDepth 100000 in
theorem walk_good (b off n c : Nat) (l : Nat → Int) (k : Int) (w : World) (hn : 0 < n) (hm : n ≤ 64) (hnc : n ≤ c) (hcm : c ≤ 9223372036854775807) (hb : b < w.heap.size) (hl : ∀ t, t < n → w.cell? ⟨b, off + t, none⟩ = some (.int .i32 (l t))) (k1 : -9223372036854775808 ≤ k) (k2 : k ≤ 9223372036854775807) :
    Calls Try.prog 8 #[.slice (some ⟨b, off, none⟩) n c, .int .i64 k] w fun e w' => e = .returned (.bool true) ∧ Below w.heap.size w w' := by
  have C4 := first_mid
  have HL : Hid (∀ t, t < n → w.cell? ⟨b, off + t, none⟩ = some (.int .i32 (l t))) := hl
  clear hl
  go_enter Try.func8, Try.ntmps8
  go_wp2_with fail
  refine (C4 w).mono ?_
  rintro r w1 ⟨rfl, hbe⟩
  have B1 : Hid (Below w.heap.size w w1) := hbe
  clear hbe C4
  go_wp2_with fail
  refine (middle_any b off n c l w1 hn hm (Nat.lt_of_lt_of_le hb B1.out.size) (fun t ht => (B1.out.cell (p := ⟨b, off + t, none⟩) hb).trans (HL.out t ht))).mono ?_
  rintro r w2 ⟨m, rfl, hM, hbe⟩
  have HM : Hid (IsMid l n m) := hM
  have B2 : Hid (Below w.heap.size w w2) := B1.out.trans (hbe.mono B1.out.size)
  have hl2 : ∀ t, t < n → w2.cell? ⟨b, off + t, none⟩ = some (.int .i32 (l t)) := fun t ht => (B2.out.cell (p := ⟨b, off + t, none⟩) hb).trans (HL.out t ht)
  clear hM hbe B1
  go_wp2_with fail
  go_loopg [9, 10, 48] (n + 1) (fun g s t u wr => ∃ j : Nat, s = .int .i64 (cnt (ltB m) l j : Nat) ∧ t = .int .i64 (cnt (gtB m) l j : Nat) ∧ u = .int .i64 j ∧ n - j < g ∧ j ≤ n ∧ wr = w2)
  case atStart => exact ⟨0, rfl, rfl, rfl, by omega, by omega, rfl⟩
  case round =>
    obtain ⟨j, rfl, rfl, rfl, hg, hj, rfl⟩ := hrel
    have c1 := cnt_le (ltB m) l j
    have c2 := cnt_le (gtB m) l j
    by_cases hlt : j < n
    · have z1 : (j : Int) < (n : Int) := by omega
      have x0 := hl2 j hlt
      have s1 := cnt_succ (ltB m) l j
      have s2 := cnt_succ (gtB m) l j
      have S1 : Hid (cnt (ltB m) l (j + 1) = cnt (ltB m) l j + if ltB m (l j) then 1 else 0) := s1
      have S2 : Hid (cnt (gtB m) l (j + 1) = cnt (gtB m) l j + if gtB m (l j) then 1 else 0) := s2
      clear s1 s2 hl2
      generalize cnt (ltB m) l j = A at c1 S1 ⊢
      generalize cnt (gtB m) l j = D at c2 S2 ⊢
      rcases Int.lt_trichotomy (l j) m with h | h | h
      · have y1 : ¬ m < l j := by omega
        have e1 : cnt (ltB m) l (j + 1) = A + 1 := by rw [S1.out, if_pos (show ltB m (l j) = true from decide_eq_true h)]
        have e2 : cnt (gtB m) l (j + 1) = D := by rw [S2.out, if_neg (by unfold gtB; rw [decide_eq_false (by omega)]; decide)]; rfl
        have E1 : Hid (cnt (ltB m) l (j + 1) = A + 1 ∧ cnt (gtB m) l (j + 1) = D) := ⟨e1, e2⟩
        clear e1 e2 S1 S2
        generalize l j = y at x0 h y1
        go_wp2_with fail
        go_roundg (n - (j + 1) + 1)
        case measure => omega
        case rel => exact ⟨j + 1, by rw [E1.out.1]; go_num, by rw [E1.out.2], by go_num, by omega, by omega, rfl⟩
      · have y1 : ¬ m < l j := by omega
        have y2 : ¬ l j < m := by omega
        have e1 : cnt (ltB m) l (j + 1) = A := by rw [S1.out, if_neg (by unfold ltB; rw [decide_eq_false (by omega)]; decide)]; rfl
        have e2 : cnt (gtB m) l (j + 1) = D := by rw [S2.out, if_neg (by unfold gtB; rw [decide_eq_false (by omega)]; decide)]; rfl
        have E1 : Hid (cnt (ltB m) l (j + 1) = A ∧ cnt (gtB m) l (j + 1) = D) := ⟨e1, e2⟩
        clear e1 e2 S1 S2
        generalize l j = y at x0 h y1 y2
        go_wp2_with fail
        go_roundg (n - (j + 1) + 1)
        case measure => omega
        case rel => exact ⟨j + 1, by rw [E1.out.1], by rw [E1.out.2], by go_num, by omega, by omega, rfl⟩
      · have y1 : ¬ l j < m := by omega
        have e1 : cnt (ltB m) l (j + 1) = A := by rw [S1.out, if_neg (by unfold ltB; rw [decide_eq_false (by omega)]; decide)]; rfl
        have e2 : cnt (gtB m) l (j + 1) = D + 1 := by rw [S2.out, if_pos (show gtB m (l j) = true from decide_eq_true h)]
        have E1 : Hid (cnt (ltB m) l (j + 1) = A ∧ cnt (gtB m) l (j + 1) = D + 1) := ⟨e1, e2⟩
        clear e1 e2 S1 S2
        generalize l j = y at x0 h y1
        go_wp2_with fail
        go_roundg (n - (j + 1) + 1)
        case measure => omega
        case rel => exact ⟨j + 1, by rw [E1.out.1], by rw [E1.out.2]; go_num, by go_num, by omega, by omega, rfl⟩
    · have z1 : ¬ (j : Int) < (n : Int) := by omega
      obtain rfl : j = n := by omega
      have f1 := HM.out.1
      have f2 := HM.out.2
      have f3 := cnt_gt m l j
      obtain ⟨i0, hi0, hm0⟩ := mid_in HM.out
      have HI : Hid (l i0 = m) := hm0
      clear hm0
      generalize cnt (ltB m) l j = A at c1 f1 ⊢
      generalize cnt (gtB m) l j = D at c2 f3 ⊢
      generalize cnt (leB m) l j = F at f2 f3
      have g1 : 2 * (A : Int) ≤ (j : Int) - 1 := by omega
      have g2 : 2 * (D : Int) ≤ (j : Int) := by omega
      clear f1 f2 f3 z1
      have r1 := Int.emod_nonneg k (show (j : Int) ≠ 0 by omega)
      have r2 := Int.emod_lt_of_pos k (show (0 : Int) < (j : Int) by omega)
      have hR := rrest_any k (j : Int) (by omega) (by omega)
      obtain ⟨i, hi⟩ := Int.eq_ofNat_of_zero_le r1
      rw [hi] at r2 hR
      clear hi r1
      go_wp2_with fail
      refine (hR _).mono ?_
      rintro r w3 ⟨rfl, rfl⟩
      clear hR
      have z2 : (i : Int) ≤ (j : Int) := by omega
      have z3 : (i : Int) ≤ (c : Int) := by omega
      have CC : Calls Try.prog 24 #[.slice (some ⟨w3.heap.size, 0, none⟩) 2 2] (w3.alloc (.cells #[.slice (some ⟨b, off + i, none⟩) (j - i) (c - i), .slice (some ⟨b, off, none⟩) i c] 22)).drew fun e w' => ∃ g cap : Nat, e = .returned (.slice (some ⟨g, 0, none⟩) j cap) ∧ g < w'.heap.size ∧ (∀ t, t < j → w'.cell? ⟨g, 0 + t, none⟩ = some (.int .i32 (rot l i j t))) ∧ Below w3.heap.size w3 w' := by
        have hbr : b < w3.heap.size := Nat.lt_of_lt_of_le hb B2.out.size
        refine (concat_any w3.heap.size ⟨b, off + i, none⟩ ⟨b, off, none⟩ (j - i) i (c - i) c (fun t => l (i + t)) l _ (by simp) (by go_simp) (by go_simp) (by omega) (by omega) (fun t u hu => ?_) (fun t u hu => ?_)).mono ?_
        · obtain ⟨h1, rfl⟩ := vals_at hu
          rw [Nat.zero_add, Addr.add_lit]
          refine ⟨by simp; omega, ?_⟩
          have := hl2 (i + t) (by omega)
          rw [Nat.add_assoc]
          show (w3.alloc _).cell? _ = _
          rw [World.cell?_alloc_old _ _ _ (by simp; omega)]
          exact this
        · obtain ⟨h1, rfl⟩ := vals_at hu
          rw [Nat.zero_add, Addr.add_lit]
          refine ⟨by simp; omega, ?_⟩
          show (w3.alloc _).cell? _ = _
          rw [World.cell?_alloc_old _ _ _ (by simp; omega)]
          exact hl2 t (by omega)
        · rintro e w4 ⟨v, rfl, ho, hbe⟩
          have e1 : vals (fun t => l (i + t)) 0 (j - i) = vals l i (j - i) := by unfold vals; simp only [Nat.zero_add]
          rw [e1, rot_vals l i j (by omega), show j - i + i = j by omega] at ho
          obtain ⟨g, cap, rfl, h1, h2⟩ := ho.form (by omega)
          refine ⟨g, cap, rfl, h2, fun t ht => ?_, ?_⟩
          · have := ho.cellAt t (by omega)
            rw [vals_get ht, Nat.zero_add] at this
            rw [Nat.zero_add]
            exact this
          · exact (((Below.refl _ w3).alloc (Nat.le_refl _) _).drew).trans (hbe.mono (by simp))
      go_wp2_with fail
      go_region_with (first | (go_at_call 24; refine CC.mono ?_; rintro e w4 ⟨g, cap, rfl, hg1, hg2, hb4⟩; have HG2 : Hid (∀ t, t < j → w4.cell? ⟨g, 0 + t, none⟩ = some (.int .i32 (rot l i j t))) := hg2; have B4 : Hid (Below w.heap.size w w4) := B2.out.trans (hb4.mono B2.out.size); clear hg2 hb4) | (go_at_call 11; refine (middle_any g 0 j cap (rot l i j) w4 hn hm hg1 HG2.out).mono ?_; rintro e w5 ⟨m2, rfl, hm2, hb5⟩; obtain rfl : m2 = m := rot_mid (by omega) HM.out hm2; have B5 : Hid (Below w.heap.size w w5) := B4.out.trans (hb5.mono B4.out.size); clear hm2 hb5))
      have hl5 : ∀ t, t < j → w5.cell? ⟨b, off + t, none⟩ = some (.int .i32 (l t)) := fun t ht => (B5.out.cell (p := ⟨b, off + t, none⟩) hb).trans (HL.out t ht)
      have CN := contains_in b off j c i0 l m2 w5 (by omega) hi0 HI.out hl5
      clear hl5 hl2 CC
      go_wp2_with fail
      refine CN.mono ?_
      rintro e w6 ⟨rfl, rfl⟩
      go_wp2_with fail
      go_ret
      exact ⟨rfl, B5.out⟩

theorem walk (la : Option Addr) (ln lc : Nat) (l : Nat → Int) (k : Int) (w : World) (h_l : RowK .i32 w la ln lc l) (h_k : (Lit.int .i64 k).wf = true) :
    Calls Try.prog 8 #[.slice la ln lc, .int .i64 k] w fun e w' => e = .returned (.bool true) ∧ Below w.heap.size w w' := by
  obtain ⟨k1, k2⟩ := i64_of h_k
  obtain ⟨h1, h2, _, h3⟩ := h_l
  unfold maxLen at h2
  rcases Nat.eq_zero_or_pos ln with h | h
  · subst h
    exact walk_bad la 0 lc k 7 w (by decide) (Or.inl rfl) (fun w => middle_none la lc w)
  · rcases Nat.lt_or_ge 64 ln with h' | h'
    · exact walk_bad la ln lc k 2 w (by decide) (Or.inr h') (fun w => middle_large la ln lc h' w)
    · obtain ⟨b, off, rfl, hb, hc⟩ := h3 h
      exact walk_good b off ln lc l k w h h' h1 (by omega) hb hc k1 k2

/-! ### THE ROW's STEP -/
set_option maxRecDepth 100000 in
theorem lifted (os : Os) (started : os.Started) (H : Type) (enc : TypeId × Value → H) :
    ReturnsInHanded {} Try.checked os 8 .any (Rows.filtMiddleSpec.pre6 enc Try.prog Try.f8 Rows.filtMiddleRow.domain false) (Rows.filtMiddleSpec.post enc Try.prog Try.f8 false true false false) := by
  refine returnsInHanded_of_change (C := Try.checked) own started (by kernel_rfl) Try.func8
    (ChangeSpec.witness6 (enc := enc) (C := Try.checked) false ⟨#[], #[.slice none 0 0, .int .i64 0], []⟩ 8 (by kernel_rfl) (by kernel_rfl) (by kernel_rfl) (by kernel_rfl)) ?_
  intro W base args ds gs before hval0 hW hcnd _
  have hval : ∀ (j : Nat) t v, Try.f8.params[j]? = some t → args[j]? = some v → Value.okWide Try.prog W .any base t v := hval0
  have hW' := hW
  obtain ⟨p, q, hA0, hV, rfl, hfz, hnd⟩ := hW
  have hA : DataW.TrodAll enc Try.prog W 0 (fun _ => true) true Try.f8.params.toList args.toList ds p := hA0
  rw [Try.params8] at hA hval
  obtain ⟨v0, vs0, d0, ds0, p0, q0, hargs, rfl, rfl, h0, r0⟩ := trodAll_cons hA
  obtain ⟨v1, vs1, d1, ds1, p1, q1, rfl, rfl, rfl, h1, r1⟩ := trodAll_cons r0
  obtain ⟨rfl, rfl, rfl⟩ := trodAll_nil r1
  obtain rfl : args = #[v0, v1] := by cases args; simp_all
  obtain ⟨rfl, rfl⟩ := trodVars_none hV
  have k0 := h0
  have lt0 : ∀ x ∈ p0, x.block < W.heap.size := by obtain ⟨m, hm⟩ := k0; exact DataW.trod_lt m _ _ _ hm
  obtain ⟨la, ln, lc, rfl⟩ := okWide_slice Try.underlying22 (hval 0 22 v0 rfl rfl)
  obtain ⟨l, h_l⟩ : ∃ l, RowK .i32 W la ln lc l := by
    obtain ⟨fuel, hf⟩ := h0
    obtain ⟨a, m, c, l, hcs, hr⟩ := rowK_of Try.underlying22 Try.underlying21 (by kernel_rfl) hf
    simp [Value.cells] at hcs
    obtain ⟨rfl, rfl, rfl⟩ := hcs
    exact ⟨l, hr⟩
  have k1 := h1
  have lt1 : ∀ x ∈ p1, x.block < W.heap.size := by obtain ⟨m, hm⟩ := k1; exact DataW.trod_lt m _ _ _ hm
  obtain ⟨k, rfl, rfl, rfl, h_k⟩ := open_int Try.underlying3 (hval 1 3 v1 rfl rfl) h1
  clear hA0 hval0
  refine (walk la ln lc l k W h_l h_k).mono fun e W' ⟨he, bel⟩ => ?_
  subst he
  exact ⟨_, rfl, _, _, _, [], _, [], hW', trodAll_mk1 (shut_bool Try.underlying4 _), (trodAll_cons_mk (Below.trod laidOut (by kernel_rfl) (of_decide_eq_true (by kernel_rfl)) k0 bel lt0) (trodAll_cons_mk (Below.trod laidOut (by kernel_rfl) (of_decide_eq_true (by kernel_rfl)) k1 bel lt1) trodAll_mk0)), rfl, bel.frame _, fun h => by cases h⟩

theorem over : Rows.filtMiddleRow.holds Try.pinned (OpenSpec.ofChange Rows.filtMiddleSpec) :=
  OpenClaim.holds_of_wide 8 Try.f8 rfl rfl rfl rfl rfl rfl rfl ⟨rfl, rfl, rfl, rfl, rfl⟩ rfl rfl rfl rfl rfl (by kernel_rfl) Try.func8 (by kernel_rfl)
    (of_decide_eq_true (by kernel_rfl)) (by unfold Func.isWrapper; first | (rw [if_pos (by decide +kernel)]; kernel_rfl) | (rw [if_neg (by decide +kernel)]; exact ⟨rfl, rfl⟩))
    (fun os started H enc _ => lifted os started H enc)


end Go.Proofs.Ytdfpbdocbdapbaa.filtMiddle
namespace Go.Proofs.Ytdfpbdocbdapbaa
/-- THE STATEMENT -/
theorem filtMiddle_holds : Rows.FiltMiddleSaid := filtMiddle.over
#print axioms filtMiddle_holds
end Go.Proofs.Ytdfpbdocbdapbaa
