/-
  Whatever is handed in, the law CutsAcross returns true: what goes across all cuts are the dual's cuts; across those again it is the cuts; each of the one meets each of the other. No condition.
-/
import Derived.Test.YtacophekhknbpaaEi
import Derived.Test.YtacophekhknbpaaOpenG
namespace Go.Proofs.Ytacophekhknbpaa.cutsAcross
open Go.ChangeShapes Go.WideShapes Go.ChangeAt Go.RowKit
set_option linter.unusedVariables false

theorem own : ownKnob Try.prog.godebug = none := by kernel_rfl
theorem laidOut : laidOutB Try.prog = true := by kernel_rfl


theorem first_three : leastL (meets [1, 2]) = [3] := by decide +kernel
theorem first_across (w : World) (b : Nat) (h : Cells w b (numsU [1, 2])) : Calls Try.prog 12 #[.slice (some ⟨b, 0, none⟩) 2 2] w fun e w' => ∃ a c, e = .returned (.tuple #[.slice a 1 c, .int .i64 0]) ∧ RS w' a 1 (fun j => [3].getD j 0) ∧ Below w.heap.size w w' := by
  refine (across_list [1, 2] (by decide) (by decide) (some ⟨b, 0, none⟩) 2 w (rs_lit h)).mono ?_
  rintro e w' ⟨v, rfl, hv⟩
  rw [first_three] at hv
  obtain ⟨a, c, rfl, _, hr, hb⟩ := hv
  exact ⟨a, c, rfl, hr.rs, hb⟩

theorem all_meet {F : Nat → Bool} {x y : Nat} (hx : x ∈ leastL F) (hy : y ∈ leastL (meets (leastL F))) : x &&& y ≠ 0 := by
  have h1 := (isL_iff.1 (mem_leastL.1 hy).2).1
  unfold meets at h1
  rw [List.all_eq_true] at h1
  have h2 := of_decide_eq_true (h1 x hx)
  rw [Nat.and_comm]
  exact h2
theorem one_list (w : World) (a : Option Addr) (c b : Nat) (h : RS w a 1 (fun j => [3].getD j 0)) (h2 : Cells w b (numsU [3])) : Calls Try.prog 18 #[.slice a 1 c, .slice (some ⟨b, 0, none⟩) 1 1] w fun e w' => e = .returned (.bool true) ∧ Below w.heap.size w w' :=
  equalL_any [3] [3] a (some ⟨b, 0, none⟩) c 1 w (by decide) h (rs_lit h2)
theorem same_list (l : List Nat) (w : World) (a1 a2 : Option Addr) (c1 c2 : Nat) (hl : l.length ≤ 70) (h : RS w a1 l.length (fun j => l.getD j 0)) (h2 : RS w a2 l.length (fun j => l.getD j 0)) : Calls Try.prog 18 #[.slice a1 l.length c1, .slice a2 l.length c2] w fun e w' => e = .returned (.bool true) ∧ Below w.heap.size w w' := by
  have := equalL_any l l a1 a2 c1 c2 w (by omega) h h2
  rw [decide_eq_true rfl] at this
  exact this

set_option maxHeartbeats 4000000 in
set_option maxRecDepth 100000 in
theorem walk_bad (ta : Option Addr) (tn tc : Nat) (t : Nat → Gt) (w : World) (h : RowG w ta tn t) (E : Int) (hc : chG t tn = E) (h0 : ¬ E = 0) :
    Calls Try.prog 6 #[.slice ta tn tc] w fun e w' => e = .returned (.bool true) ∧ Below w.heap.size w w' := by
  have HR : Hid (RowG w ta tn t) := h
  have HC : Hid (chG t tn = E ∧ ¬ E = 0) := ⟨hc, h0⟩
  have z : (E != 0) = true := by simpa using h0
  clear h hc h0
  go_enter Try.func6, Try.ntmps6
  go_wp2_with fail
  refine (first_across _ _ (cells_new w #[.int .u16 1, .int .u16 2] 23)).mono ?_
  rintro e w1 ⟨a1, c1, rfl, hr1, hb⟩
  have B1 : Hid (Below w.heap.size w w1) := (gbox _ _).trans (hb.mono (gbox w _).size)
  have R1 : Hid (RS w1 a1 1 (fun j => [3].getD j 0)) := hr1
  clear hr1 hb
  go_wp2_with fail
  refine (one_list _ a1 c1 _ (R1.out.step (gbox _ _)) (cells_new w1 #[.int .u16 3] 23)).mono ?_
  rintro e w2 ⟨rfl, hb⟩
  have B2 : Hid (Below w.heap.size w w2) := B1.out.trans (((gbox _ _).trans (hb.mono (gbox w1 _).size)).mono B1.out.size)
  clear hb B1 R1
  go_wp2_with fail
  refine (cuts_bad ta tn tc t _ (HR.out.step B2.out) E HC.out.1 HC.out.2).mono ?_
  rintro e w3 ⟨rfl, hb⟩
  have B3 : Hid (Below w.heap.size w w3) := B2.out.trans (hb.mono B2.out.size)
  clear hb B2
  go_wp2_with fail
  go_ret
  exact ⟨rfl, B3.out⟩

set_option maxHeartbeats 4000000 in
set_option maxRecDepth 100000 in
theorem walk_ok (ta : Option Addr) (tn tc : Nat) (t : Nat → Gt) (w : World) (h : RowG w ta tn t) (hc : chG t tn = 0) :
    Calls Try.prog 6 #[.slice ta tn tc] w fun e w' => e = .returned (.bool true) ∧ Below w.heap.size w w' := by
  have HR : Hid (RowG w ta tn t) := h
  have HC : Hid (chG t tn = 0) := hc
  clear h hc
  obtain ⟨L, hL⟩ : ∃ L, leastL (faT t tn) = L := ⟨_, rfl⟩
  obtain ⟨D, hD⟩ : ∃ D, leastL (meets L) = D := ⟨_, rfl⟩
  have HL : Hid (leastL (faT t tn) = L) := hL
  have HD : Hid (leastL (meets L) = D) := hD
  have KL : Hid (L.length ≤ 70 ∧ ∀ x, x ∈ L → x < 256) := ⟨hL ▸ leastL_len (mono_faT HC.out), fun x hx => least_lt (hL.symm ▸ hx)⟩
  have KD : Hid (D.length ≤ 70 ∧ ∀ x, x ∈ D → x < 256) := ⟨hD ▸ leastL_len meets_mono, fun x hx => least_lt (hD.symm ▸ hx)⟩
  have KM : Hid (∀ j q, j < L.length → q < D.length → ¬ L.getD j 0 &&& D.getD q 0 = 0) := fun j q hj hq => by
    subst hL
    subst hD
    exact all_meet (getD_mem hj) (getD_mem hq)
  clear hL hD
  go_enter Try.func6, Try.ntmps6
  go_wp2_with fail
  refine (first_across _ _ (cells_new w #[.int .u16 1, .int .u16 2] 23)).mono ?_
  rintro e w1 ⟨a1, c1, rfl, hr1, hb⟩
  have B1 : Hid (Below w.heap.size w w1) := (gbox _ _).trans (hb.mono (gbox w _).size)
  have R1 : Hid (RS w1 a1 1 (fun j => [3].getD j 0)) := hr1
  clear hr1 hb
  go_wp2_with fail
  refine (one_list _ a1 c1 _ (R1.out.step (gbox _ _)) (cells_new w1 #[.int .u16 3] 23)).mono ?_
  rintro e w2 ⟨rfl, hb⟩
  have B2 : Hid (Below w.heap.size w w2) := B1.out.trans (((gbox _ _).trans (hb.mono (gbox w1 _).size)).mono B1.out.size)
  clear hb B1 R1
  go_wp2_with fail
  refine (cuts_ok ta tn tc t _ (HR.out.step B2.out) HC.out).mono ?_
  rintro e w3 ⟨v3, rfl, hv⟩
  rw [HL.out] at hv
  obtain ⟨aL, cL, rfl, _, hr, hb⟩ := hv
  have RL3 : Hid (RS w3 aL L.length (fun j => L.getD j 0)) := hr.rs
  have B3 : Hid (Below w.heap.size w w3) := B2.out.trans (hb.mono B2.out.size)
  clear hr hb B2
  go_wp2_with fail
  refine (dual_ok ta tn tc t _ (HR.out.step B3.out) HC.out).mono ?_
  rintro e w4 ⟨bd, u, rfl, hd, hb⟩
  have RL4 : Hid (RS w4 aL L.length (fun j => L.getD j 0)) := RL3.out.step hb
  have RD4 : Hid (RowG w4 (some ⟨bd, 0, none⟩) tn u) := hd.rowG HC.out
  have B4 : Hid (Below w.heap.size w w4) := B3.out.trans (hb.mono B3.out.size)
  have CU : Hid (chG u tn = 0) := chG_dual HC.out hd.duo.dual
  have HU : Hid (leastL (faT u tn) = D) := by
    show _ = D
    rw [← HD.out, ← HL.out, across_dual HC.out hd.duo.dual]
  have HK : Hid (leastL (meets D) = L) := by
    show _ = L
    rw [← HU.out, across_back HC.out hd.duo.dual, HL.out]
  clear hd hb RL3 B3
  go_wp2_with fail
  refine (cuts_ok (some ⟨bd, 0, none⟩) tn tn u _ RD4.out CU.out).mono ?_
  rintro e w5 ⟨v5, rfl, hv⟩
  rw [HU.out] at hv
  obtain ⟨aP, cP, rfl, _, hr, hb⟩ := hv
  have RP5 : Hid (RS w5 aP D.length (fun j => D.getD j 0)) := hr.rs
  have RL5 : Hid (RS w5 aL L.length (fun j => L.getD j 0)) := RL4.out.step hb
  have B5 : Hid (Below w.heap.size w w5) := B4.out.trans (hb.mono B4.out.size)
  clear hr hb RL4 B4 RD4 CU
  go_wp2_with fail
  refine (across_list L (by have := KL.out.1; omega) KL.out.2 aL cL _ RL5.out).mono ?_
  rintro e w6 ⟨v6, rfl, hv⟩
  rw [HD.out] at hv
  obtain ⟨aA, cA, rfl, _, hr, hb⟩ := hv
  have RA6 : Hid (RS w6 aA D.length (fun j => D.getD j 0)) := hr.rs
  have RP6 : Hid (RS w6 aP D.length (fun j => D.getD j 0)) := RP5.out.step hb
  have RL6 : Hid (RS w6 aL L.length (fun j => L.getD j 0)) := RL5.out.step hb
  have B6 : Hid (Below w.heap.size w w6) := B5.out.trans (hb.mono B5.out.size)
  clear hr hb RL5 RP5 B5
  go_wp2_with fail
  refine (across_list D (by have := KD.out.1; omega) KD.out.2 aA cA _ RA6.out).mono ?_
  rintro e w7 ⟨v7, rfl, hv⟩
  rw [HK.out] at hv
  obtain ⟨aB, cB, rfl, _, hr, hb⟩ := hv
  have RB7 : Hid (RS w7 aB L.length (fun j => L.getD j 0)) := hr.rs
  have RA7 : Hid (RS w7 aA D.length (fun j => D.getD j 0)) := RA6.out.step hb
  have RP7 : Hid (RS w7 aP D.length (fun j => D.getD j 0)) := RP6.out.step hb
  have RL7 : Hid (RS w7 aL L.length (fun j => L.getD j 0)) := RL6.out.step hb
  have B7 : Hid (Below w.heap.size w w7) := B6.out.trans (hb.mono B6.out.size)
  clear hr hb RL6 RP6 RA6 B6
  go_wp2_with fail
  go_loopg [61] (L.length + 1) (fun g s wr => ∃ q : Nat, s = .int .i64 q ∧ L.length - q < g ∧ q ≤ L.length ∧ wr = w7)
  case atStart => exact ⟨0, rfl, by omega, by omega, rfl⟩
  case round =>
    obtain ⟨q, rfl, hgo, hq, rfl⟩ := hrel
    rename World => w7
    by_cases hlt : q < L.length
    · have y1 : (q : Int) < (L.length : Int) := by omega
      have y2 : (q : Int) < 70 := by have := KL.out.1; omega
      obtain ⟨b1, o1, rfl, h1, h2⟩ := RL7.out (by omega)
      have x0 : w7.cell? ⟨b1, o1 + q, none⟩ = some (.int .u16 ((L.getD q 0 : Nat) : Int)) := h2 q hlt
      have KQ : Hid (∀ p, p < D.length → bits .and .u16 ((L.getD q 0 : Nat) : Int) ((D.getD p 0 : Nat) : Int) = ((L.getD q 0 &&& D.getD p 0 : Nat) : Int) ∧ ¬ L.getD q 0 &&& D.getD p 0 = 0) := fun p hp =>
        ⟨u16_and_nat _ _ (by have := KL.out.2 _ (getD_mem hlt); omega) (by have := KD.out.2 _ (getD_mem hp); omega), KM.out q p hlt hp⟩
      clear h2
      generalize L.getD q 0 = x at *
      go_wp2_with fail
      go_loopg [67] (D.length + 1) (fun g s wr => ∃ p : Nat, s = .int .i64 p ∧ D.length - p < g ∧ p ≤ D.length ∧ wr = w7)
      case atStart => exact ⟨0, rfl, by omega, by omega, rfl⟩
      case round =>
        obtain ⟨p, rfl, hg, hp, rfl⟩ := hrel
        rename World => w7
        clear x0 h1
        by_cases hlp : p < D.length
        · have y3 : (p : Int) < (D.length : Int) := by omega
          have y4 : (p : Int) < 70 := by have := KD.out.1; omega
          obtain ⟨b2, o2, rfl, h3, h4⟩ := RA7.out (by omega)
          have x1 : w7.cell? ⟨b2, o2 + p, none⟩ = some (.int .u16 ((D.getD p 0 : Nat) : Int)) := h4 p hlp
          obtain ⟨x2, x3⟩ := KQ.out p hlp
          clear h4
          generalize D.getD p 0 = y at *
          generalize x &&& y = z at *
          have x4 : ((z : Int) == 0) = false := by simp only [beq_eq_false_iff_ne, ne_eq, Int.natCast_eq_zero]; exact x3
          clear x3
          go_wp2_with fail
          go_roundg (D.length - (p + 1) + 1)
          case measure => omega
          case rel => exact ⟨p + 1, by go_num, by omega, by omega, rfl⟩
        · have y3 : ¬ (p : Int) < (D.length : Int) := by omega
          obtain rfl : p = D.length := by omega
          go_wp2_with fail
          go_roundg (L.length - (q + 1) + 1)
          case measure => omega
          case rel => exact ⟨q + 1, by go_num, by omega, by omega, rfl⟩
    · have y1 : ¬ (q : Int) < (L.length : Int) := by omega
      obtain rfl : q = L.length := by omega
      go_wp2_with fail
      refine (same_list D _ aA aP cA cP KD.out.1 RA7.out RP7.out).mono ?_
      rintro e w8 ⟨rfl, hb⟩
      have RB8 : Hid (_) := RB7.out.step hb
      have RL8 : Hid (_) := RL7.out.step hb
      have B8 : Hid (Below w.heap.size w w8) := B7.out.trans (hb.mono B7.out.size)
      clear hb B7 RB7 RL7 RA7 RP7
      go_wp2_with fail
      refine (same_list L _ aB aL cB cL KL.out.1 RB8.out RL8.out).mono ?_
      rintro e w9 ⟨rfl, hb⟩
      have B9 : Hid (Below w.heap.size w w9) := B8.out.trans (hb.mono B8.out.size)
      clear hb B8 RB8 RL8
      go_wp2_with fail
      go_ret
      exact ⟨rfl, B9.out⟩

theorem walk (ta : Option Addr) (tn tc : Nat) (t : Nat → Gt) (w : World) (h_t : RowGJ w ta tn tc t) :
    Calls Try.prog 6 #[.slice ta tn tc] w fun e w' => e = .returned (.bool true) ∧ Below w.heap.size w w' := by
  by_cases h : chG t tn = 0
  · exact walk_ok ta tn tc t w h_t.row h
  · exact walk_bad ta tn tc t w h_t.row _ rfl h

/-! ### THE ROW's STEP -/
set_option maxRecDepth 100000 in
theorem lifted (os : Os) (started : os.Started) (H : Type) (enc : TypeId × Value → H) :
    ReturnsInHanded {} Try.checked os 6 .any (Rows.cutsAcrossSpec.pre6 enc Try.prog Try.f6 Rows.cutsAcrossRow.domain false) (Rows.cutsAcrossSpec.post enc Try.prog Try.f6 false true false false) := by
  refine returnsInHanded_of_change_sized (C := Try.checked) own started (by kernel_rfl) Try.func6
    (ChangeSpec.witness6 (enc := enc) (C := Try.checked) false ⟨#[], #[.slice none 0 0], []⟩ 8 (by kernel_rfl) (by kernel_rfl) (by kernel_rfl) (by kernel_rfl)) ?_
  intro W base args ds gs before hval0 hW hcnd hsz0 _
  have hval : ∀ (j : Nat) t v, Try.f6.params[j]? = some t → args[j]? = some v → Value.okWide Try.prog W .any base t v := hval0
  have hW' := hW
  obtain ⟨p, q, hA0, hV, rfl, hfz, hnd⟩ := hW
  have hA : DataW.TrodAll enc Try.prog W 0 (fun _ => true) true Try.f6.params.toList args.toList ds p := hA0
  rw [Try.params6] at hA hval
  obtain ⟨v_0, vs_0, d_0, ds_0, p_0, q_0, hargs, rfl, rfl, h_0, r_0⟩ := trodAll_cons hA
  obtain ⟨rfl, rfl, rfl⟩ := trodAll_nil r_0
  obtain rfl : args = #[v_0] := by cases args; simp_all
  obtain ⟨rfl, rfl⟩ := trodVars_none hV
  have hz_0 : Light Try.prog 22 d_0 := light_of hsz0 (j := 0) (by first | rfl | (rw [Try.params6]; rfl)) rfl
  have k_0 := h_0
  have lt_0 : ∀ x ∈ p_0, x.block < W.heap.size := by obtain ⟨m, hm⟩ := k_0; exact DataW.trod_lt m _ _ _ hm
  obtain ⟨ta, tn, tc, rfl⟩ := okWide_slice Try.underlying22 (hval 0 22 v_0 rfl rfl)
  obtain ⟨t, h_t⟩ : ∃ l, RowGJ W ta tn tc l := by
    obtain ⟨fuel, hf⟩ := h_0
    obtain ⟨a, m, c, l, hcs, hr⟩ := rowGJ_of hf hz_0
    simp [Value.cells] at hcs
    obtain ⟨rfl, rfl, rfl⟩ := hcs
    exact ⟨l, hr⟩
  clear hA0 hval0
  refine (walk ta tn tc t W h_t).mono fun e W' ⟨he, bel⟩ => ?_
  subst he
  exact ⟨_, rfl, _, _, _, [], _, [], hW', trodAll_mk1 (shut_bool Try.underlying4 _), (trodAll_cons_mk (Below.trod laidOut (by kernel_rfl) (of_decide_eq_true (by kernel_rfl)) k_0 bel lt_0) trodAll_mk0), rfl, bel.frame _, fun h => by cases h⟩

theorem over : Rows.cutsAcrossRow.holds Try.pinned (OpenSpec.ofChange Rows.cutsAcrossSpec) :=
  OpenClaim.holds_of_wide 6 Try.f6 rfl rfl rfl rfl rfl rfl rfl ⟨rfl, rfl, rfl, rfl, rfl⟩ rfl rfl rfl rfl rfl (by kernel_rfl) Try.func6 (by kernel_rfl)
    (of_decide_eq_true (by kernel_rfl)) (by unfold Func.isWrapper; first | (rw [if_pos (by decide +kernel)]; kernel_rfl) | (rw [if_neg (by decide +kernel)]; exact ⟨rfl, rfl⟩))
    (fun os started H enc _ => lifted os started H enc)


end Go.Proofs.Ytacophekhknbpaa.cutsAcross
namespace Go.Proofs.Ytacophekhknbpaa
/-- THE STATEMENT -/
theorem cutsAcross_holds : Rows.CutsAcrossSaid := cutsAcross.over
#print axioms cutsAcross_holds
end Go.Proofs.Ytacophekhknbpaa
