/-
  The walk of the law LogBack.
-/
import Derived.Test.YtkklinjamcfppaaDoorLogRead
import Derived.Test.YtkklinjamcfppaaDoorOpenE
namespace Go.Proofs.YtkklinjamcfppaaDoor
open Go.RowKit
set_option linter.unusedVariables false

theorem tenE_of {x : En} (h : okE x = true) : TenE x := by
  obtain ⟨h1, h2, h3, h4⟩ := (okE_iff x).1 h
  exact ⟨⟨h1.1, by omega⟩, ⟨h2.1, by omega⟩, ⟨by omega, by omega⟩, ⟨by omega, by omega⟩⟩
theorem itoa_ten {v : Int} (h : 0 ≤ v ∧ v ≤ 9999999999) : (Lib.itoa v).length ≤ 10 := by
  obtain ⟨u, rfl, h2, h3, _⟩ := itoa_dg h.1 h.2
  rw [h2]
  exact ((canB_iff _).1 h3).2
theorem lnL_ten {x : En} (h : TenE x) : (lnL x).length ≤ 44 := by
  have h1 := itoa_ten h.1
  have h2 := itoa_ten h.2.1
  have h3 := itoa_ten h.2.2.1
  have h4 := itoa_ten h.2.2.2
  unfold lnL
  simp only [List.length_append, List.length_cons, List.length_nil]
  omega
theorem txL_ten {l : Nat → En} {n : Nat} (h : ∀ k, k < n → TenE (l k)) : (txL l n).length ≤ 44 * n := by
  induction n with
  | zero => exact Nat.le_refl _
  | succ n ih =>
    have h1 := ih (fun k hk => h k (by omega))
    have h2 := lnL_ten (h n (by omega))
    show (txL l n ++ lnL (l n)).length ≤ _
    rw [List.length_append]
    omega
theorem chE_congr {l m : Nat → En} {n : Nat} (h : ∀ k, k < n → l k = m k) (he : chE l n = 0) : chE m n = 0 := by
  obtain ⟨hn, hf⟩ := chE_zero he
  refine chE_of hn (fsE_of fun k hk => ?_)
  have := fsE_zero hf hk
  rw [h k hk] at this
  refine ⟨this.1, fun q => ?_⟩
  have t := this.2 q
  rw [h (k - 1) (by omega)] at t
  exact t
/-- what is written is read as it was -/
theorem read_text {l : Nat → En} {n : Nat} (h : chE l n = 0) : rdN (txL l n) = 0 ∧ (rdL (txL l n)).length = n ∧ ∀ k, k < n → l k = atE (rdL (txL l n)) k := by
  obtain ⟨hn, hf⟩ := chE_zero h
  have ht : ∀ k, k < n → TenE (l k) := fun k hk => tenE_of (fsE_zero hf hk).1
  have hl := txL_ten ht
  have hr : rdP (txL l n) = some ((List.range n).map l) := by
    rw [txL_list]
    refine rdP_of _ fun x hx => ?_
    obtain ⟨k, hk, rfl⟩ := List.mem_map.1 hx
    exact ht k (List.mem_range.1 hk)
  have hlen : ((List.range n).map l).length = n := by simp
  have hc : chE (atE ((List.range n).map l)) ((List.range n).map l).length = 0 := by
    rw [hlen]
    exact chE_congr (fun k hk => (atE_list l hk).symm) h
  have h1 : rdN (txL l n) = 0 := by
    unfold rdN
    rw [if_neg (by omega), hr]
    exact hc
  have h2 : rdL (txL l n) = (List.range n).map l := by
    unfold rdL
    rw [if_neg (by omega), hr]
    show (if chE (atE ((List.range n).map l)) ((List.range n).map l).length = 0 then _ else _) = _
    rw [if_pos hc]
  rw [h2]
  exact ⟨h1, hlen, fun k hk => (atE_list l hk).symm⟩
/-- what is read is written as it was -/
theorem text_read {s : List UInt8} (h : rdN s = 0) : chE (atE (rdL s)) (rdL s).length = 0 ∧ txL (atE (rdL s)) (rdL s).length = s := by
  unfold rdN at h
  split at h
  · cases h
  · rename_i h4
    cases hr : rdP s with
    | none => rw [hr] at h; cases h
    | some xs =>
      rw [hr] at h
      have h2 : rdL s = xs := by
        unfold rdL
        rw [if_neg h4, hr]
        show (if chE (atE xs) xs.length = 0 then xs else []) = xs
        rw [if_pos h]
      rw [h2]
      exact ⟨h, by rw [← txs_at]; exact (rdP_text _ s xs (Nat.le_refl _) hr).1.symm⟩
theorem rdL_bad {s : List UInt8} (h : rdN s ≠ 0) : rdL s = [] := by
  unfold rdL
  split
  · rfl
  · rename_i h4
    cases hr : rdP s with
    | none => rfl
    | some xs =>
      show (if chE (atE xs) xs.length = 0 then xs else []) = []
      rw [if_neg fun q => h ?_]
      unfold rdN
      rw [if_neg h4, hr]
      exact q
def oneE : En := ⟨10, 4, 3, 2⟩
theorem one_text : txL (fun _ => oneE) 1 = [49, 48, 58, 52, 58, 51, 120, 50, 10] := by
  show [] ++ lnL oneE = _
  unfold lnL oneE
  have e10 : Lib.itoa 10 = [49, 48] := by
    rw [show (10 : Int) = ((10 : Nat) : Int) from rfl, Lib.itoa_nonneg, Lib.decDigits, dif_neg (by decide), show 10 / 10 = 1 from rfl, Lib.decDigits_one (by decide)]
    rfl
  have e4 : Lib.itoa 4 = [52] := by rw [show (4 : Int) = ((4 : Nat) : Int) from rfl, Lib.itoa_nonneg, Lib.decDigits_one (by decide)]; rfl
  have e3 : Lib.itoa 3 = [51] := by rw [show (3 : Int) = ((3 : Nat) : Int) from rfl, Lib.itoa_nonneg, Lib.decDigits_one (by decide)]; rfl
  have e2 : Lib.itoa 2 = [50] := by rw [show (2 : Int) = ((2 : Nat) : Int) from rfl, Lib.itoa_nonneg, Lib.decDigits_one (by decide)]; rfl
  rw [e10, e4, e3, e2]
  rfl
theorem one_ok : chE (fun _ => oneE) 1 = 0 := by decide

end Go.Proofs.YtkklinjamcfppaaDoor
namespace Go.Proofs.YtkklinjamcfppaaDoor.logBack
open Go.RowKit
set_option linter.unusedVariables false

abbrev Met (w : World) : Prop := Vb w

set_option maxHeartbeats 8000000 in
theorem walk (la : Option Addr) (ln lc : Nat) (l : Nat → En) (s : ByteArray) (w : World) (h_l : RowI w la ln lc l) (h_s : s.size ≤ 140737488351232) (h_met : Met w) :
    Calls Tryd.prog 4 #[.slice la ln lc, .string s] w fun e w' => e = .returned (.bool true) ∧ Below w.heap.size w w' := by
  have HL : Hid (RowI w la ln lc l) := h_l
  have HV : Hid (Vb w) := h_met
  have HS : Hid (s.size ≤ 140737488351232) := h_s
  have CO : Hid (∀ W, Cells W w.heap.size [.int .i64 oneE.f, .int .i64 oneE.l, .int .i64 oneE.c, .int .i64 oneE.m] → Below w.heap.size w W → Calls Tryd.prog 9 #[.slice (some ⟨w.heap.size, 0, none⟩) 1 1] W fun e w' => e = .returned (.tuple #[.string (tx [49, 48, 58, 52, 58, 51, 120, 50, 10]), .int .i64 0]) ∧ Below W.heap.size W w') := fun W hc hb => by
    have := text_ok (some ⟨w.heap.size, 0, none⟩) 1 1 (fun _ => oneE) W (fun _ => ⟨w.heap.size, 0, rfl, hc.lt, fun j hj => by
      obtain rfl : j = 0 := by omega
      exact ⟨hc.cell 0 _ rfl, hc.cell 1 _ rfl, hc.cell 2 _ rfl, hc.cell 3 _ rfl⟩⟩) one_ok (HV.out.ten.step hb)
    rw [one_text] at this
    exact this
  clear h_l h_met h_s
  go_enter Tryd.func4, Tryd.ntmps4
  go_wp2_with fail
  refine (CO.out _ (cells_new w #[.int .i64 oneE.f, .int .i64 oneE.l, .int .i64 oneE.c, .int .i64 oneE.m] 33) ((Below.refl _ w).alloc (Nat.le_refl _) _)).mono ?_
  rintro e w1 ⟨rfl, hb⟩
  have B1 : Hid (Below w.heap.size w w1) := below_then ((Below.refl _ w).alloc (Nat.le_refl _) _) hb (by simp)
  clear hb CO
  obtain ⟨T, hT⟩ : ∃ T, tx [49, 48, 58, 52, 58, 51, 120, 50, 10] = T := ⟨_, rfl⟩
  rw [hT]
  have qT : (T.toList == [49, 48, 58, 52, 58, 51, 120, 50, 10]) = true := by
    rw [← hT, ByteArray.toList_eq, tx_data]
    rfl
  have CT : Hid (∀ W, Below w.heap.size w W → Calls Tryd.prog 9 #[.slice la ln lc] W fun e w' => e = .returned (.tuple #[.string (txB l ln), .int .i64 (chE l ln)]) ∧ Below W.heap.size W w') := fun W hW => text_any la ln lc l W (HL.out.rf.row.step hW) (HV.out.ten.step hW)
  have hs0 : tx s.data.toList = s := tx_list s
  have CR : Hid (∀ W, Below w.heap.size w W → Calls Tryd.prog 11 #[.string s] W fun e w' => ∃ a c, e = .returned (.tuple #[.slice a (rdL s.data.toList).length c, .int .i64 (rdN s.data.toList)]) ∧ NwE W.heap.size w' a (rdL s.data.toList).length c (atE (rdL s.data.toList)) ∧ Below W.heap.size W w') := fun W hW => by
    have := read_any s.data.toList W (by have := HS.out; rw [Array.length_toList]; exact this) (HV.out.step hW)
    rw [hs0] at this
    exact this
  obtain ⟨E, hE⟩ : ∃ E, rdN s.data.toList = E := ⟨_, rfl⟩
  obtain ⟨M, hM⟩ : ∃ M, rdL s.data.toList = M := ⟨_, rfl⟩
  rw [hE, hM] at CR
  have HD : Hid (E = 0 ∧ chE (atE M) M.length = 0 ∧ txB (atE M) M.length = s ∨ E ≠ 0 ∧ M = []) := by
    show E = 0 ∧ chE (atE M) M.length = 0 ∧ txB (atE M) M.length = s ∨ E ≠ 0 ∧ M = []
    by_cases e0 : E = 0
    · have := text_read (hE.trans e0)
      rw [hM] at this
      refine Or.inl ⟨e0, this.1, ?_⟩
      unfold txB
      rw [if_pos this.1, this.2]
    · refine Or.inr ⟨e0, ?_⟩
      rw [← hM]
      exact rdL_bad (by rw [hE]; exact e0)
  have HH : Hid (chE l ln = 0 → txB l ln = tx (txL l ln) ∧ rdN (txL l ln) = 0 ∧ (rdL (txL l ln)).length = ln ∧ (txL l ln).length ≤ 140737488351232 ∧ eqR l (atE (rdL (txL l ln))) ln = true) := fun h => by
    obtain ⟨h1, h2, h3⟩ := read_text h
    obtain ⟨hn, hf⟩ := chE_zero h
    have hl := txL_ten (l := l) (n := ln) fun k hk => tenE_of (fsE_zero hf hk).1
    refine ⟨by unfold txB; rw [if_pos h]; rfl, h1, h2, by omega, eqR_same h3⟩
  clear hT hE hM hs0
  by_cases e0 : chE l ln = 0
  · obtain ⟨h1, h2, h3, h4, h5⟩ := HH.out e0
    rw [h1, e0] at CT
    obtain ⟨X, hX⟩ : ∃ X, txL l ln = X := ⟨_, rfl⟩
    rw [hX] at CT h2 h3 h4 h5
    have CX : Hid (∀ W, Below w.heap.size w W → Calls Tryd.prog 11 #[.string (tx X)] W fun e w' => ∃ a c, e = .returned (.tuple #[.slice a (ln : Nat) c, .int .i64 0]) ∧ NwE W.heap.size w' a ln c (atE (rdL X)) ∧ Below W.heap.size W w') := fun W hW => by
      have := read_any X W h4 (HV.out.step hW)
      rw [h2, h3] at this
      exact this
    have CQ : Hid (∀ (a : Option Addr) (c N : Nat) W, Below w.heap.size w W → NwE N W a ln c (atE (rdL X)) → Calls Tryd.prog 14 #[.slice la ln lc, .slice a ln c] W fun e w' => e = .returned (.bool true) ∧ Below W.heap.size W w') := fun a c N W hW hN => by
      have := equalE_any la a ln lc c l (atE (rdL X)) W (by have := HL.out.small; omega) (HL.out.rf.row.step hW) hN.row
      rw [h5] at this
      exact this
    generalize tx X = U at CT CX
    clear HH e0 h1 h2 h3 h4 h5 hX
    go_wp2_with fail
    refine (CT.out _ B1.out).mono ?_
    rintro e w2 ⟨rfl, hb⟩
    have B2 : Hid (Below w.heap.size w w2) := below_then B1.out hb B1.out.size
    clear hb CT B1
    go_wp2_with fail
    refine (CX.out _ B2.out).mono ?_
    rintro e w3 ⟨xa, xc, rfl, hN, hb⟩
    have N3 : Hid (_) := hN
    have B3 : Hid (Below w.heap.size w w3) := below_then B2.out hb B2.out.size
    clear hb hN CX B2
    go_wp2_with fail
    refine (CQ.out _ _ _ _ B3.out N3.out).mono ?_
    rintro e w4 ⟨rfl, hb⟩
    have B4 : Hid (Below w.heap.size w w4) := below_then B3.out hb B3.out.size
    clear hb CQ B3 N3
    go_wp2_with fail
    refine (CR.out _ B4.out).mono ?_
    rintro e w5 ⟨ma, mc, rfl, hN, hb⟩
    have N5 : Hid (_) := hN
    have B5 : Hid (Below w.heap.size w w5) := below_then B4.out hb B4.out.size
    clear hb hN CR B4
    have CU : Hid (∀ W, Below w5.heap.size w5 W → Calls Tryd.prog 9 #[.slice ma M.length mc] W fun e w' => e = .returned (.tuple #[.string (txB (atE M) M.length), .int .i64 (chE (atE M) M.length)]) ∧ Below W.heap.size W w') := fun W hW => text_any ma M.length mc (atE M) W (N5.out.row.step hW) ((HV.out.step B5.out).ten.step hW)
    rcases HD.out with ⟨rfl, h2, h3⟩ | ⟨h1, rfl⟩
    · rw [h2, h3] at CU
      have qs : (s.toList == s.toList) = true := beq_self_eq_true _
      clear HD h2 h3 N5
      go_wp2_with fail
      refine (CU.out _ (Below.refl _ _)).mono ?_
      rintro e w6 ⟨rfl, hb⟩
      have B6 : Hid (Below w.heap.size w w6) := below_then B5.out hb B5.out.size
      clear hb CU B5
      go_wp2_with fail
      go_ret
      exact ⟨rfl, B6.out⟩
    · have q1 : (E != 0) = true := by simpa using h1
      have q2 : (E == 0) = false := by simpa using h1
      generalize txB (atE []) ([] : List En).length = Y at CU
      generalize chE (atE []) ([] : List En).length = Z at CU
      clear HD N5
      go_wp2_with fail
      refine (CU.out _ (Below.refl _ _)).mono ?_
      rintro e w6 ⟨rfl, hb⟩
      have B6 : Hid (Below w.heap.size w w6) := below_then B5.out hb B5.out.size
      clear hb CU B5
      go_wp2_with fail
      go_ret
      exact ⟨rfl, B6.out⟩
  · have q0 : (chE l ln == 0) = false := by simpa using e0
    generalize txB l ln = U at CT
    clear HH
    generalize chE l ln = Z0 at CT q0 e0
    go_wp2_with fail
    refine (CT.out _ B1.out).mono ?_
    rintro e w4 ⟨rfl, hb⟩
    have B4 : Hid (Below w.heap.size w w4) := below_then B1.out hb B1.out.size
    clear hb CT B1
    go_wp2_with fail
    refine (CR.out _ B4.out).mono ?_
    rintro e w5 ⟨ma, mc, rfl, hN, hb⟩
    have N5 : Hid (_) := hN
    have B5 : Hid (Below w.heap.size w w5) := below_then B4.out hb B4.out.size
    clear hb hN CR B4
    have CU : Hid (∀ W, Below w5.heap.size w5 W → Calls Tryd.prog 9 #[.slice ma M.length mc] W fun e w' => e = .returned (.tuple #[.string (txB (atE M) M.length), .int .i64 (chE (atE M) M.length)]) ∧ Below W.heap.size W w') := fun W hW => text_any ma M.length mc (atE M) W (N5.out.row.step hW) ((HV.out.step B5.out).ten.step hW)
    rcases HD.out with ⟨rfl, h2, h3⟩ | ⟨h1, rfl⟩
    · rw [h2, h3] at CU
      have qs : (s.toList == s.toList) = true := beq_self_eq_true _
      clear HD h2 h3 N5
      go_wp2_with fail
      refine (CU.out _ (Below.refl _ _)).mono ?_
      rintro e w6 ⟨rfl, hb⟩
      have B6 : Hid (Below w.heap.size w w6) := below_then B5.out hb B5.out.size
      clear hb CU B5
      go_wp2_with fail
      go_ret
      exact ⟨rfl, B6.out⟩
    · have q1 : (E != 0) = true := by simpa using h1
      have q2 : (E == 0) = false := by simpa using h1
      generalize txB (atE []) ([] : List En).length = Y at CU
      generalize chE (atE []) ([] : List En).length = Z at CU
      clear HD N5
      go_wp2_with fail
      refine (CU.out _ (Below.refl _ _)).mono ?_
      rintro e w6 ⟨rfl, hb⟩
      have B6 : Hid (Below w.heap.size w w6) := below_then B5.out hb B5.out.size
      clear hb CU B5
      go_wp2_with fail
      go_ret
      exact ⟨rfl, B6.out⟩

end Go.Proofs.YtkklinjamcfppaaDoor.logBack
