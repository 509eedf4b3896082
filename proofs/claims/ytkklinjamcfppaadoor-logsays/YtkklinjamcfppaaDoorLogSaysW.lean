/-
  The walk of the law LogSays.
-/
import Derived.Test.YtkklinjamcfppaaDoorLogBackW
import Derived.Test.YtkklinjamcfppaaDoorRLogPut
import Derived.Test.YtkklinjamcfppaaDoorRLogText
import Derived.Test.YtkklinjamcfppaaDoorRLogRead
import Derived.Test.YtkklinjamcfppaaDoorOpenE
namespace Go.Proofs.YtkklinjamcfppaaDoor.logSays
open Go.RowKit
set_option linter.unusedVariables false

abbrev Met (w : World) : Prop := Vb w

theorem put_small (l : Nat → En) (n : Nat) (x : En) : (if putR l n x = 0 then putN l n x else 0) ≤ 33 := by
  by_cases h : putR l n x = 0
  · rw [if_pos h]
    have hc : chE l n = 0 := by
      unfold putR at h
      split at h
      · rename_i k
        exact absurd h k
      · rename_i k
        exact Classical.not_not.1 k
    have hn := (chE_zero hc).1
    unfold putN
    split
    · omega
    · split
      · omega
      · split <;> omega
  · rw [if_neg h]; omega
theorem rdL_small (s : List UInt8) : (rdL s).length ≤ 32 := by
  by_cases h : rdN s = 0
  · exact (chE_zero (text_read h).1).1
  · rw [rdL_bad h]
    simp

set_option maxHeartbeats 8000000 in
theorem walk (la : Option Addr) (ln lc : Nat) (l : Nat → En) (n : Int) (k : Int) (code : Int) (s : ByteArray) (w : World) (h_l : RowI w la ln lc l) (h_n : (Lit.int .i64 n).wf = true) (h_k : (Lit.int .i64 k).wf = true) (h_code : (Lit.int .i64 code).wf = true) (h_s : s.size ≤ 140737488351232) (h_met : Met w) :
    Calls Tryd.prog 3 #[.slice la ln lc, .int .i64 n, .int .i64 k, .int .i64 code, .string s] w fun e w' => e = .returned (.bool true) ∧ Below w.heap.size w w' := by
  have HL : Hid (RowI w la ln lc l) := h_l
  have HV : Hid (Vb w) := h_met
  have CE : Hid (∀ W, Below w.heap.size w W → Calls Tryd.prog 6 #[.slice la ln lc] W fun e w' => e = .returned (.int .i64 (chE l ln)) ∧ Below W.heap.size W w') := fun W hW => rlogErr_any la ln lc l W (HL.out.rf.row.step hW)
  have CK : Hid (∀ W, Below w.heap.size w W → Calls Tryd.prog 13 #[.slice la ln lc] W fun e w' => e = .returned (.int .i64 (chE l ln)) ∧ Below W.heap.size W w') := fun W hW => check_any la ln lc l W (HL.out.rf.row.step hW)
  have CP : Hid (∀ W, Below w.heap.size w W → Calls Tryd.prog 7 #[.slice la ln lc, .int .i64 n, .int .i64 k, .int .i64 code] W fun e w' => PutTells W (putR l ln ⟨n, k, code, 1⟩) (if putR l ln ⟨n, k, code, 1⟩ = 0 then putN l ln ⟨n, k, code, 1⟩ else 0) (putL l ln ⟨n, k, code, 1⟩) e w') := fun W hW => put_any la ln lc l n k code W (HL.out.rf.step hW)
  have CR : Hid (∀ W, Below w.heap.size w W → Calls Tryd.prog 8 #[.slice la ln lc, .int .i64 n, .int .i64 k, .int .i64 code] W fun e w' => RPutTells W (putR l ln ⟨n, k, code, 1⟩) (if putR l ln ⟨n, k, code, 1⟩ = 0 then putN l ln ⟨n, k, code, 1⟩ else 0) (putL l ln ⟨n, k, code, 1⟩) e w') := fun W hW => rput_any la ln lc l n k code W (HL.out.rf.row.step hW) HL.out.zero
  have CT : Hid (∀ W, Below w.heap.size w W → Calls Tryd.prog 9 #[.slice la ln lc] W fun e w' => e = .returned (.tuple #[.string (txB l ln), .int .i64 (chE l ln)]) ∧ Below W.heap.size W w') := fun W hW => text_any la ln lc l W (HL.out.rf.row.step hW) (HV.out.ten.step hW)
  have CU : Hid (∀ W, Below w.heap.size w W → chE l ln = 0 → Calls Tryd.prog 10 #[.slice la ln lc] W fun e w' => e = .returned (.string (txB l ln)) ∧ Below W.heap.size W w') := fun W hW h0 => by
    have := rtext_any la ln lc l W (HL.out.rf.row.step hW) h0 (HV.out.ten.step hW)
    unfold txB
    rw [if_pos h0]
    exact this
  have hs0 : tx s.data.toList = s := tx_list s
  have hsl : s.data.toList.length ≤ 140737488351232 := by rw [Array.length_toList]; exact h_s
  have CA : Hid (∀ W, Below w.heap.size w W → Calls Tryd.prog 11 #[.string s] W fun e w' => ∃ a c, e = .returned (.tuple #[.slice a (rdL s.data.toList).length c, .int .i64 (rdN s.data.toList)]) ∧ RowE w' a (rdL s.data.toList).length (atE (rdL s.data.toList)) ∧ Below W.heap.size W w') := fun W hW => by
    have := read_any s.data.toList W hsl (HV.out.step hW)
    rw [hs0] at this
    refine this.mono ?_
    rintro e w' ⟨a, c, he, hN, hb⟩
    exact ⟨a, c, he, hN.row, hb⟩
  have CB : Hid (∀ W, Below w.heap.size w W → Calls Tryd.prog 12 #[.string s] W fun e w' => ∃ a c, e = .returned (.tuple #[.slice a (rdL s.data.toList).length c, .int .i64 (rdN s.data.toList)]) ∧ RowE w' a (rdL s.data.toList).length (atE (rdL s.data.toList)) ∧ Below W.heap.size W w') := fun W hW => by
    have := rread_any s.data.toList W hsl (HV.out.step hW)
    rw [hs0] at this
    exact this
  have hM := rdL_small s.data.toList
  have hN := put_small l ln ⟨n, k, code, 1⟩
  have CQ : Hid (∀ (a b : Option Addr) (m c d : Nat) (L : Nat → En) W, m ≤ 33 → RowE W a m L → RowE W b m L → Calls Tryd.prog 14 #[.slice a m c, .slice b m d] W fun e w' => e = .returned (.bool true) ∧ Below W.heap.size W w') := fun a b m c d L W hm ha hb => by
    have := equalE_any a b m c d L L W (by omega) ha hb
    rw [eqR_same fun _ _ => rfl] at this
    exact this
  have H0 : Hid (chE l ln ≠ 0 → txB l ln = ⟨#[]⟩) := fun h => by
    unfold txB
    rw [if_neg h]
  unfold PutTells at CP
  unfold RPutTells at CR
  generalize (if putR l ln ⟨n, k, code, 1⟩ = 0 then putN l ln ⟨n, k, code, 1⟩ else 0) = N at CP CR hN
  generalize putR l ln ⟨n, k, code, 1⟩ = R at CP CR
  generalize putL l ln ⟨n, k, code, 1⟩ = L at CP CR
  generalize rdN s.data.toList = Z at CA CB
  generalize atE (rdL s.data.toList) = Q at CA CB
  generalize (rdL s.data.toList).length = M at CA CB hM
  generalize txB l ln = T at CT CU H0
  generalize chE l ln = E at CE CK CT CU H0
  clear h_l h_n h_k h_code h_s h_met hs0 hsl HL HV
  go_enter Tryd.func3, Tryd.ntmps3
  go_wp2_with fail
  refine (CE.out _ (Below.refl _ _)).mono ?_
  rintro e w1 ⟨rfl, hb⟩
  have B1 : Hid (Below w.heap.size w w1) := hb
  clear hb CE
  go_wp2_with fail
  refine (CP.out _ B1.out).mono ?_
  rintro e w2 ⟨xa, xc, rfl, hx, hb⟩
  have X2 : Hid (RowE w2 xa N L) := hx.row
  have B2 : Hid (Below w.heap.size w w2) := below_then B1.out hb B1.out.size
  clear hb hx CP B1
  go_wp2_with fail
  refine (CR.out _ B2.out).mono ?_
  rintro e w3 ⟨ya, yc, rfl, hy, hb⟩
  have Y3 : Hid (RowE w3 ya N L) := hy
  have X3 : Hid (RowE w3 xa N L) := X2.out.step hb
  have B3 : Hid (Below w.heap.size w w3) := below_then B2.out hb B2.out.size
  clear hb hy CR B2 X2
  go_wp2_with fail
  refine (CT.out _ B3.out).mono ?_
  rintro e w4 ⟨rfl, hb⟩
  have L4 : Hid (Below w3.heap.size w3 w4) := hb
  have B4 : Hid (Below w.heap.size w w4) := below_then B3.out hb B3.out.size
  clear hb CT
  have qR : (R == R) = true := beq_self_eq_true _
  have qE : (E == E) = true := beq_self_eq_true _
  have qZ : (Z == Z) = true := beq_self_eq_true _
  by_cases e0 : E = 0
  · subst e0
    have qT : (T.toList == T.toList) = true := beq_self_eq_true _
    go_wp2_with fail
    refine (CU.out _ B4.out (by trivial)).mono ?_
    rintro e w5 ⟨rfl, hb⟩
    have L5 : Hid (Below w3.heap.size w3 w5) := below_then L4.out hb L4.out.size
    have B5 : Hid (Below w.heap.size w w5) := below_then B4.out hb B4.out.size
    clear hb CU L4 B4
    go_wp2_with fail
    refine (CA.out _ B5.out).mono ?_
    rintro e w6 ⟨ca, cc, rfl, hc, hb⟩
    have C6 : Hid (RowE w6 ca M Q) := hc
    have L6 : Hid (Below w3.heap.size w3 w6) := below_then L5.out hb L5.out.size
    have B6 : Hid (Below w.heap.size w w6) := below_then B5.out hb B5.out.size
    clear hb hc CA L5 B5
    go_wp2_with fail
    refine (CB.out _ B6.out).mono ?_
    rintro e w7 ⟨da, dc, rfl, hd, hb⟩
    have D7 : Hid (RowE w7 da M Q) := hd
    have C7 : Hid (RowE w7 ca M Q) := C6.out.step hb
    have L7 : Hid (Below w3.heap.size w3 w7) := below_then L6.out hb L6.out.size
    have B7 : Hid (Below w.heap.size w w7) := below_then B6.out hb B6.out.size
    clear hb hd CB C6 L6 B6
    go_wp2_with fail
    refine (CK.out _ B7.out).mono ?_
    rintro e w8 ⟨rfl, hb⟩
    have D8 : Hid (RowE w8 da M Q) := D7.out.step hb
    have C8 : Hid (RowE w8 ca M Q) := C7.out.step hb
    have X8 : Hid (RowE w8 xa N L) := X3.out.step (below_then L7.out hb L7.out.size)
    have Y8 : Hid (RowE w8 ya N L) := Y3.out.step (below_then L7.out hb L7.out.size)
    have B8 : Hid (Below w.heap.size w w8) := below_then B7.out hb B7.out.size
    clear hb CK C7 D7 L7 B7 X3 Y3
    go_wp2_with fail
    refine (CQ.out xa ya N xc yc L _ hN X8.out Y8.out).mono ?_
    rintro e w9 ⟨rfl, hb⟩
    have D9 : Hid (RowE w9 da M Q) := D8.out.step hb
    have C9 : Hid (RowE w9 ca M Q) := C8.out.step hb
    have B9 : Hid (Below w.heap.size w w9) := below_then B8.out hb B8.out.size
    clear hb C8 D8 B8 X8 Y8
    go_wp2_with fail
    refine (CQ.out ca da M cc dc Q _ (by omega) C9.out D9.out).mono ?_
    rintro e w10 ⟨rfl, hb⟩
    have B10 : Hid (Below w.heap.size w w10) := below_then B9.out hb B9.out.size
    clear hb C9 D9 B9
    go_wp2_with fail
    go_ret
    exact ⟨rfl, B10.out⟩
  · have q0 : (E == 0) = false := by simpa using e0
    obtain rfl : T = ⟨#[]⟩ := H0.out e0
    have B5 : Hid (Below w.heap.size w w4) := B4.out
    have L5 : Hid (Below w3.heap.size w3 w4) := L4.out
    clear CU L4 B4 H0
    go_wp2_with fail
    refine (CA.out _ B5.out).mono ?_
    rintro e w6 ⟨ca, cc, rfl, hc, hb⟩
    have C6 : Hid (RowE w6 ca M Q) := hc
    have L6 : Hid (Below w3.heap.size w3 w6) := below_then L5.out hb L5.out.size
    have B6 : Hid (Below w.heap.size w w6) := below_then B5.out hb B5.out.size
    clear hb hc CA L5 B5
    go_wp2_with fail
    refine (CB.out _ B6.out).mono ?_
    rintro e w7 ⟨da, dc, rfl, hd, hb⟩
    have D7 : Hid (RowE w7 da M Q) := hd
    have C7 : Hid (RowE w7 ca M Q) := C6.out.step hb
    have L7 : Hid (Below w3.heap.size w3 w7) := below_then L6.out hb L6.out.size
    have B7 : Hid (Below w.heap.size w w7) := below_then B6.out hb B6.out.size
    clear hb hd CB C6 L6 B6
    go_wp2_with fail
    refine (CK.out _ B7.out).mono ?_
    rintro e w8 ⟨rfl, hb⟩
    have D8 : Hid (RowE w8 da M Q) := D7.out.step hb
    have C8 : Hid (RowE w8 ca M Q) := C7.out.step hb
    have X8 : Hid (RowE w8 xa N L) := X3.out.step (below_then L7.out hb L7.out.size)
    have Y8 : Hid (RowE w8 ya N L) := Y3.out.step (below_then L7.out hb L7.out.size)
    have B8 : Hid (Below w.heap.size w w8) := below_then B7.out hb B7.out.size
    clear hb CK C7 D7 L7 B7 X3 Y3
    go_wp2_with fail
    refine (CQ.out xa ya N xc yc L _ hN X8.out Y8.out).mono ?_
    rintro e w9 ⟨rfl, hb⟩
    have D9 : Hid (RowE w9 da M Q) := D8.out.step hb
    have C9 : Hid (RowE w9 ca M Q) := C8.out.step hb
    have B9 : Hid (Below w.heap.size w w9) := below_then B8.out hb B8.out.size
    clear hb C8 D8 B8 X8 Y8
    go_wp2_with fail
    refine (CQ.out ca da M cc dc Q _ (by omega) C9.out D9.out).mono ?_
    rintro e w10 ⟨rfl, hb⟩
    have B10 : Hid (Below w.heap.size w w10) := below_then B9.out hb B9.out.size
    clear hb C9 D9 B9
    go_wp2_with fail
    go_ret
    exact ⟨rfl, B10.out⟩

end Go.Proofs.YtkklinjamcfppaaDoor.logSays
