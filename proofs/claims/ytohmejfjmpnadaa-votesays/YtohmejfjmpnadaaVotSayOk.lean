/-
  The law VoteSays where there is a middle one and most is not below 0: who is far, one by one.
-/
import Derived.Test.YtohmejfjmpnadaaVotFars
namespace Go.Proofs.Ytohmejfjmpnadaa
open Go.RowKit
set_option linter.unusedVariables false

theorem max_abs (D : Int) (ts : Array TypeId) (t : TypeId) (W : World) : (Builtin.max_ ts t #[.int .i64 D, .int .i64 (-D)]).run Try.prog W = .ok (.int .i64 (absI D)) W := by
  rw [run_max_int2 W ts t .i64 .i64 D (-D)]
  have : (if -D > D then -D else D) = absI D := by unfold absI; split <;> split <;> omega
  rw [this]

set_option maxHeartbeats 4000000 in
set_option maxRecDepth 100000 in
theorem says_ok (la : Option Addr) (lc : Nat) (l : Nat → Int) (oka : Option Addr) (okn okc : Nat) (ok : Nat → Bool) (most : Int) (w : World) (md : Int) (HI : Hid (In32 l)) (HR : Hid (R32 w la okn l)) (HO : Hid (RBo w oka okn ok)) (hl : okn ≤ 64) (hM : MidS l okn ok okn md 0) (h0 : 0 ≤ most) (h1 : most ≤ 2147483647) :
    Calls Try.prog 3 #[.slice la okn lc, .slice oka okn okc, .int .i32 most] w fun e w' => e = .returned (.bool true) ∧ Below w.heap.size w w' := by
  obtain ⟨_, _, _, _, i0, hi0, _, e0⟩ := hM.good rfl
  obtain ⟨m1, m2⟩ := HI.out i0
  rw [e0] at m1 m2
  clear e0
  have y9 : ¬ most < 0 := by omega
  have HM : Hid (MidS l okn ok okn md 0) := hM
  obtain ⟨mm, EM, hmaj⟩ := maj_there l okn
  have HJ : Hid (Maj l okn mm EM) := hmaj
  obtain ⟨S, hS⟩ := spr_there l okn
  obtain ⟨s1, s2⟩ := hS.bounds HI.out
  have HS : Hid (Spr l okn S) := hS
  have z0 : ¬ (64 : Int) < (okn : Int) := by omega
  clear hM hmaj hS
  go_enter Try.func3, Try.ntmps3
  go_wp2_with fail
  refine (mid_any la oka okn lc okn okc l ok md 0 w HR.out HO.out HM.out).mono ?_
  rintro r w1 ⟨rfl, hb⟩
  have B1 : Hid (Below w.heap.size w w1) := hb
  clear hb
  go_wp2_with fail
  refine (rmid_any la oka okn lc okn okc l ok md 0 w1 (HR.out.step B1.out) (HO.out.step B1.out) HM.out).mono ?_
  rintro r w2 ⟨rfl, hb⟩
  have B2 : Hid (Below w.heap.size w w2) := B1.out.trans (hb.mono B1.out.size)
  clear hb B1
  go_wp2_with fail
  refine (majority_any la okn lc l mm EM w2 hl (HR.out.step B2.out) HJ.out).mono ?_
  rintro r w3 ⟨rfl, rfl⟩
  go_wp2_with fail
  refine (rmajority_any la okn lc l mm EM w3 hl (HR.out.step B2.out) HJ.out).mono ?_
  rintro r w4 ⟨rfl, rfl⟩
  go_wp2_with fail
  refine (far_ok la oka okn lc okc l ok md most w4 HI.out (HR.out.step B2.out) (HO.out.step B2.out) HM.out h0 h1).mono ?_
  rintro r w5 ⟨g, rfl, hf, hb⟩
  have B5 : Hid (Below w.heap.size w w5) := B2.out.trans (hb.mono B2.out.size)
  have HF : Hid (RBo w5 (some ⟨g, 0, none⟩) okn (farB l ok md most)) := hf
  clear hf
  clear hb B2
  go_wp2_with fail
  refine (spread_any la okn lc l S w5 hl HI.out HS.out (HR.out.step B5.out)).mono ?_
  rintro r w6 ⟨rfl, rfl⟩
  go_wp2_with fail
  refine (rspread_any la okn lc l S w6 hl HI.out HS.out (HR.out.step B5.out)).mono ?_
  rintro r w7 ⟨rfl, rfl⟩
  have HR7 : Hid (R32 w7 la okn l) := HR.out.step B5.out
  have HO7 : Hid (RBo w7 oka okn ok) := HO.out.step B5.out
  clear HR HO HM HJ HS
  go_wp2_with fail
  go_loopg [109] (okn + 1) (fun gg u wr => ∃ j d : Nat, u = .int .i64 j ∧ okn - j < gg ∧ j ≤ okn ∧ wr = w7.drewN d)
  case atStart => exact ⟨0, 0, rfl, by omega, by omega, rfl⟩
  case round =>
    obtain ⟨j, d, rfl, hg, hj, rfl⟩ := hrel
    by_cases hlt : j < okn
    · have z1 : (j : Int) < (okn : Int) := by omega
      obtain ⟨b1, o1, rfl, hb1, hc1⟩ := HR7.out (by omega)
      obtain ⟨b2, o2, rfl, hb2, hc2⟩ := HO7.out (by omega)
      obtain ⟨b3, o3, e3, hb3, hc3⟩ := HF.out (by omega)
      simp only [Option.some.injEq, Addr.mk.injEq, and_true] at e3
      obtain ⟨rfl, rfl⟩ := e3
      simp only [Nat.zero_add] at hc3
      have x1 : w7.cell? ⟨b1, o1 + j, none⟩ = some (.int .i32 (l j)) := hc1 j hlt
      have x2 : w7.cell? ⟨b2, o2 + j, none⟩ = some (.bool (ok j)) := hc2 j hlt
      have x3 : w7.cell? ⟨g, j, none⟩ = some (.bool (farB l ok md most j)) := hc3 j hlt
      obtain ⟨a1, a2⟩ := HI.out j
      clear hc1 hc2 hc3
      cases e : ok j
      · rw [e] at x2
        rw [farB_not e] at x3
        clear e
        generalize l j = y at x1 a1 a2
        go_wp2_with fail
        have z2 : decide ((okn : Int) ≤ (j : Int)) = false := decide_eq_false (by omega)
        have z3 : decide (okn ≤ j) = false := decide_eq_false (by omega)
        have x4 := x3
        rw [← Nat.zero_add j] at x4
        go_big_quiet (fail)
        go_wp2_with fail
        go_roundg (okn - (j + 1) + 1)
        case measure => omega
        case rel => exact ⟨j + 1, _, by go_num, by omega, by omega, rfl⟩
      · rw [e] at x2
        have hmax := max_abs (l j - md)
        by_cases hd : most < absI (l j - md)
        · rw [farB_yes e hd] at x3
          clear e
          generalize absI (l j - md) = A at hd hmax
          generalize l j = y at x1 a1 a2 hmax
          go_wp2_with fail
          have z2 : decide ((okn : Int) ≤ (j : Int)) = false := decide_eq_false (by omega)
          have z3 : decide (okn ≤ j) = false := decide_eq_false (by omega)
          have x4 := x3
          rw [← Nat.zero_add j] at x4
          go_big_quiet (fail)
          go_wp2_with fail
          go_roundg (okn - (j + 1) + 1)
          case measure => omega
          case rel => exact ⟨j + 1, _, by go_num, by omega, by omega, rfl⟩
        · rw [farB_near hd] at x3
          clear e
          generalize absI (l j - md) = A at hd hmax
          generalize l j = y at x1 a1 a2 hmax
          go_wp2_with fail
          have hd' : decide (most < A) = false := decide_eq_false (by omega)
          have z2 : decide ((okn : Int) ≤ (j : Int)) = false := decide_eq_false (by omega)
          have z3 : decide (okn ≤ j) = false := decide_eq_false (by omega)
          have x4 := x3
          rw [← Nat.zero_add j] at x4
          go_big_quiet (fail)
          go_wp2_with fail
          go_roundg (okn - (j + 1) + 1)
          case measure => omega
          case rel => exact ⟨j + 1, _, by go_num, by omega, by omega, rfl⟩
    · have z1 : ¬ (j : Int) < (okn : Int) := by omega
      go_wp2_with fail
      go_ret
      exact ⟨rfl, ⟨B5.out.os, B5.out.tape, B5.out.output, B5.out.size, B5.out.block⟩⟩

end Go.Proofs.Ytohmejfjmpnadaa
