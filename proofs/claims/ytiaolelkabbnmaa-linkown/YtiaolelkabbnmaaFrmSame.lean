/-
  Contract of the document's SameFrame.
-/
import Derived.Test.YtiaolelkabbnmaaFrmAll
namespace Go.Proofs.Ytiaolelkabbnmaa
open Go.RowKit
set_option linter.unusedVariables false
set_option linter.unusedSimpArgs false

theorem below_drewN {N : Nat} {a w : World} (h : Below N a w) (d : Nat) : Below N a (w.drewN d) := h.trans ⟨rfl, rfl, rfl, Nat.le_refl _, fun _ _ => rfl⟩
/-- are two frames one -/
def frSame (f g : Fr) : Bool := decide (f.K = g.K) && decide (f.L = g.L) && decide (f.S = g.S) && decide (f.n = g.n) && eqB f.l g.l f.n

/-- slices.Equal of words -/
theorem equal_wds (a1 a2 : Option Addr) (n1 c1 n2 c2 : Nat) (l1 l2 : Nat → Int) (w : World) (hn : n1 ≤ 70368744177664) (h1 : Wds w a1 n1 l1) (h2 : Wds w a2 n2 l2) :
    Calls Try.prog 15 #[.slice a1 n1 c1, .slice a2 n2 c2] w fun e w' => e = .returned (.bool (decide (n1 = n2) && eqB l1 l2 n1)) ∧ ∃ d, w' = w.drewN d := by
  by_cases e : n1 = n2
  · subst e
    rw [decide_eq_true rfl, Bool.true_and]
    rcases Nat.eq_zero_or_pos n1 with h0 | h0
    · subst h0
      exact equal_none a1 a2 c1 c2 w
    · obtain ⟨b1, o1, rfl, _, r1⟩ := h1 h0
      obtain ⟨b2, o2, rfl, _, r2⟩ := h2 h0
      exact equal_any b1 o1 b2 o2 n1 c1 c2 l1 l2 w hn r1 r2
  · rw [decide_eq_false e, Bool.false_and]
    exact equal_len a1 a2 n1 c1 n2 c2 w e

set_option maxHeartbeats 2000000 in
set_option maxRecDepth 100000 in
theorem same_any (f g : Fr) (a1 a2 : Option Addr) (c1 c2 : Nat) (w : World) (hn : f.n ≤ 70368744177664) (h1 : Wds w a1 f.n f.l) (h2 : Wds w a2 g.n g.l) :
    Calls Try.prog 18 #[.agg #[.int .i64 f.K, .int .i64 f.L, .int .u8 f.S, .slice a1 f.n c1], .agg #[.int .i64 g.K, .int .i64 g.L, .int .u8 g.S, .slice a2 g.n c2]] w fun e w' => e = .returned (.bool (frSame f g)) ∧ Below w.heap.size w w' := by
  obtain ⟨K1, L1, S1, n1, l1⟩ := f
  obtain ⟨K2, L2, S2, n2, l2⟩ := g
  unfold frSame
  simp only at hn h1 h2 ⊢
  have HQ : Hid (∀ W, Below w.heap.size w W → Calls Try.prog 15 #[.slice a1 n1 c1, .slice a2 n2 c2] W fun e w' => e = .returned (.bool (decide (n1 = n2) && eqB l1 l2 n1)) ∧ ∃ d, w' = W.drewN d) := fun W hb => equal_wds a1 a2 n1 c1 n2 c2 l1 l2 W hn (h1.later hb) (h2.later hb)
  rw [Bool.and_assoc]
  generalize (decide (n1 = n2) && eqB l1 l2 n1) = q at HQ ⊢
  clear h1 h2
  have B2 : Hid (Below w.heap.size w ((w.alloc (.cells #[.int .i64 K1, .int .i64 L1, .int .u8 S1, .slice a1 n1 c1] 24)).alloc (.cells #[.int .i64 K2, .int .i64 L2, .int .u8 S2, .slice a2 n2 c2] 24))) := ((Below.refl _ w).alloc (Nat.le_refl _) _).alloc (by simp) _
  go_enter Try.func18, Try.ntmps18
  by_cases e1 : K1 = K2
  · have d1 : (K1 == K2) = true := by simpa using e1
    by_cases e2 : L1 = L2
    · have d2 : (L1 == L2) = true := by simpa using e2
      by_cases e3 : S1 = S2
      · have d3 : (S1 == S2) = true := by simpa using e3
        rw [decide_eq_true e1, decide_eq_true e2, decide_eq_true e3]
        simp only [Bool.true_and]
        clear e1 e2 e3
        go_wp2_with fail
        refine (HQ.out _ B2.out).mono ?_
        rintro e w1 ⟨rfl, d, rfl⟩
        go_wp2_with fail
        go_ret
        exact ⟨rfl, below_drewN B2.out d⟩
      · have d3 : (S1 == S2) = false := by simpa using e3
        rw [decide_eq_false e3]
        simp only [Bool.and_false, Bool.false_and]
        clear e1 e2 e3
        go_wp2_with fail
        go_ret
        exact ⟨rfl, B2.out⟩
    · have d2 : (L1 == L2) = false := by simpa using e2
      rw [decide_eq_false e2]
      simp only [Bool.and_false, Bool.false_and]
      clear e1 e2
      go_wp2_with fail
      go_ret
      exact ⟨rfl, B2.out⟩
  · have d1 : (K1 == K2) = false := by simpa using e1
    rw [decide_eq_false e1]
    simp only [Bool.and_false, Bool.false_and]
    clear e1
    go_wp2_with fail
    go_ret
    exact ⟨rfl, B2.out⟩

theorem frSame_refl (f g : Fr) (hK : f.K = g.K) (hL : f.L = g.L) (hS : f.S = g.S) (hn : f.n = g.n) (hl : ∀ k, k < f.n → f.l k = g.l k) : frSame f g = true := by
  unfold frSame
  rw [hK, hL, hS, hn, (eqB_iff f.l g.l g.n).2 (fun k hk => hl k (by omega))]
  simp

end Go.Proofs.Ytiaolelkabbnmaa
