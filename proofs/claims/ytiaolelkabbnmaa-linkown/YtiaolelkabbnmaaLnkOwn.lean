/-
  Contracts of link.Check, own, spoilt, isStale, and of the document's LinkErr and SameLink.
-/
import Derived.Test.YtiaolelkabbnmaaLnk
namespace Go.Proofs.Ytiaolelkabbnmaa
open Go.RowKit
set_option linter.unusedVariables false
set_option linter.unusedSimpArgs false

set_option maxHeartbeats 1000000 in
set_option maxRecDepth 100000 in
theorem lcheck_any (K L S : Int) (a : Option Addr) (n c : Nat) (h : Bool) (A B : Int) (w : World) :
    Calls Try.prog 12 #[.agg #[.int .i64 K, .int .i64 L, .int .u8 S, .slice a n c, .bool h, .int .i64 A, .int .i64 B]] w fun e w' => e = .returned (.int .i64 (lkE K L S n h A B)) ∧ Below w.heap.size w w' := by
  have B0 : Hid (Below w.heap.size w (w.alloc (.cells #[.int .i64 K, .int .i64 L, .int .u8 S, .slice a n c, .bool h, .int .i64 A, .int .i64 B] 26))) := (Below.refl _ w).alloc (Nat.le_refl _) _
  go_enter Try.func12, Try.ntmps12
  rcases Int.lt_or_le A 0 with q | a0
  · rw [lkE_arg (by omega)]
    go_wp2_with fail
    go_ret
    exact ⟨rfl, B0.out⟩
  have z0 : ¬ A < 0 := by omega
  rcases Int.lt_or_le 100 A with q | a1
  · rw [lkE_arg (by omega)]
    have z1 : A > 100 := q
    go_wp2_with fail
    go_ret
    exact ⟨rfl, B0.out⟩
  have z1 : ¬ A > 100 := by omega
  rcases Int.lt_or_le B 0 with q | b0
  · rw [lkE_arg (by omega)]
    go_wp2_with fail
    go_ret
    exact ⟨rfl, B0.out⟩
  have z2 : ¬ B < 0 := by omega
  rcases Int.lt_or_le 10000 B with q | b1
  · rw [lkE_arg (by omega)]
    have z3 : B > 10000 := q
    go_wp2_with fail
    go_ret
    exact ⟨rfl, B0.out⟩
  have z3 : ¬ B > 10000 := by omega
  cases h with
  | true =>
    rw [lkE_heard a0 a1 b0 b1]
    go_wp2_with fail
    refine (check_any K L S a n c _).mono ?_
    rintro e w1 ⟨rfl, hb⟩
    have B1 : Hid (Below w.heap.size w w1) := B0.out.trans (hb.mono B0.out.size)
    clear hb B0
    go_wp2_with fail
    go_ret
    exact ⟨rfl, B1.out⟩
  | false =>
    by_cases e : blankB K L S n = true
    · rw [lkE_blank a0 a1 b0 b1 e]
      go_wp2_with fail
      refine (blank_any K L S a n c _).mono ?_
      rintro e w1 ⟨rfl, hb⟩
      have B1 : Hid (Below w.heap.size w w1) := B0.out.trans (hb.mono B0.out.size)
      clear hb B0
      rw [e]
      go_wp2_with fail
      go_ret
      exact ⟨rfl, B1.out⟩
    · have e' : blankB K L S n = false := by simpa using e
      rw [lkE_form a0 a1 b0 b1 e']
      clear e
      go_wp2_with fail
      refine (blank_any K L S a n c _).mono ?_
      rintro e w1 ⟨rfl, hb⟩
      have B1 : Hid (Below w.heap.size w w1) := B0.out.trans (hb.mono B0.out.size)
      clear hb B0
      rw [e']
      go_wp2_with fail
      go_ret
      exact ⟨rfl, B1.out⟩

theorem same_blank (K L S : Int) (n : Nat) (l l' : Nat → Int) : frSame ⟨K, L, S, n, l⟩ ⟨0, 0, 0, 0, l'⟩ = blankB K L S n := by
  unfold frSame blankB
  simp only
  by_cases h : n = 0
  · subst h
    rw [(eqB_iff l l' 0).2 (fun k hk => absurd hk (by omega))]
    simp
  · rw [decide_eq_false h]
    simp

set_option maxHeartbeats 1000000 in
set_option maxRecDepth 100000 in
theorem rlcheck_any (K L S : Int) (a : Option Addr) (n c : Nat) (l : Nat → Int) (h : Bool) (A B : Int) (w : World) (hn : n ≤ 70368744177664) (hr : Wds w a n l) :
    Calls Try.prog 8 #[.agg #[.int .i64 K, .int .i64 L, .int .u8 S, .slice a n c, .bool h, .int .i64 A, .int .i64 B]] w fun e w' => e = .returned (.int .i64 (lkE K L S n h A B)) ∧ Below w.heap.size w w' := by
  have B0 : Hid (Below w.heap.size w (w.alloc (.cells #[.int .i64 K, .int .i64 L, .int .u8 S, .slice a n c, .bool h, .int .i64 A, .int .i64 B] 26))) := (Below.refl _ w).alloc (Nat.le_refl _) _
  have HS : Hid (∀ W, Below w.heap.size w W → Calls Try.prog 18 #[.agg #[.int .i64 K, .int .i64 L, .int .u8 S, .slice a n c], .agg #[.int .i64 0, .int .i64 0, .int .u8 0, .slice none 0 0]] W fun e w' => e = .returned (.bool (blankB K L S n)) ∧ Below W.heap.size W w') := fun W hb => by
    have := same_any ⟨K, L, S, n, l⟩ ⟨0, 0, 0, 0, l⟩ a none c 0 W hn (hr.later hb) (wds_zero _ _ _)
    rw [same_blank] at this
    exact this
  clear hr hn
  go_enter Try.func8, Try.ntmps8
  rcases Int.lt_or_le A 0 with q | a0
  · rw [lkE_arg (by omega)]
    go_wp2_with fail
    go_ret
    exact ⟨rfl, B0.out⟩
  have z0 : ¬ A < 0 := by omega
  rcases Int.lt_or_le 100 A with q | a1
  · rw [lkE_arg (by omega)]
    have z1 : A > 100 := q
    go_wp2_with fail
    go_ret
    exact ⟨rfl, B0.out⟩
  have z1 : ¬ A > 100 := by omega
  rcases Int.lt_or_le B 0 with q | b0
  · rw [lkE_arg (by omega)]
    go_wp2_with fail
    go_ret
    exact ⟨rfl, B0.out⟩
  have z2 : ¬ B < 0 := by omega
  rcases Int.lt_or_le 10000 B with q | b1
  · rw [lkE_arg (by omega)]
    have z3 : B > 10000 := q
    go_wp2_with fail
    go_ret
    exact ⟨rfl, B0.out⟩
  have z3 : ¬ B > 10000 := by omega
  cases h with
  | true =>
    rw [lkE_heard a0 a1 b0 b1]
    go_wp2_with fail
    refine (rcheck_any K L S a n c _).mono ?_
    rintro e w1 ⟨rfl, hb⟩
    have B1 : Hid (Below w.heap.size w w1) := B0.out.trans (hb.mono B0.out.size)
    clear hb B0
    go_wp2_with fail
    go_ret
    exact ⟨rfl, B1.out⟩
  | false =>
    by_cases e : blankB K L S n = true
    · rw [lkE_blank a0 a1 b0 b1 e]
      go_wp2_with fail
      refine (HS.out _ B0.out).mono ?_
      rintro e w1 ⟨rfl, hb⟩
      have B1 : Hid (Below w.heap.size w w1) := B0.out.trans (hb.mono B0.out.size)
      clear hb B0
      rw [e]
      go_wp2_with fail
      go_ret
      exact ⟨rfl, B1.out⟩
    · have e' : blankB K L S n = false := by simpa using e
      rw [lkE_form a0 a1 b0 b1 e']
      clear e
      go_wp2_with fail
      refine (HS.out _ B0.out).mono ?_
      rintro e w1 ⟨rfl, hb⟩
      have B1 : Hid (Below w.heap.size w w1) := B0.out.trans (hb.mono B0.out.size)
      clear hb B0
      rw [e']
      go_wp2_with fail
      go_ret
      exact ⟨rfl, B1.out⟩

theorem Wds.block {w w' : World} {g o n : Nat} {l : Nat → Int} (h : Wds w (some ⟨g, o, none⟩) n l) (hs : w.heap.size ≤ w'.heap.size) (hc : w'.heap[g]? = w.heap[g]?) : Wds w' (some ⟨g, o, none⟩) n l := fun hn => by
  obtain ⟨b, o', e, hlt, hr⟩ := h hn
  cases e
  refine ⟨g, o, rfl, Nat.lt_of_lt_of_le hlt hs, fun j hj => ?_⟩
  have := hr j hj
  unfold World.cell? at this ⊢
  rw [hc]
  exact this

/-- a link's box and the box of an answer, empty -/
structure Lb (w : World) (V : List Value) (W : World) : Prop where
  box : Cells W w.heap.size V
  out : Cells W (w.heap.size + 1) [.int .i64 0, .int .i64 0, .int .u8 0, .slice none 0 0, .bool false, .int .i64 0, .int .i64 0]
  bel : Below w.heap.size w W
theorem lb_new (w : World) (v0 v1 v2 v3 v4 v5 v6 : Value) (t : TypeId) : Lb w [v0, v1, v2, v3, v4, v5, v6] ((w.alloc (.cells #[v0, v1, v2, v3, v4, v5, v6] t)).alloc (.cells #[.int .i64 0, .int .i64 0, .int .u8 0, .slice none 0 0, .bool false, .int .i64 0, .int .i64 0] t)) :=
  ⟨(cells_new w #[v0, v1, v2, v3, v4, v5, v6] t).alloc _, by have := cells_new (w.alloc (.cells #[v0, v1, v2, v3, v4, v5, v6] t)) #[.int .i64 0, .int .i64 0, .int .u8 0, .slice none 0 0, .bool false, .int .i64 0, .int .i64 0] t; rw [show (w.alloc (.cells #[v0, v1, v2, v3, v4, v5, v6] t)).heap.size = w.heap.size + 1 by simp] at this; exact this, ((Below.refl _ w).alloc (Nat.le_refl _) _).alloc (by simp) _⟩
theorem Lb.step {w W W' : World} {V : List Value} (h : Lb w V W) (hb : Below W.heap.size W W') : Lb w V W' := ⟨h.box.step hb, h.out.step hb, h.bel.trans (hb.mono h.bel.size)⟩
theorem Lb.drewN {w W : World} {V : List Value} (h : Lb w V W) (d : Nat) : Lb w V (W.drewN d) := h.step ⟨rfl, rfl, rfl, Nat.le_refl _, fun _ _ => rfl⟩
theorem Lb.set {w W : World} {V : List Value} (h : Lb w V W) {j : Nat} (hj : j < V.length) (v : Value) : Lb w (V.set j v) (W.setCell ⟨w.heap.size, j, none⟩ v) :=
  ⟨h.box.set hj v, h.out.other (by omega) v, h.bel.setCell (p := ⟨w.heap.size, j, none⟩) (Nat.le_refl _) _⟩
/-- what is told is laid into the box of the answer -/
theorem Lb.put {w W : World} {V : List Value} (h : Lb w V W) (v0 v1 v2 v3 v4 v5 v6 : Value) :
    ∃ w3, ((((((W.setCell ⟨w.heap.size + 1, 0, none⟩ v0).setCell ⟨w.heap.size + 1, 1, none⟩ v1).setCell ⟨w.heap.size + 1, 2, none⟩ v2).setCell ⟨w.heap.size + 1, 3, none⟩ v3).setCell ⟨w.heap.size + 1, 4, none⟩ v4).setCell ⟨w.heap.size + 1, 5, none⟩ v5).setCell ⟨w.heap.size + 1, 6, none⟩ v6 = w3 ∧ Cells w3 (w.heap.size + 1) [v0, v1, v2, v3, v4, v5, v6] ∧ Below w.heap.size w w3 ∧ w3.heap.size = W.heap.size ∧ (∀ k, k ≠ w.heap.size + 1 → w3.heap[k]? = W.heap[k]?) := by
  obtain ⟨w3, h1, h2, h3, h4, h5, _⟩ := link_put h.out h.bel (by omega) v0 v1 v2 v3 v4 v5 v6
  exact ⟨w3, h1, h2, h3, h4, h5⟩

set_option maxHeartbeats 2000000 in
set_option maxRecDepth 100000 in
theorem own_any (K L S : Int) (a : Option Addr) (n c : Nat) (l : Nat → Int) (h : Bool) (A B : Int) (w : World) (hn : n ≤ 1048576) (hr : Wds w a n l) :
    Calls Try.prog 29 #[.agg #[.int .i64 K, .int .i64 L, .int .u8 S, .slice a n c, .bool h, .int .i64 A, .int .i64 B]] w fun e w' => ∃ g, e = .returned (.agg #[.int .i64 K, .int .i64 L, .int .u8 S, .slice (some ⟨g, 0, none⟩) n n, .bool h, .int .i64 A, .int .i64 B]) ∧ Wds w' (some ⟨g, 0, none⟩) n l ∧ w.heap.size ≤ g ∧ g < w'.heap.size ∧ Below w.heap.size w w' := by
  have B0 : Hid (Lb w [.int .i64 K, .int .i64 L, .int .u8 S, .slice a n c, .bool h, .int .i64 A, .int .i64 B] _) := lb_new w (.int .i64 K) (.int .i64 L) (.int .u8 S) (.slice a n c) (.bool h) (.int .i64 A) (.int .i64 B) 26
  have HR : Hid (Wds w a n l) := hr
  clear hr
  go_enter Try.func29, Try.ntmps29
  go_wp2_with fail
  refine (copied_any a n c l _ hn (HR.out.later B0.out.bel)).mono ?_
  rintro e w1 ⟨g, rfl, hw, hg, hlt, hb⟩
  have hg2 : w.heap.size + 2 ≤ g := by simp at hg; omega
  have X1 : Hid (Lb w [.int .i64 K, .int .i64 L, .int .u8 S, .slice a n c, .bool h, .int .i64 A, .int .i64 B] w1) := B0.out.step hb
  have HG : Hid (w.heap.size + 2 ≤ g ∧ g < w1.heap.size ∧ Wds w1 (some ⟨g, 0, none⟩) n l) := ⟨hg2, hlt, hw⟩
  clear B0 hb hw hg hlt hg2 HR
  obtain ⟨lx, x0, x1, x2, x3, x4, x5, x6⟩ := link_cells X1.out.box
  obtain ⟨f0, f1, f2, f3, f4, f5, f6⟩ := link_froz X1.out.box
  obtain ⟨ly, y0, y1, y2, y3, y4, y5, y6⟩ := link_cells X1.out.out
  obtain ⟨k0, k1, k2, k3, k4, k5, k6⟩ := link_froz X1.out.out
  go_wp2_with fail
  clear lx x0 x1 x2 x3 x4 x5 x6 f0 f1 f2 f3 f4 f5 f6 ly y0 y1 y2 y3 y4 y5 y6 k0 k1 k2 k3 k4 k5 k6
  obtain ⟨w3, hw3, C3, b3, s3, o3⟩ := (X1.out.set (j := 3) (by simp) (.slice (some ⟨g, 0, none⟩) n n)).put (.int .i64 K) (.int .i64 L) (.int .u8 S) (.slice (some ⟨g, 0, none⟩) n n) (.bool h) (.int .i64 A) (.int .i64 B)
  rw [hw3]
  obtain ⟨ly, y0, y1, y2, y3, y4, y5, y6⟩ := link_cells C3
  refine bodyPost_ret (by simp [results, Try.results29, go_sem, y0, y1, y2, y3, y4, y5, y6]; try rfl) rfl ?_
  have hs : w3.heap.size = w1.heap.size := by rw [s3]; simp [World.setCell]
  refine ⟨g, rfl, HG.out.2.2.block (by omega) ?_, by have := HG.out.1; omega, by have := HG.out.2.1; omega, b3⟩
  rw [o3 g (by have := HG.out.1; omega), Below.heap_setCell _ _ _ _ (by have := HG.out.1; simp; omega)]

end Go.Proofs.Ytiaolelkabbnmaa
