/-
  Contract of log.Put: one note more in a new row, or the error. Of the memory that was there nothing turns.
-/
import Derived.Test.YtkklinjamcfppaaDoorEntPut
namespace Go.Proofs.YtkklinjamcfppaaDoor
open Go.RowKit
set_option linter.unusedVariables false

theorem frB_iff (n a b : Int) : frB n a b = true ↔ a ≤ n ∧ n ≤ b := by unfold frB; simp
theorem okE_iff (x : En) : okE x = true ↔ (0 ≤ x.f ∧ x.f ≤ 1073741824) ∧ (0 ≤ x.l ∧ x.l ≤ 4) ∧ (1 ≤ x.c ∧ x.c ≤ 20) ∧ (1 ≤ x.m ∧ x.m ≤ 9999) := by
  unfold okE
  simp only [Bool.and_eq_true, frB_iff, and_assoc]
theorem alB_iff (x y : En) : alB x y = true ↔ x.l = y.l ∧ x.c = y.c := by unfold alB; simp
theorem mayB_iff (x y : En) : mayB x y = true ↔ y.f ≤ x.f ∧ ¬ (x.l = y.l ∧ x.c = y.c) := by
  unfold mayB
  rw [Bool.and_eq_true, decide_eq_true_eq, Bool.not_eq_true', ← Bool.not_eq_true, alB_iff]
theorem wrE_zero {l : Nat → En} {k : Nat} (h : wrE l k = 0) : okE (l k) = true ∧ (0 < k → mayB (l k) (l (k - 1)) = true) := by
  unfold wrE at h
  split at h
  · rename_i q
    refine ⟨q, fun hk => ?_⟩
    split at h
    · cases h
    · rename_i r
      rcases twoB (mayB (l k) (l (k - 1))) with e | e
      · exact absurd ⟨hk, e⟩ r
      · exact e
  · cases h
theorem fsE_zero {l : Nat → En} {n k : Nat} (h : fsE l n = 0) (hk : k < n) : okE (l k) = true ∧ (0 < k → mayB (l k) (l (k - 1)) = true) := by
  have z : ∀ j, j ≤ n → fsE l j = 0 := fun j hj => by
    by_cases e : fsE l j = 0
    · exact e
    · rw [fsE_stay e hj] at h
      exact h
  refine wrE_zero ?_
  have := z (k + 1) hk
  have e : fsE l (k + 1) = (if fsE l k = 0 then wrE l k else fsE l k) := rfl
  rw [e, if_pos (z k (by omega))] at this
  exact this
theorem fsE_of {l : Nat → En} {n : Nat} (h : ∀ k, k < n → okE (l k) = true ∧ (0 < k → mayB (l k) (l (k - 1)) = true)) : fsE l n = 0 := by
  induction n with
  | zero => rfl
  | succ n ih => exact fsE_next (ih (fun k hk => h k (by omega))) (wrE_ok (h n (by omega)).1 (h n (by omega)).2)
theorem chE_zero {l : Nat → En} {n : Nat} (h : chE l n = 0) : n ≤ 32 ∧ fsE l n = 0 := by
  unfold chE at h
  split at h
  · cases h
  · exact ⟨by omega, h⟩
theorem chE_of {l : Nat → En} {n : Nat} (hn : n ≤ 32) (h : fsE l n = 0) : chE l n = 0 := by
  unfold chE
  rw [if_neg (by omega)]
  exact h

/-- what came in: a row of entries -/
structure RowF (w : World) (a : Option Addr) (n c : Nat) (l : Nat → En) : Prop where
  le : n ≤ c
  max : c ≤ maxLen
  row : RowE w a n l
theorem RowF.step {w w' : World} {a : Option Addr} {n c : Nat} {l : Nat → En} (h : RowF w a n c l) (hb : Below w.heap.size w w') : RowF w' a n c l := ⟨h.le, h.max, h.row.step hb⟩
theorem NwE.rowF {N : Nat} {w : World} {a : Option Addr} {n c : Nat} {l : Nat → En} (h : NwE N w a n c l) : RowF w a n c l := ⟨h.le, h.max, h.row⟩

set_option maxHeartbeats 2000000 in
theorem put_bad (a : Option Addr) (n c : Nat) (l : Nat → En) (f la co : Int) (w : World) (h : RowE w a n l) (E : Int) (hE : chE l n = E) (h0 : E ≠ 0) :
    Calls Tryd.prog 7 #[.slice a n c, .int .i64 f, .int .i64 la, .int .i64 co] w fun e w' => e = .returned (.tuple #[.slice none 0 0, .int .i64 E]) ∧ Below w.heap.size w w' := by
  have C := check_any a n c l w h
  rw [hE] at C
  have q : (E != 0) = true := by simpa using h0
  clear h hE
  go_enter Tryd.func7, Tryd.ntmps7
  go_wp2_with fail
  refine C.mono ?_
  rintro e w1 ⟨rfl, hb⟩
  have B1 : Hid (_) := hb
  clear hb C
  go_wp2_with fail
  go_ret2
  exact ⟨rfl, B1.out⟩

set_option maxHeartbeats 2000000 in
theorem put_arg (a : Option Addr) (n c : Nat) (l : Nat → En) (f la co : Int) (w : World) (h : RowE w a n l) (hE : chE l n = 0) (h1 : okE ⟨f, la, co, 1⟩ = false) :
    Calls Tryd.prog 7 #[.slice a n c, .int .i64 f, .int .i64 la, .int .i64 co] w fun e w' => e = .returned (.tuple #[.slice none 0 0, .int .i64 1]) ∧ Below w.heap.size w w' := by
  have C := check_any a n c l w h
  rw [hE] at C
  have C1 : Hid (∀ W, Calls Tryd.prog 20 #[.agg #[.int .i64 f, .int .i64 la, .int .i64 co, .int .i64 1]] W fun e w' => e = .returned (.bool false) ∧ Below W.heap.size W w') := fun W => by
    have := isRight_any ⟨f, la, co, 1⟩ W
    rw [h1] at this
    exact this
  clear h hE h1
  go_enter Tryd.func7, Tryd.ntmps7
  go_wp2_with fail
  refine C.mono ?_
  rintro e w1 ⟨rfl, hb⟩
  have B1 : Hid (_) := hb
  clear hb C
  go_wp2_with fail
  refine (C1.out _).mono ?_
  rintro e w2 ⟨rfl, hb⟩
  have B2 : Hid (Below w.heap.size w w2) := below_then (B1.out.alloc B1.out.size _) hb (by have := B1.out.size; simp; omega)
  clear hb
  go_wp2_with fail
  go_ret2
  exact ⟨rfl, B2.out⟩

/-- Put's way up to where the last one is looked at -/
structure Pt (w : World) (b : Nat) (x : En) (W : World) : Prop where
  bel : Below w.heap.size w W
  box : Cells W b [.int .i64 x.f, .int .i64 x.l, .int .i64 x.c, .int .i64 x.m]
  own : w.heap.size ≤ b
theorem Pt.step {w : World} {b : Nat} {x : En} {W W' : World} (h : Pt w b x W) (hb : Below W.heap.size W W') : Pt w b x W' := ⟨below_then h.bel hb h.bel.size, h.box.step hb, h.own⟩
theorem pt_new {w W W' : World} {x : En} (h : Below w.heap.size w W) (hb : Below (W.alloc (.cells #[.int .i64 x.f, .int .i64 x.l, .int .i64 x.c, .int .i64 x.m] 33)).heap.size (W.alloc (.cells #[.int .i64 x.f, .int .i64 x.l, .int .i64 x.c, .int .i64 x.m] 33)) W') : Pt w W.heap.size x W' :=
  ⟨below_then (h.alloc h.size _) hb (by have := h.size; simp; omega), (cells_new W #[.int .i64 x.f, .int .i64 x.l, .int .i64 x.c, .int .i64 x.m] 33).step hb, h.size⟩

set_option maxHeartbeats 2000000 in
theorem put_first (a : Option Addr) (c : Nat) (l : Nat → En) (f la co : Int) (w : World) (h1 : okE ⟨f, la, co, 1⟩ = true) :
    Calls Tryd.prog 7 #[.slice a 0 c, .int .i64 f, .int .i64 la, .int .i64 co] w fun e w' => ∃ a' c', e = .returned (.tuple #[.slice a' 1 c', .int .i64 0]) ∧ NwE w.heap.size w' a' 1 c' (fun _ => ⟨f, la, co, 1⟩) ∧ Below w.heap.size w w' := by
  have C := check_any a 0 c l w (fun hn => absurd hn (by omega))
  rw [show chE l 0 = 0 from rfl] at C
  have C1 : Hid (∀ W, Calls Tryd.prog 20 #[.agg #[.int .i64 f, .int .i64 la, .int .i64 co, .int .i64 1]] W fun e w' => e = .returned (.bool true) ∧ Below W.heap.size W w') := fun W => by
    have := isRight_any ⟨f, la, co, 1⟩ W
    rw [h1] at this
    exact this
  clear h1
  go_enter Tryd.func7, Tryd.ntmps7
  go_wp2_with fail
  refine C.mono ?_
  rintro e w1 ⟨rfl, hb⟩
  have B1 : Hid (_) := hb
  clear hb C
  go_wp2_with fail
  refine (C1.out _).mono ?_
  rintro e w2 ⟨rfl, hb⟩
  have P2 : Hid (Pt w w1.heap.size ⟨f, la, co, 1⟩ w2) := pt_new B1.out hb
  clear hb
  have x0 := P2.out.box.cell 0 _ rfl
  have x1 := P2.out.box.cell 1 _ rfl
  have x2 := P2.out.box.cell 2 _ rfl
  have x3 := P2.out.box.cell 3 _ rfl
  go_wp2_with fail
  go_ret2
  have X := cells_new w2 #[.int .i64 f, .int .i64 la, .int .i64 co, .int .i64 1] 33
  refine ⟨_, _, rfl, ⟨Nat.le_refl _, by unfold maxLen; omega, fun k => (by cases k), fun d hd => ?_, fun _ k => (by cases k)⟩, P2.out.bel.alloc P2.out.bel.size _⟩
  cases hd
  refine ⟨_, rfl, P2.out.bel.size, by simp, fun j hj => ?_, _, heap_alloc_new w2 _, rfl⟩
  obtain rfl : j = 0 := by omega
  exact ⟨X.cell 0 _ rfl, X.cell 1 _ rfl, X.cell 2 _ rfl, X.cell 3 _ rfl⟩

set_option maxHeartbeats 4000000 in
theorem put_stale (a : Option Addr) (n c : Nat) (l : Nat → En) (f la co : Int) (w : World) (h : RowE w a (n + 1) l) (hn : n + 1 ≤ 32) (hE : chE l (n + 1) = 0) (h1 : okE ⟨f, la, co, 1⟩ = true) (h2 : f < (l n).f) :
    Calls Tryd.prog 7 #[.slice a (n + 1 : Nat) c, .int .i64 f, .int .i64 la, .int .i64 co] w fun e w' => e = .returned (.tuple #[.slice none 0 0, .int .i64 6]) ∧ Below w.heap.size w w' := by
  have C := check_any a (n + 1) c l w h
  rw [hE] at C
  have HR : Hid (RowE w a (n + 1) l) := h
  have C1 : Hid (∀ W, Calls Tryd.prog 20 #[.agg #[.int .i64 f, .int .i64 la, .int .i64 co, .int .i64 1]] W fun e w' => e = .returned (.bool true) ∧ Below W.heap.size W w') := fun W => by
    have := isRight_any ⟨f, la, co, 1⟩ W
    rw [h1] at this
    exact this
  clear h hE h1
  go_enter Tryd.func7, Tryd.ntmps7
  go_wp2_with fail
  refine C.mono ?_
  rintro e w1 ⟨rfl, hb⟩
  have B1 : Hid (_) := hb
  clear hb C
  go_wp2_with fail
  refine (C1.out _).mono ?_
  rintro e w2 ⟨rfl, hb⟩
  have P2 : Hid (Pt w w1.heap.size ⟨f, la, co, 1⟩ w2) := pt_new B1.out hb
  clear hb
  have R2 : Hid (_) := HR.out.step P2.out.bel
  obtain ⟨b, o, rfl, hb, hc⟩ := R2.out (by omega)
  obtain ⟨p0, p1, p2, p3⟩ := hc n (by omega)
  have x0 := P2.out.box.cell 0 _ rfl
  have x1 := P2.out.box.cell 1 _ rfl
  have x2 := P2.out.box.cell 2 _ rfl
  have x3 := P2.out.box.cell 3 _ rfl
  have l1 := P2.out.box.lt
  have z1 : ((n + 1 : Nat) : Int) - 1 = (n : Int) := by omega
  have z2 : (0 : Int) ≤ (n : Int) := by omega
  clear hc
  go_wp2_with fail
  go_ret2
  exact ⟨rfl, P2.out.bel.alloc P2.out.bel.size _⟩

set_option maxHeartbeats 4000000 in
theorem put_more (a : Option Addr) (n c : Nat) (l : Nat → En) (f la co : Int) (w : World) (h : RowE w a (n + 1) l) (hn : n + 1 ≤ 32) (hE : chE l (n + 1) = 0) (h1 : okE ⟨f, la, co, 1⟩ = true) (h2 : (l n).f ≤ f) (h3 : alB ⟨f, la, co, 1⟩ (l n) = true) :
    Calls Tryd.prog 7 #[.slice a (n + 1 : Nat) c, .int .i64 f, .int .i64 la, .int .i64 co] w fun e w' => ∃ a' c', e = .returned (.tuple #[.slice a' (n + 1 : Nat) c', .int .i64 0]) ∧ NwE w.heap.size w' a' (n + 1) c' (setE l n (moreE (l n))) ∧ Below w.heap.size w w' := by
  have C := check_any a (n + 1) c l w h
  rw [hE] at C
  have HR : Hid (RowE w a (n + 1) l) := h
  have C1 : Hid (∀ W, Calls Tryd.prog 20 #[.agg #[.int .i64 f, .int .i64 la, .int .i64 co, .int .i64 1]] W fun e w' => e = .returned (.bool true) ∧ Below W.heap.size W w') := fun W => by
    have := isRight_any ⟨f, la, co, 1⟩ W
    rw [h1] at this
    exact this
  have C2 : Hid (∀ W, Calls Tryd.prog 21 #[.agg #[.int .i64 f, .int .i64 la, .int .i64 co, .int .i64 1], .agg #[.int .i64 (l n).f, .int .i64 (l n).l, .int .i64 (l n).c, .int .i64 (l n).m]] W fun e w' => e = .returned (.bool true) ∧ Below W.heap.size W w') := fun W => by
    have := isAlike_any ⟨f, la, co, 1⟩ (l n) W
    rw [h3] at this
    exact this
  have hm := (okE_iff _).1 (fsE_zero (chE_zero hE).2 (k := n) (by omega)).1
  have C3 : Hid (∀ W, Below w.heap.size w W → Calls Tryd.prog 22 #[.slice a (n + 1 : Nat) c] W fun e w' => ∃ a' c', e = .returned (.slice a' (n + 1 : Nat) c') ∧ NwE W.heap.size w' a' (n + 1) c' (setE l n (moreE (l n))) ∧ Below W.heap.size W w') := fun W hW => oneMore_any a n c l W hn (HR.out.step hW) hm.2.2.2
  clear h hE h1 h3 hm
  go_enter Tryd.func7, Tryd.ntmps7
  go_wp2_with fail
  refine C.mono ?_
  rintro e w1 ⟨rfl, hb⟩
  have B1 : Hid (_) := hb
  clear hb C
  go_wp2_with fail
  refine (C1.out _).mono ?_
  rintro e w2 ⟨rfl, hb⟩
  have P2 : Hid (Pt w w1.heap.size ⟨f, la, co, 1⟩ w2) := pt_new B1.out hb
  clear hb
  have R2 : Hid (_) := HR.out.step P2.out.bel
  obtain ⟨b, o, rfl, hb, hc⟩ := R2.out (by omega)
  obtain ⟨p0, p1, p2, p3⟩ := hc n (by omega)
  have x0 := P2.out.box.cell 0 _ rfl
  have x1 := P2.out.box.cell 1 _ rfl
  have x2 := P2.out.box.cell 2 _ rfl
  have x3 := P2.out.box.cell 3 _ rfl
  have l1 := P2.out.box.lt
  have z1 : ((n + 1 : Nat) : Int) - 1 = (n : Int) := by omega
  have z2 : (0 : Int) ≤ (n : Int) := by omega
  clear hc
  have L2 : Hid (Below w2.heap.size w2 (w2.alloc (.cells #[.int .i64 (l n).f, .int .i64 (l n).l, .int .i64 (l n).c, .int .i64 (l n).m] 33))) := (Below.refl _ _).alloc (Nat.le_refl _) _
  go_wp2_with fail
  refine (C2.out _).mono ?_
  rintro e w3 ⟨rfl, hb3⟩
  have B3 : Hid (Below w.heap.size w w3) := below_then (below_then P2.out.bel L2.out P2.out.bel.size) hb3 (by have := P2.out.bel.size; simp; omega)
  clear hb3 p0 p1 p2 p3 x0 x1 x2 x3
  go_wp2_with fail
  refine (C3.out _ B3.out).mono ?_
  rintro e w4 ⟨a', c', rfl, hN, hb4⟩
  have B4 : Hid (_) := below_then B3.out hb4 B3.out.size
  have HN : Hid (_) := hN.mono B3.out.size
  clear hb4 hN
  go_wp2_with fail
  go_ret2
  exact ⟨a', c', rfl, HN.out, B4.out⟩

set_option maxHeartbeats 4000000 in
theorem put_add (G k : Nat) (a : Option Addr) (n c : Nat) (l : Nat → En) (f la co : Int) (w : World) (hG : G = 0 ∧ n + 1 = k ∧ k < 32 ∨ G = 1 ∧ n + 1 = 32 ∧ k = 31) (h : RowF w a (n + 1) c l) (hn : n + 1 ≤ 32) (hE : chE l (n + 1) = 0) (h1 : okE ⟨f, la, co, 1⟩ = true) (h2 : (l n).f ≤ f) (h3 : alB ⟨f, la, co, 1⟩ (l n) = false) :
    Calls Tryd.prog 7 #[.slice a (n + 1 : Nat) c, .int .i64 f, .int .i64 la, .int .i64 co] w fun e w' => ∃ a' c', e = .returned (.tuple #[.slice a' (k + 1 : Nat) c', .int .i64 0]) ∧ NwE w.heap.size w' a' (k + 1) c' (addE l G k ⟨f, la, co, 1⟩) ∧ Below w.heap.size w w' := by
  have C := check_any a (n + 1) c l w h.row
  rw [hE] at C
  have HR : Hid (RowE w a (n + 1) l) := h.row
  have C1 : Hid (∀ W, Calls Tryd.prog 20 #[.agg #[.int .i64 f, .int .i64 la, .int .i64 co, .int .i64 1]] W fun e w' => e = .returned (.bool true) ∧ Below W.heap.size W w') := fun W => by
    have := isRight_any ⟨f, la, co, 1⟩ W
    rw [h1] at this
    exact this
  have C2 : Hid (∀ W, Calls Tryd.prog 21 #[.agg #[.int .i64 f, .int .i64 la, .int .i64 co, .int .i64 1], .agg #[.int .i64 (l n).f, .int .i64 (l n).l, .int .i64 (l n).c, .int .i64 (l n).m]] W fun e w' => e = .returned (.bool false) ∧ Below W.heap.size W w') := fun W => by
    have := isAlike_any ⟨f, la, co, 1⟩ (l n) W
    rw [h3] at this
    exact this
  have C3 : Hid (∀ W, Below w.heap.size w W → Calls Tryd.prog 23 #[.slice a (n + 1 : Nat) c, .agg #[.int .i64 f, .int .i64 la, .int .i64 co, .int .i64 1]] W fun e w' => ∃ a' c', e = .returned (.slice a' (k + 1 : Nat) c') ∧ NwE W.heap.size w' a' (k + 1) c' (addE l G k ⟨f, la, co, 1⟩) ∧ Below W.heap.size W w') := fun W hW => by
    obtain ⟨b, o, rfl, _⟩ := HR.out (by omega)
    exact added_core G k (n + 1) b o c l ⟨f, la, co, 1⟩ W hG (by omega) h.le h.max (HR.out.step hW)
  clear h hE h1 h3 hG
  go_enter Tryd.func7, Tryd.ntmps7
  go_wp2_with fail
  refine C.mono ?_
  rintro e w1 ⟨rfl, hb⟩
  have B1 : Hid (_) := hb
  clear hb C
  go_wp2_with fail
  refine (C1.out _).mono ?_
  rintro e w2 ⟨rfl, hb⟩
  have P2 : Hid (Pt w w1.heap.size ⟨f, la, co, 1⟩ w2) := pt_new B1.out hb
  clear hb
  have R2 : Hid (_) := HR.out.step P2.out.bel
  obtain ⟨b, o, rfl, hb, hc⟩ := R2.out (by omega)
  obtain ⟨p0, p1, p2, p3⟩ := hc n (by omega)
  have x0 := P2.out.box.cell 0 _ rfl
  have x1 := P2.out.box.cell 1 _ rfl
  have x2 := P2.out.box.cell 2 _ rfl
  have x3 := P2.out.box.cell 3 _ rfl
  have l1 := P2.out.box.lt
  have z1 : ((n + 1 : Nat) : Int) - 1 = (n : Int) := by omega
  have z2 : (0 : Int) ≤ (n : Int) := by omega
  clear hc
  have L2 : Hid (Below w2.heap.size w2 (w2.alloc (.cells #[.int .i64 (l n).f, .int .i64 (l n).l, .int .i64 (l n).c, .int .i64 (l n).m] 33))) := (Below.refl _ _).alloc (Nat.le_refl _) _
  go_wp2_with fail
  refine (C2.out _).mono ?_
  rintro e w3 ⟨rfl, hb3⟩
  have P3 : Hid (_) := (P2.out.step L2.out).step hb3
  have x0' := P3.out.box.cell 0 _ rfl
  have x1' := P3.out.box.cell 1 _ rfl
  have x2' := P3.out.box.cell 2 _ rfl
  have x3' := P3.out.box.cell 3 _ rfl
  clear hb3 p0 p1 p2 p3 x0 x1 x2 x3
  go_wp2_with fail
  refine (C3.out _ P3.out.bel).mono ?_
  rintro e w4 ⟨a', c', rfl, hN, hb4⟩
  have B4 : Hid (_) := below_then P3.out.bel hb4 P3.out.bel.size
  have HN : Hid (_) := hN.mono P3.out.bel.size
  clear hb4 hN
  go_wp2_with fail
  go_ret2
  exact ⟨a', c', rfl, HN.out, B4.out⟩

/-- Put: of a right log of n entries -/
def putN (l : Nat → En) (n : Nat) (x : En) : Nat := if n = 0 then 1 else if alB x (l (n - 1)) = true then n else if n = 32 then 32 else n + 1
def putL (l : Nat → En) (n : Nat) (x : En) : Nat → En := if n = 0 then (fun _ => x) else if alB x (l (n - 1)) = true then setE l (n - 1) (moreE (l (n - 1))) else if n = 32 then addE l 1 31 x else addE l 0 n x
/-- Put's error -/
def putR (l : Nat → En) (n : Nat) (x : En) : Int := if chE l n ≠ 0 then chE l n else if okE x = false then 1 else if n ≠ 0 ∧ x.f < (l (n - 1)).f then 6 else 0
/-- what Put tells: as many as that, in a new row -/
def PutTells (w : World) (E : Int) (N : Nat) (L : Nat → En) (e : Ending) (w' : World) : Prop := ∃ a' c', e = .returned (.tuple #[.slice a' N c', .int .i64 E]) ∧ NwE w.heap.size w' a' N c' L ∧ Below w.heap.size w w'
theorem put_any (a : Option Addr) (n c : Nat) (l : Nat → En) (f la co : Int) (w : World) (h : RowF w a n c l) :
    Calls Tryd.prog 7 #[.slice a n c, .int .i64 f, .int .i64 la, .int .i64 co] w fun e w' => PutTells w (putR l n ⟨f, la, co, 1⟩) (if putR l n ⟨f, la, co, 1⟩ = 0 then putN l n ⟨f, la, co, 1⟩ else 0) (putL l n ⟨f, la, co, 1⟩) e w' := by
  by_cases e0 : chE l n = 0
  · by_cases e1 : okE ⟨f, la, co, 1⟩ = true
    · obtain ⟨hn, hf⟩ := chE_zero e0
      rcases Nat.eq_zero_or_pos n with q | q
      · subst q
        have r : putR l 0 ⟨f, la, co, 1⟩ = 0 := by unfold putR; rw [e0, e1]; simp
        rw [r]
        exact (put_first a c l f la co w e1).mono fun e w' h => h
      · obtain ⟨m, rfl⟩ : ∃ m, n = m + 1 := ⟨n - 1, by omega⟩
        by_cases e2 : f < (l m).f
        · have r : putR l (m + 1) ⟨f, la, co, 1⟩ = 6 := by unfold putR; rw [e0, e1]; simp [e2]
          rw [r]
          refine (put_stale a m c l f la co w h.row hn e0 e1 e2).mono fun e w' hq => ?_
          exact ⟨none, 0, hq.1, nwE_nil _ _ _, hq.2⟩
        · have r : putR l (m + 1) ⟨f, la, co, 1⟩ = 0 := by unfold putR; rw [e0, e1]; simp [e2]
          have nE : putN l (m + 1) ⟨f, la, co, 1⟩ = (if alB ⟨f, la, co, 1⟩ (l m) = true then m + 1 else if m + 1 = 32 then 32 else m + 1 + 1) := by unfold putN; rw [if_neg (show ¬ m + 1 = 0 by omega)]; rfl
          have lE : putL l (m + 1) ⟨f, la, co, 1⟩ = (if alB ⟨f, la, co, 1⟩ (l m) = true then setE l m (moreE (l m)) else if m + 1 = 32 then addE l 1 31 ⟨f, la, co, 1⟩ else addE l 0 (m + 1) ⟨f, la, co, 1⟩) := by unfold putL; rw [if_neg (show ¬ m + 1 = 0 by omega)]; rfl
          have lf : (l m).f ≤ f := by
            have := e2
            omega
          rw [r, if_pos (show (0 : Int) = 0 from rfl), nE, lE]
          rcases twoB (alB ⟨f, la, co, 1⟩ (l m)) with e3 | e3
          · have e5 : ¬ alB ⟨f, la, co, 1⟩ (l m) = true := by rw [e3]; decide
            rw [if_neg e5, if_neg e5]
            by_cases e4 : m + 1 = 32
            · rw [if_pos e4, if_pos e4]
              exact (put_add 1 31 a m c l f la co w (Or.inr ⟨rfl, e4, rfl⟩) h hn e0 e1 lf e3).mono fun e w' h => h
            · rw [if_neg e4, if_neg e4]
              exact (put_add 0 (m + 1) a m c l f la co w (Or.inl ⟨rfl, rfl, by omega⟩) h hn e0 e1 lf e3).mono fun e w' h => h
          · rw [if_pos e3, if_pos e3]
            exact (put_more a m c l f la co w h.row hn e0 e1 lf e3).mono fun e w' h => h
    · have r : putR l n ⟨f, la, co, 1⟩ = 1 := by unfold putR; rw [e0]; simp [e1]
      rw [r]
      refine (put_arg a n c l f la co w h.row e0 (by simpa using e1)).mono fun e w' hq => ?_
      exact ⟨none, 0, hq.1, nwE_nil _ _ _, hq.2⟩
  · have r : putR l n ⟨f, la, co, 1⟩ = chE l n := by unfold putR; rw [if_pos e0]
    rw [r, if_neg e0]
    refine (put_bad a n c l f la co w h.row _ rfl e0).mono fun e w' hq => ?_
    exact ⟨none, 0, hq.1, nwE_nil _ _ _, hq.2⟩

end Go.Proofs.YtkklinjamcfppaaDoor
