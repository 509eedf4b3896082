/-
  Contracts of link.Tick and link.Words, way by way.
-/
import Derived.Test.YtiaolelkabbnmaaLnkHear
namespace Go.Proofs.Ytiaolelkabbnmaa
open Go.RowKit
set_option linter.unusedVariables false
set_option linter.unusedSimpArgs false

/-- one more, at most 100 -/
def upA (A : Int) : Int := if A < 100 then A + 1 else 100

theorem le_big {n : Nat} (h : n ≤ 8) : n ≤ 1048576 := by omega

set_option maxHeartbeats 2000000 in
set_option maxRecDepth 100000 in
theorem tick_bad (K L S : Int) (a : Option Addr) (n c : Nat) (h : Bool) (A B E : Int) (w : World) (hE : lkE K L S n h A B = E) (h0 : E ≠ 0) :
    Calls Try.prog 10 #[.agg #[.int .i64 K, .int .i64 L, .int .u8 S, .slice a n c, .bool h, .int .i64 A, .int .i64 B]] w fun e w' => e = .returned (.tuple #[.agg #[.int .i64 0, .int .i64 0, .int .u8 0, .slice none 0 0, .bool false, .int .i64 0, .int .i64 0], .int .i64 E]) ∧ Below w.heap.size w w' := by
  have B0 : Hid (Lb w [.int .i64 K, .int .i64 L, .int .u8 S, .slice a n c, .bool h, .int .i64 A, .int .i64 B] _) := lb_new w (.int .i64 K) (.int .i64 L) (.int .u8 S) (.slice a n c) (.bool h) (.int .i64 A) (.int .i64 B) 26
  have HC : Hid (∀ W, Calls Try.prog 12 #[.agg #[.int .i64 K, .int .i64 L, .int .u8 S, .slice a n c, .bool h, .int .i64 A, .int .i64 B]] W fun e w' => e = .returned (.int .i64 E) ∧ Below W.heap.size W w') := fun W => by rw [← hE]; exact lcheck_any K L S a n c h A B W
  have q : (E != 0) = true := by simpa using h0
  clear hE h0
  go_enter Try.func10, Try.ntmps10
  go_wp2_with fail
  refine (HC.out _).mono ?_
  rintro e w1 ⟨rfl, hb⟩
  have X1 : Hid (Lb w [.int .i64 K, .int .i64 L, .int .u8 S, .slice a n c, .bool h, .int .i64 A, .int .i64 B] w1) := B0.out.step hb
  clear B0 hb
  obtain ⟨ly, y0, y1, y2, y3, y4, y5, y6⟩ := link_cells X1.out.out
  obtain ⟨k0, k1, k2, k3, k4, k5, k6⟩ := link_froz X1.out.out
  go_wp2_with fail
  clear ly y0 y1 y2 y3 y4 y5 y6 k0 k1 k2 k3 k4 k5 k6
  obtain ⟨w3, hw3, C3, b3, s3, o3⟩ := X1.out.put (.int .i64 0) (.int .i64 0) (.int .u8 0) (.slice none 0 0) (.bool false) (.int .i64 0) (.int .i64 0)
  rw [hw3]
  obtain ⟨ly, y0, y1, y2, y3, y4, y5, y6⟩ := link_cells C3
  refine bodyPost_ret (by simp [results, Try.results10, go_sem, y0, y1, y2, y3, y4, y5, y6]; try rfl) rfl ?_
  exact ⟨rfl, b3⟩

set_option maxHeartbeats 2000000 in
set_option maxRecDepth 100000 in
theorem tick_heard (K L S : Int) (a : Option Addr) (n c : Nat) (l : Nat → Int) (A B : Int) (w : World) (hE : lkE K L S n true A B = 0) (hr : Wds w a n l) :
    Calls Try.prog 10 #[.agg #[.int .i64 K, .int .i64 L, .int .u8 S, .slice a n c, .bool true, .int .i64 A, .int .i64 B]] w fun e w' => ∃ g, e = .returned (.tuple #[.agg #[.int .i64 K, .int .i64 L, .int .u8 S, .slice (some ⟨g, 0, none⟩) n n, .bool true, .int .i64 (upA A), .int .i64 B], .int .i64 0]) ∧ Wds w' (some ⟨g, 0, none⟩) n l ∧ w.heap.size ≤ g ∧ Below w.heap.size w w' := by
  have B0 : Hid (Lb w [.int .i64 K, .int .i64 L, .int .u8 S, .slice a n c, .bool true, .int .i64 A, .int .i64 B] _) := lb_new w (.int .i64 K) (.int .i64 L) (.int .u8 S) (.slice a n c) (.bool true) (.int .i64 A) (.int .i64 B) 26
  have HC : Hid (∀ W, Calls Try.prog 12 #[.agg #[.int .i64 K, .int .i64 L, .int .u8 S, .slice a n c, .bool true, .int .i64 A, .int .i64 B]] W fun e w' => e = .returned (.int .i64 0) ∧ Below W.heap.size W w') := fun W => by rw [← hE]; exact lcheck_any K L S a n c true A B W
  have a0 := (lkE_zero hE).1
  have a1 := (lkE_zero hE).2.1
  have hn := (lkE_zero hE).2.2.2.2.1
  have HP : Hid (∀ W, Wds W a n l → Calls Try.prog 29 #[.agg #[.int .i64 K, .int .i64 L, .int .u8 S, .slice a n c, .bool true, .int .i64 A, .int .i64 B]] W fun e w' => ∃ g, e = .returned (.agg #[.int .i64 K, .int .i64 L, .int .u8 S, .slice (some ⟨g, 0, none⟩) n n, .bool true, .int .i64 A, .int .i64 B]) ∧ Wds w' (some ⟨g, 0, none⟩) n l ∧ W.heap.size ≤ g ∧ g < w'.heap.size ∧ Below W.heap.size W w') := fun W hW => own_any K L S a n c l true A B W (le_big hn) hW
  have HR : Hid (Wds w a n l) := hr
  clear hE hr hn
  have mn : ∀ W : World, (Builtin.min_ #[3, 3] 3 #[.int .i64 (A + 1), .int .i64 100]).run Try.prog W = .ok (.int .i64 (upA A)) W := fun W => by
    rw [run_min_int2]
    unfold upA
    by_cases q : A < 100
    · rw [if_neg (by omega), if_pos q]
    · rw [if_pos (by omega), if_neg q]
  generalize upA A = m at mn
  go_enter Try.func10, Try.ntmps10
  go_wp2_with fail
  refine (HC.out _).mono ?_
  rintro e w0 ⟨rfl, hb⟩
  have X0 : Hid (Lb w [.int .i64 K, .int .i64 L, .int .u8 S, .slice a n c, .bool true, .int .i64 A, .int .i64 B] w0) := B0.out.step hb
  clear B0 hb
  obtain ⟨lx, x0, x1, x2, x3, x4, x5, x6⟩ := link_cells X0.out.box
  go_wp2_with fail
  clear lx x0 x1 x2 x3 x4 x5 x6
  refine (HP.out _ (HR.out.later X0.out.bel)).mono ?_
  rintro e w1 ⟨g, rfl, hw, hg, hlt, hb⟩
  have X1 : Hid (Lb w [.int .i64 K, .int .i64 L, .int .u8 S, .slice a n c, .bool true, .int .i64 A, .int .i64 B] w1) := X0.out.step hb
  have HG : Hid (w.heap.size + 2 ≤ g ∧ g < w1.heap.size ∧ Wds w1 (some ⟨g, 0, none⟩) n l) := ⟨by have := X0.out.out.lt; omega, hlt, hw⟩
  clear X0 hb hw hg hlt HR
  obtain ⟨lx, x0, x1, x2, x3, x4, x5, x6⟩ := link_cells X1.out.box
  obtain ⟨f0, f1, f2, f3, f4, f5, f6⟩ := link_froz X1.out.box
  go_upto_region 5 with fail
  clear lx x0 x1 x2 x3 x4 x5 x6 f0 f1 f2 f3 f4 f5 f6
  obtain ⟨w2, hw2, X2', s2, o2⟩ := X1.out.write (.int .i64 K) (.int .i64 L) (.int .u8 S) (.slice (some ⟨g, 0, none⟩) n n) (.bool true) (.int .i64 A) (.int .i64 B)
  rw [hw2]
  have X2 : Hid (Lb w [.int .i64 K, .int .i64 L, .int .u8 S, .slice (some ⟨g, 0, none⟩) n n, .bool true, .int .i64 A, .int .i64 B] w2) := X2'
  have HG2 : Hid (w.heap.size + 2 ≤ g ∧ g < w2.heap.size ∧ Wds w2 (some ⟨g, 0, none⟩) n l) := ⟨HG.out.1, by rw [s2]; exact HG.out.2.1, HG.out.2.2.block (by rw [s2]; exact Nat.le_refl _) (o2 g (by have := HG.out.1; omega))⟩
  clear hw2 X2' s2 o2 X1 HG
  obtain ⟨lx, x0, x1, x2, x3, x4, x5, x6⟩ := link_cells X2.out.box
  obtain ⟨f0, f1, f2, f3, f4, f5, f6⟩ := link_froz X2.out.box
  obtain ⟨ly, y0, y1, y2, y3, y4, y5, y6⟩ := link_cells X2.out.out
  obtain ⟨k0, k1, k2, k3, k4, k5, k6⟩ := link_froz X2.out.out
  go_wp2_with fail
  clear lx x0 x1 x2 x3 x4 x5 x6 f0 f1 f2 f3 f4 f5 f6 ly y0 y1 y2 y3 y4 y5 y6 k0 k1 k2 k3 k4 k5 k6
  obtain ⟨w3, hw3, C3, b3, s3, o3⟩ := (X2.out.set (j := 5) (by simp) (.int .i64 m)).put (.int .i64 K) (.int .i64 L) (.int .u8 S) (.slice (some ⟨g, 0, none⟩) n n) (.bool true) (.int .i64 m) (.int .i64 B)
  rw [hw3]
  obtain ⟨ly, y0, y1, y2, y3, y4, y5, y6⟩ := link_cells C3
  refine bodyPost_ret (by simp [results, Try.results10, go_sem, y0, y1, y2, y3, y4, y5, y6]; try rfl) rfl ?_
  have hs : w3.heap.size = w2.heap.size := by rw [s3]; simp [World.setCell]
  refine ⟨g, rfl, HG2.out.2.2.block (by omega) ?_, by have := HG2.out.1; omega, b3⟩
  rw [o3 g (by have := HG2.out.1; omega), Below.heap_setCell _ _ _ _ (by have := HG2.out.1; simp; omega)]

set_option maxHeartbeats 2000000 in
set_option maxRecDepth 100000 in
theorem tick_none (K L S : Int) (a : Option Addr) (n c : Nat) (l : Nat → Int) (A B : Int) (w : World) (hE : lkE K L S n false A B = 0) (hr : Wds w a n l) :
    Calls Try.prog 10 #[.agg #[.int .i64 K, .int .i64 L, .int .u8 S, .slice a n c, .bool false, .int .i64 A, .int .i64 B]] w fun e w' => ∃ g, e = .returned (.tuple #[.agg #[.int .i64 K, .int .i64 L, .int .u8 S, .slice (some ⟨g, 0, none⟩) n n, .bool false, .int .i64 A, .int .i64 B], .int .i64 0]) ∧ Wds w' (some ⟨g, 0, none⟩) n l ∧ w.heap.size ≤ g ∧ Below w.heap.size w w' := by
  have B0 : Hid (Lb w [.int .i64 K, .int .i64 L, .int .u8 S, .slice a n c, .bool false, .int .i64 A, .int .i64 B] _) := lb_new w (.int .i64 K) (.int .i64 L) (.int .u8 S) (.slice a n c) (.bool false) (.int .i64 A) (.int .i64 B) 26
  have HC : Hid (∀ W, Calls Try.prog 12 #[.agg #[.int .i64 K, .int .i64 L, .int .u8 S, .slice a n c, .bool false, .int .i64 A, .int .i64 B]] W fun e w' => e = .returned (.int .i64 0) ∧ Below W.heap.size W w') := fun W => by rw [← hE]; exact lcheck_any K L S a n c false A B W
  have a0 := (lkE_zero hE).1
  have a1 := (lkE_zero hE).2.1
  have hn := (lkE_zero hE).2.2.2.2.1
  have HP : Hid (∀ W, Wds W a n l → Calls Try.prog 29 #[.agg #[.int .i64 K, .int .i64 L, .int .u8 S, .slice a n c, .bool false, .int .i64 A, .int .i64 B]] W fun e w' => ∃ g, e = .returned (.agg #[.int .i64 K, .int .i64 L, .int .u8 S, .slice (some ⟨g, 0, none⟩) n n, .bool false, .int .i64 A, .int .i64 B]) ∧ Wds w' (some ⟨g, 0, none⟩) n l ∧ W.heap.size ≤ g ∧ g < w'.heap.size ∧ Below W.heap.size W w') := fun W hW => own_any K L S a n c l false A B W (le_big hn) hW
  have HR : Hid (Wds w a n l) := hr
  clear hE hr hn
  go_enter Try.func10, Try.ntmps10
  go_wp2_with fail
  refine (HC.out _).mono ?_
  rintro e w0 ⟨rfl, hb⟩
  have X0 : Hid (Lb w [.int .i64 K, .int .i64 L, .int .u8 S, .slice a n c, .bool false, .int .i64 A, .int .i64 B] w0) := B0.out.step hb
  clear B0 hb
  obtain ⟨lx, x0, x1, x2, x3, x4, x5, x6⟩ := link_cells X0.out.box
  go_wp2_with fail
  clear lx x0 x1 x2 x3 x4 x5 x6
  refine (HP.out _ (HR.out.later X0.out.bel)).mono ?_
  rintro e w1 ⟨g, rfl, hw, hg, hlt, hb⟩
  have X1 : Hid (Lb w [.int .i64 K, .int .i64 L, .int .u8 S, .slice a n c, .bool false, .int .i64 A, .int .i64 B] w1) := X0.out.step hb
  have HG : Hid (w.heap.size + 2 ≤ g ∧ g < w1.heap.size ∧ Wds w1 (some ⟨g, 0, none⟩) n l) := ⟨by have := X0.out.out.lt; omega, hlt, hw⟩
  clear X0 hb hw hg hlt HR
  obtain ⟨lx, x0, x1, x2, x3, x4, x5, x6⟩ := link_cells X1.out.box
  obtain ⟨f0, f1, f2, f3, f4, f5, f6⟩ := link_froz X1.out.box
  go_upto_region 5 with fail
  clear lx x0 x1 x2 x3 x4 x5 x6 f0 f1 f2 f3 f4 f5 f6
  obtain ⟨w2, hw2, X2', s2, o2⟩ := X1.out.write (.int .i64 K) (.int .i64 L) (.int .u8 S) (.slice (some ⟨g, 0, none⟩) n n) (.bool false) (.int .i64 A) (.int .i64 B)
  rw [hw2]
  have X2 : Hid (Lb w [.int .i64 K, .int .i64 L, .int .u8 S, .slice (some ⟨g, 0, none⟩) n n, .bool false, .int .i64 A, .int .i64 B] w2) := X2'
  have HG2 : Hid (w.heap.size + 2 ≤ g ∧ g < w2.heap.size ∧ Wds w2 (some ⟨g, 0, none⟩) n l) := ⟨HG.out.1, by rw [s2]; exact HG.out.2.1, HG.out.2.2.block (by rw [s2]; exact Nat.le_refl _) (o2 g (by have := HG.out.1; omega))⟩
  clear hw2 X2' s2 o2 X1 HG
  obtain ⟨lx, x0, x1, x2, x3, x4, x5, x6⟩ := link_cells X2.out.box
  obtain ⟨f0, f1, f2, f3, f4, f5, f6⟩ := link_froz X2.out.box
  obtain ⟨ly, y0, y1, y2, y3, y4, y5, y6⟩ := link_cells X2.out.out
  obtain ⟨k0, k1, k2, k3, k4, k5, k6⟩ := link_froz X2.out.out
  go_wp2_with fail
  clear lx x0 x1 x2 x3 x4 x5 x6 f0 f1 f2 f3 f4 f5 f6 ly y0 y1 y2 y3 y4 y5 y6 k0 k1 k2 k3 k4 k5 k6
  obtain ⟨w3, hw3, C3, b3, s3, o3⟩ := X2.out.put (.int .i64 K) (.int .i64 L) (.int .u8 S) (.slice (some ⟨g, 0, none⟩) n n) (.bool false) (.int .i64 A) (.int .i64 B)
  rw [hw3]
  obtain ⟨ly, y0, y1, y2, y3, y4, y5, y6⟩ := link_cells C3
  refine bodyPost_ret (by simp [results, Try.results10, go_sem, y0, y1, y2, y3, y4, y5, y6]; try rfl) rfl ?_
  exact ⟨g, rfl, HG2.out.2.2.block (by rw [s3]; exact Nat.le_refl _) (o3 g (by have := HG2.out.1; omega)), by have := HG2.out.1; omega, b3⟩

/-- a link's box alone -/
structure Bo (w : World) (V : List Value) (W : World) : Prop where
  box : Cells W w.heap.size V
  bel : Below w.heap.size w W
theorem bo_new (w : World) (vs : Array Value) (t : TypeId) : Bo w vs.toList (w.alloc (.cells vs t)) := ⟨cells_new w vs t, (Below.refl _ w).alloc (Nat.le_refl _) _⟩
theorem Bo.step {w W W' : World} {V : List Value} (h : Bo w V W) (hb : Below W.heap.size W W') : Bo w V W' := ⟨h.box.step hb, h.bel.trans (hb.mono h.bel.size)⟩

set_option maxHeartbeats 2000000 in
set_option maxRecDepth 100000 in
theorem words_bad (K L S : Int) (a : Option Addr) (n c : Nat) (h : Bool) (A B E m : Int) (w : World) (hE : lkE K L S n h A B = E) (h0 : E ≠ 0) :
    Calls Try.prog 11 #[.agg #[.int .i64 K, .int .i64 L, .int .u8 S, .slice a n c, .bool h, .int .i64 A, .int .i64 B], .int .i64 m] w fun e w' => e = .returned (.tuple #[.slice none 0 0, .int .i64 E]) ∧ Below w.heap.size w w' := by
  have B0 : Hid (Bo w [.int .i64 K, .int .i64 L, .int .u8 S, .slice a n c, .bool h, .int .i64 A, .int .i64 B] _) := bo_new w #[.int .i64 K, .int .i64 L, .int .u8 S, .slice a n c, .bool h, .int .i64 A, .int .i64 B] 26
  have HC : Hid (∀ W, Calls Try.prog 12 #[.agg #[.int .i64 K, .int .i64 L, .int .u8 S, .slice a n c, .bool h, .int .i64 A, .int .i64 B]] W fun e w' => e = .returned (.int .i64 E) ∧ Below W.heap.size W w') := fun W => by rw [← hE]; exact lcheck_any K L S a n c h A B W
  have q : (E != 0) = true := by simpa using h0
  clear hE h0
  go_enter Try.func11, Try.ntmps11
  go_wp2_with fail
  refine (HC.out _).mono ?_
  rintro e w1 ⟨rfl, hb⟩
  have X1 : Hid (Bo w [.int .i64 K, .int .i64 L, .int .u8 S, .slice a n c, .bool h, .int .i64 A, .int .i64 B] w1) := B0.out.step hb
  clear B0 hb
  go_wp2_with fail
  go_ret2
  exact ⟨rfl, X1.out.bel⟩

set_option maxHeartbeats 2000000 in
set_option maxRecDepth 100000 in
theorem words_none (K L S : Int) (a : Option Addr) (n c : Nat) (A B m : Int) (w : World) (hE : lkE K L S n false A B = 0) :
    Calls Try.prog 11 #[.agg #[.int .i64 K, .int .i64 L, .int .u8 S, .slice a n c, .bool false, .int .i64 A, .int .i64 B], .int .i64 m] w fun e w' => e = .returned (.tuple #[.slice none 0 0, .int .i64 7]) ∧ Below w.heap.size w w' := by
  have B0 : Hid (Bo w [.int .i64 K, .int .i64 L, .int .u8 S, .slice a n c, .bool false, .int .i64 A, .int .i64 B] _) := bo_new w #[.int .i64 K, .int .i64 L, .int .u8 S, .slice a n c, .bool false, .int .i64 A, .int .i64 B] 26
  have HC : Hid (∀ W, Calls Try.prog 12 #[.agg #[.int .i64 K, .int .i64 L, .int .u8 S, .slice a n c, .bool false, .int .i64 A, .int .i64 B]] W fun e w' => e = .returned (.int .i64 0) ∧ Below W.heap.size W w') := fun W => by rw [← hE]; exact lcheck_any K L S a n c false A B W
  clear hE
  go_enter Try.func11, Try.ntmps11
  go_wp2_with fail
  refine (HC.out _).mono ?_
  rintro e w1 ⟨rfl, hb⟩
  have X1 : Hid (Bo w [.int .i64 K, .int .i64 L, .int .u8 S, .slice a n c, .bool false, .int .i64 A, .int .i64 B] w1) := B0.out.step hb
  clear B0 hb
  obtain ⟨lx, x0, x1, x2, x3, x4, x5, x6⟩ := link_cells X1.out.box
  go_wp2_with fail
  go_ret2
  exact ⟨rfl, X1.out.bel⟩

set_option maxHeartbeats 2000000 in
set_option maxRecDepth 100000 in
theorem words_stale (K L S : Int) (a : Option Addr) (n c : Nat) (A B m : Int) (w : World) (hE : lkE K L S n true A B = 0) (hm : m < A) :
    Calls Try.prog 11 #[.agg #[.int .i64 K, .int .i64 L, .int .u8 S, .slice a n c, .bool true, .int .i64 A, .int .i64 B], .int .i64 m] w fun e w' => e = .returned (.tuple #[.slice none 0 0, .int .i64 6]) ∧ Below w.heap.size w w' := by
  have B0 : Hid (Bo w [.int .i64 K, .int .i64 L, .int .u8 S, .slice a n c, .bool true, .int .i64 A, .int .i64 B] _) := bo_new w #[.int .i64 K, .int .i64 L, .int .u8 S, .slice a n c, .bool true, .int .i64 A, .int .i64 B] 26
  have HC : Hid (∀ W, Calls Try.prog 12 #[.agg #[.int .i64 K, .int .i64 L, .int .u8 S, .slice a n c, .bool true, .int .i64 A, .int .i64 B]] W fun e w' => e = .returned (.int .i64 0) ∧ Below W.heap.size W w') := fun W => by rw [← hE]; exact lcheck_any K L S a n c true A B W
  have hm' : A > m := hm
  clear hE
  go_enter Try.func11, Try.ntmps11
  go_wp2_with fail
  refine (HC.out _).mono ?_
  rintro e w1 ⟨rfl, hb⟩
  have X1 : Hid (Bo w [.int .i64 K, .int .i64 L, .int .u8 S, .slice a n c, .bool true, .int .i64 A, .int .i64 B] w1) := B0.out.step hb
  clear B0 hb
  obtain ⟨lx, x0, x1, x2, x3, x4, x5, x6⟩ := link_cells X1.out.box
  go_wp2_with fail
  go_ret2
  exact ⟨rfl, X1.out.bel⟩

set_option maxHeartbeats 2000000 in
set_option maxRecDepth 100000 in
theorem words_ok (K L S : Int) (a : Option Addr) (n c : Nat) (l : Nat → Int) (A B m : Int) (w : World) (hE : lkE K L S n true A B = 0) (hr : Wds w a n l) (hm : A ≤ m) :
    Calls Try.prog 11 #[.agg #[.int .i64 K, .int .i64 L, .int .u8 S, .slice a n c, .bool true, .int .i64 A, .int .i64 B], .int .i64 m] w fun e w' => ∃ g, e = .returned (.tuple #[.slice (some ⟨g, 0, none⟩) n n, .int .i64 0]) ∧ Wds w' (some ⟨g, 0, none⟩) n l ∧ w.heap.size ≤ g ∧ Below w.heap.size w w' := by
  have B0 : Hid (Bo w [.int .i64 K, .int .i64 L, .int .u8 S, .slice a n c, .bool true, .int .i64 A, .int .i64 B] _) := bo_new w #[.int .i64 K, .int .i64 L, .int .u8 S, .slice a n c, .bool true, .int .i64 A, .int .i64 B] 26
  have HC : Hid (∀ W, Calls Try.prog 12 #[.agg #[.int .i64 K, .int .i64 L, .int .u8 S, .slice a n c, .bool true, .int .i64 A, .int .i64 B]] W fun e w' => e = .returned (.int .i64 0) ∧ Below W.heap.size W w') := fun W => by rw [← hE]; exact lcheck_any K L S a n c true A B W
  have hm' : ¬ A > m := by omega
  have hn := (lkE_zero hE).2.2.2.2.1
  have HP : Hid (∀ W, Wds W a n l → Calls Try.prog 30 #[.slice a n c] W fun e w' => ∃ g, e = .returned (.slice (some ⟨g, 0, none⟩) n n) ∧ Wds w' (some ⟨g, 0, none⟩) n l ∧ W.heap.size ≤ g ∧ g < w'.heap.size ∧ Below W.heap.size W w') := fun W hW => copied_any a n c l W (le_big hn) hW
  have HR : Hid (Wds w a n l) := hr
  clear hE hr hn hm
  go_enter Try.func11, Try.ntmps11
  go_wp2_with fail
  refine (HC.out _).mono ?_
  rintro e w1 ⟨rfl, hb⟩
  have X1 : Hid (Bo w [.int .i64 K, .int .i64 L, .int .u8 S, .slice a n c, .bool true, .int .i64 A, .int .i64 B] w1) := B0.out.step hb
  clear B0 hb
  obtain ⟨lx, x0, x1, x2, x3, x4, x5, x6⟩ := link_cells X1.out.box
  go_wp2_with fail
  clear lx x0 x1 x2 x3 x4 x5 x6
  refine (HP.out _ (HR.out.later X1.out.bel)).mono ?_
  rintro e w2 ⟨g, rfl, hw, hg, hlt, hb⟩
  have HG : Hid (Wds w2 (some ⟨g, 0, none⟩) n l ∧ w.heap.size ≤ g ∧ Below w.heap.size w w2) := ⟨hw, by have := X1.out.box.lt; omega, X1.out.bel.trans (hb.mono X1.out.bel.size)⟩
  clear X1 hb hw hg hlt HR
  go_wp2_with fail
  go_ret2
  exact ⟨g, rfl, HG.out⟩

end Go.Proofs.Ytiaolelkabbnmaa
