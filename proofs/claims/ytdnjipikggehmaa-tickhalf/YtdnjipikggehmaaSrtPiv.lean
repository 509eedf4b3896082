/-
  The library's sort at numbers of 64 bits: a pivot is chosen: some place of the range; the range stays as it was.
-/
import Derived.Test.YtdnjipikggehmaaSrt
import Derived.Deep.DeepCutAuto
namespace Go.Proofs.Ytdnjipikggehmaa
open Go.RowKit
set_option linter.unusedVariables false

/-- a box behind the row, with some number in it -/
def Box (blk sb : Nat) (w : World) : Prop := blk < sb ∧ ∃ s : Int, w.cell? ⟨sb, 0, none⟩ = some (.int .i64 s) ∧ w.frozen? ⟨sb, 0, none⟩ = false
theorem Box.drewN {blk sb : Nat} {w : World} (h : Box blk sb w) (q : Nat) : Box blk sb (w.drewN q) := h
theorem Box.set {blk sb : Nat} {w : World} (h : Box blk sb w) (v : Int) : Box blk sb (w.setCell ⟨sb, 0, none⟩ (.int .i64 v)) := by
  obtain ⟨h1, s, h2, h3⟩ := h
  exact ⟨h1, v, World.cell?_setCell_same _ _ _ h2, by rw [World.frozen?_setCell]; exact h3⟩
theorem Cur.box {N : Nat} {w0 : World} {blk off n : Nat} {d : Array Int} {w : World} (h : Cur N w0 blk off n d w) {sb : Nat} (hb : blk < sb) (v : Value) : Cur N w0 blk off n d (w.setCell ⟨sb, 0, none⟩ v) :=
  h.later ((Below.refl sb w).setCell (p := ⟨sb, 0, none⟩) (Nat.le_refl _) v) hb

set_option maxHeartbeats 1000000 in
set_option maxRecDepth 100000 in
theorem order_any (N : Nat) (w0 : World) (blk off n c a b lo hi sb : Nat) (d : Array Int) (w : World) (h : Cur N w0 blk off n d w) (hx : Box blk sb w) (ha : lo ≤ a ∧ a < hi) (hb : lo ≤ b ∧ b < hi) (hh : hi ≤ n) (hn : n ≤ 1048576) :
    Calls Try.prog 42 #[.slice (some ⟨blk, off, none⟩) n c, .int .i64 a, .int .i64 b, .pointer (some ⟨sb, 0, none⟩)] w fun e w' =>
      ∃ x y : Nat, e = .returned (.tuple #[.int .i64 x, .int .i64 y]) ∧ (lo ≤ x ∧ x < hi) ∧ (lo ≤ y ∧ y < hi) ∧ Cur N w0 blk off n d w' ∧ Box blk sb w' := by
  have z1 : (a : Int) < (n : Int) := by omega
  have z2 : (b : Int) < (n : Int) := by omega
  obtain ⟨G, hG, hcell, hfroz⟩ := h.fam
  have HG : Hid (∀ t, G t = d[t]!) := hG
  have HX : Hid (Box blk sb w) := hx
  obtain ⟨hbs, s, hc, hf⟩ := hx
  clear hG
  go_enter Try.func42, Try.ntmps42
  go_wp2_with fail
  go_quiet ((go_at_call 31; exact (less_any _ _ _).mono fun _ _ h => ⟨h.1, _, h.2⟩))
  have hc2 : (w.drewN nq).cell? ⟨sb, 0, none⟩ = some (.int .i64 s) := hc
  have hf2 : (w.drewN nq).frozen? ⟨sb, 0, none⟩ = false := hf
  have h2 := h.drewN nq
  have HX2 : Hid (Box blk sb (w.drewN nq)) := HX
  clear hcell hfroz h HX hc hf
  generalize w.drewN nq = w2 at hc2 hf2 h2 HX2 ⊢
  go_wp2_with fail
  · go_ret2
    exact ⟨b, a, rfl, hb, ha, h2.box hbs _, HX2.out.set _⟩
  · go_ret2
    exact ⟨a, b, rfl, ha, hb, h2, HX2.out⟩

set_option maxHeartbeats 1000000 in
set_option maxRecDepth 100000 in
theorem median_any (N : Nat) (w0 : World) (blk off n c x y z lo hi sb : Nat) (d : Array Int) (w : World) (h : Cur N w0 blk off n d w) (hx : Box blk sb w) (h1 : lo ≤ x ∧ x < hi) (h2 : lo ≤ y ∧ y < hi) (h3 : lo ≤ z ∧ z < hi) (hh : hi ≤ n) (hn : n ≤ 1048576) :
    Calls Try.prog 40 #[.slice (some ⟨blk, off, none⟩) n c, .int .i64 x, .int .i64 y, .int .i64 z, .pointer (some ⟨sb, 0, none⟩)] w fun e w' =>
      ∃ m : Nat, e = .returned (.int .i64 m) ∧ (lo ≤ m ∧ m < hi) ∧ Cur N w0 blk off n d w' ∧ Box blk sb w' := by
  have HX : Hid (Box blk sb w) := hx
  clear hx
  go_enter Try.func40, Try.ntmps40
  go_wp2_with fail
  refine (order_any N w0 blk off n c x y lo hi sb d _ h HX.out h1 h2 hh hn).mono ?_
  rintro e w1 ⟨a1, a2, rfl, k1, k2, C1, X1⟩
  have HX1 : Hid (Box blk sb w1) := X1
  clear X1
  go_wp2_with fail
  refine (order_any N w0 blk off n c a2 z lo hi sb d _ C1 HX1.out k2 h3 hh hn).mono ?_
  rintro e w2 ⟨b1, b2, rfl, l1, l2, C2, X2⟩
  have HX2 : Hid (Box blk sb w2) := X2
  clear X2
  go_wp2_with fail
  refine (order_any N w0 blk off n c a1 b1 lo hi sb d _ C2 HX2.out k1 l1 hh hn).mono ?_
  rintro e w3 ⟨c1, c2, rfl, m1, m2, C3, X3⟩
  have HX3 : Hid (Box blk sb w3) := X3
  clear X3
  go_wp2_with fail
  go_ret
  exact ⟨c2, rfl, m2, C3, HX3.out⟩

set_option maxHeartbeats 1000000 in
set_option maxRecDepth 100000 in
theorem adjacent_any (N : Nat) (w0 : World) (blk off n c x lo hi sb : Nat) (d : Array Int) (w : World) (h : Cur N w0 blk off n d w) (hx : Box blk sb w) (h1 : lo + 1 ≤ x ∧ x + 1 < hi) (hh : hi ≤ n) (hn : n ≤ 1048576) :
    Calls Try.prog 39 #[.slice (some ⟨blk, off, none⟩) n c, .int .i64 x, .pointer (some ⟨sb, 0, none⟩)] w fun e w' =>
      ∃ m : Nat, e = .returned (.int .i64 m) ∧ (lo ≤ m ∧ m < hi) ∧ Cur N w0 blk off n d w' ∧ Box blk sb w' := by
  have HX : Hid (Box blk sb w) := hx
  clear hx
  have e1 : (x : Int) - 1 = ((x - 1 : Nat) : Int) := by omega
  have e2 : (x : Int) + 1 = ((x + 1 : Nat) : Int) := by omega
  have C := median_any N w0 blk off n c (x - 1) x (x + 1) lo hi sb d w h HX.out (by omega) (by omega) (by omega) hh hn
  rw [← e1, ← e2] at C
  clear e1 e2
  go_enter Try.func39, Try.ntmps39
  go_wp2_with fail
  refine C.mono ?_
  rintro e w1 ⟨m, rfl, k1, C1, X1⟩
  have HX1 : Hid (Box blk sb w1) := X1
  clear X1
  go_wp2_with fail
  go_ret
  exact ⟨m, rfl, k1, C1, HX1.out⟩

theorem box_new (w : World) {blk : Nat} {v : Int} {t : TypeId} (h : blk < w.heap.size) : Box blk w.heap.size (w.alloc (.cells #[.int .i64 v] t)) :=
  ⟨h, v, by go_simp, by go_simp⟩

set_option maxHeartbeats 2000000 in
set_option maxRecDepth 100000 in
theorem pivot_any (N : Nat) (w0 : World) (blk off n c a b : Nat) (d : Array Int) (w : World) (h : Cur N w0 blk off n d w) (hab : a + 12 < b) (hb : b ≤ n) (hn : n ≤ 1048576) :
    Calls Try.prog 28 #[.slice (some ⟨blk, off, none⟩) n c, .int .i64 a, .int .i64 b] w fun e w' =>
      ∃ (p : Nat) (t : Int), e = .returned (.tuple #[.int .i64 p, .int .i64 t]) ∧ (a ≤ p ∧ p < b) ∧ (t = 0 ∨ t = 1 ∨ t = 2) ∧ Cur N w0 blk off n d w' := by
  obtain ⟨l, hl⟩ : ∃ l : Nat, b = a + l := ⟨b - a, by omega⟩
  obtain ⟨q, hq⟩ : ∃ q : Nat, q = l / 4 := ⟨_, rfl⟩
  have zl : (b : Int) - (a : Int) = (l : Int) := by omega
  have zq : (l : Int) / 4 = (q : Int) := by omega
  have z8 : (8 : Int) ≤ (l : Int) := by omega
  have HL : Hid (b = a + l ∧ q = l / 4) := ⟨hl, hq⟩
  clear hl hq
  go_enter Try.func28, Try.ntmps28
  go_upto_if 34 with fail
  have hC1 : Cur N w0 blk off n d (w.alloc (.cells #[.int .i64 0] 3)) := h.later ((Below.refl w.heap.size w).alloc (Nat.le_refl _) _) h.lt
  have hX1 : Hid (Box blk w.heap.size (w.alloc (.cells #[.int .i64 0] 3))) := box_new w h.lt
  generalize w.alloc (.cells #[.int .i64 0] 3) = w1 at hC1 hX1 ⊢
  clear h
  generalize w.heap.size = sb at hX1 ⊢
  go_cut [10, 11, 12] (fun s t u wc => ∃ x y z : Nat, s = .int .i64 x ∧ t = .int .i64 y ∧ u = .int .i64 z ∧ (a ≤ x ∧ x < b) ∧ (a ≤ y ∧ y < b) ∧ (a ≤ z ∧ z < b) ∧ Cur N w0 blk off n d wc ∧ Hid (Box blk sb wc))
  case first =>
    obtain ⟨hl, hq⟩ := HL.out
    by_cases h50 : 50 ≤ l
    · have z50 : (50 : Int) ≤ (l : Int) := by omega
      have A1 := fun w1 C X => adjacent_any N w0 blk off n c (a + q) a b sb d w1 C X (by omega) (by omega) hn
      have A2 := fun w1 C X => adjacent_any N w0 blk off n c (a + q * 2) a b sb d w1 C X (by omega) (by omega) hn
      have A3 := fun w1 C X => adjacent_any N w0 blk off n c (a + q * 3) a b sb d w1 C X (by omega) (by omega) hn
      clear hl hq
      go_wp2_with fail
      refine (A1 _ hC1 hX1.out).mono ?_
      rintro e w2 ⟨x, rfl, k1, C2, X2⟩
      have hX2 : Hid (Box blk sb w2) := X2
      clear X2
      go_wp2_with fail
      refine (A2 _ C2 hX2.out).mono ?_
      rintro e w3 ⟨y, rfl, k2, C3, X3⟩
      have hX3 : Hid (Box blk sb w3) := X3
      clear X3
      go_wp2_with fail
      refine (A3 _ C3 hX3.out).mono ?_
      rintro e w4 ⟨z, rfl, k3, C4, X4⟩
      have hX4 : Hid (Box blk sb w4) := X4
      clear X4
      go_wp2_with fail
      go_meet
      exact ⟨x, y, z, rfl, rfl, rfl, k1, k2, k3, C4, hX4⟩
    · have z50 : ¬ (50 : Int) ≤ (l : Int) := by omega
      go_wp2_with fail
      go_meet
      exact ⟨a + q, a + q * 2, a + q * 3, by congr 1, by congr 1, by congr 1, by omega, by omega, by omega, hC1, hX1⟩
  case rest =>
    clear hC1 hX1
    obtain ⟨x, y, z, rfl, rfl, rfl, k1, k2, k3, C2, hX2⟩ := hcut
    go_wp2_with fail
    refine (median_any N w0 blk off n c x y z a b sb d _ C2 hX2.out k1 k2 k3 (by omega) hn).mono ?_
    rintro e w3 ⟨m, rfl, k4, C3, hb3, s, hc, hf⟩
    clear C2 hX2
    go_wp2_with fail
    · go_ret2
      exact ⟨m, 1, rfl, k4, by omega, C3⟩
    · go_ret2
      exact ⟨m, 2, rfl, k4, by omega, C3⟩
    · go_ret2
      exact ⟨m, 0, rfl, k4, by omega, C3⟩

end Go.Proofs.Ytdnjipikggehmaa
