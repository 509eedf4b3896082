/-
  How far numbers are from each other: vote.apart, Spread (slices.Max, slices.Min) and Far, and the document's own.
-/
import Derived.Test.YtohmejfjmpnadaaVotMid
import Derived.Deep.OwnRows
namespace Go.Proofs.Ytohmejfjmpnadaa
open Go.RowKit
set_option linter.unusedVariables false

/-- numbers of 32 bits -/
def In32 (l : Nat → Int) : Prop := ∀ j, -2147483648 ≤ l j ∧ l j ≤ 2147483647
/-- the greatest, the least of n -/
def Mx (l : Nat → Int) (n : Nat) (M : Int) : Prop := (∀ i, i < n → l i ≤ M) ∧ ∃ i, i < n ∧ l i = M
def Mn (l : Nat → Int) (n : Nat) (M : Int) : Prop := (∀ i, i < n → M ≤ l i) ∧ ∃ i, i < n ∧ l i = M
theorem mx_one (l : Nat → Int) : Mx l 1 (l 0) := by
  refine ⟨fun i hi => ?_, 0, by omega, rfl⟩
  have : i = 0 := by omega
  subst this
  exact Int.le_refl _
theorem mn_one (l : Nat → Int) : Mn l 1 (l 0) := by
  refine ⟨fun i hi => ?_, 0, by omega, rfl⟩
  have : i = 0 := by omega
  subst this
  exact Int.le_refl _
theorem mx_more {l : Nat → Int} {n : Nat} {M : Int} (h : Mx l n M) : Mx l (n + 1) (if l n > M then l n else M) := by
  obtain ⟨h1, i, hi, e⟩ := h
  by_cases q : l n > M
  · rw [if_pos q]
    refine ⟨fun j hj => ?_, n, by omega, rfl⟩
    by_cases ej : j = n
    · subst ej; exact Int.le_refl _
    · have := h1 j (by omega); omega
  · rw [if_neg q]
    refine ⟨fun j hj => ?_, i, by omega, e⟩
    by_cases ej : j = n
    · subst ej; omega
    · exact h1 j (by omega)
theorem mn_more {l : Nat → Int} {n : Nat} {M : Int} (h : Mn l n M) : Mn l (n + 1) (if l n < M then l n else M) := by
  obtain ⟨h1, i, hi, e⟩ := h
  by_cases q : l n < M
  · rw [if_pos q]
    refine ⟨fun j hj => ?_, n, by omega, rfl⟩
    by_cases ej : j = n
    · subst ej; exact Int.le_refl _
    · have := h1 j (by omega); omega
  · rw [if_neg q]
    refine ⟨fun j hj => ?_, i, by omega, e⟩
    by_cases ej : j = n
    · subst ej; omega
    · exact h1 j (by omega)
theorem mx_there (l : Nat → Int) (n : Nat) : ∃ M, Mx l (n + 1) M := by
  induction n with
  | zero => exact ⟨_, mx_one l⟩
  | succ n ih => obtain ⟨M, h⟩ := ih; exact ⟨_, mx_more h⟩
theorem mn_there (l : Nat → Int) (n : Nat) : ∃ M, Mn l (n + 1) M := by
  induction n with
  | zero => exact ⟨_, mn_one l⟩
  | succ n ih => obtain ⟨M, h⟩ := ih; exact ⟨_, mn_more h⟩
theorem mx_uni {l : Nat → Int} {n : Nat} {M M' : Int} (h : Mx l n M) (h' : Mx l n M') : M = M' := by
  obtain ⟨h1, i, hi, e⟩ := h
  obtain ⟨h2, j, hj, e'⟩ := h'
  have := h1 j hj
  have := h2 i hi
  omega
theorem mn_uni {l : Nat → Int} {n : Nat} {M M' : Int} (h : Mn l n M) (h' : Mn l n M') : M = M' := by
  obtain ⟨h1, i, hi, e⟩ := h
  obtain ⟨h2, j, hj, e'⟩ := h'
  have := h1 j hj
  have := h2 i hi
  omega
theorem absI_eq (a : Int) : absI a = if a < 0 then -a else a := rfl
theorem absI_le {a b : Int} (h1 : a ≤ b) (h2 : -a ≤ b) : absI a ≤ b := by unfold absI; split <;> omega
theorem absI_nonneg (a : Int) : 0 ≤ absI a := by unfold absI; split <;> omega
theorem absI_up {a b : Int} (h : absI a ≤ b) : a ≤ b ∧ -a ≤ b := by unfold absI at h; split at h <;> omega
/-- how far the greatest is from the least; 0 of none -/
def Spr (l : Nat → Int) (n : Nat) (S : Int) : Prop := (n = 0 ∧ S = 0) ∨ (0 < n ∧ ∃ M m, Mx l n M ∧ Mn l n m ∧ S = M - m)
theorem spr_there (l : Nat → Int) (n : Nat) : ∃ S, Spr l n S := by
  cases n with
  | zero => exact ⟨0, Or.inl ⟨rfl, rfl⟩⟩
  | succ n =>
    obtain ⟨M, hM⟩ := mx_there l n
    obtain ⟨m, hm⟩ := mn_there l n
    exact ⟨M - m, Or.inr ⟨by omega, M, m, hM, hm, rfl⟩⟩
theorem Spr.far {l : Nat → Int} {n : Nat} {S : Int} (h : Spr l n S) {i j : Nat} (hi : i < n) (hj : j < n) : absI (l i - l j) ≤ S := by
  rcases h with ⟨h, _⟩ | ⟨_, M, m, ⟨h1, _⟩, ⟨h2, _⟩, rfl⟩
  · omega
  · have a1 := h1 i hi
    have a2 := h1 j hj
    have a3 := h2 i hi
    have a4 := h2 j hj
    exact absI_le (by omega) (by omega)
theorem Spr.bounds {l : Nat → Int} {n : Nat} {S : Int} (h : Spr l n S) (hl : In32 l) : 0 ≤ S ∧ S ≤ 4294967295 := by
  rcases h with ⟨_, rfl⟩ | ⟨hn, M, m, ⟨h1, i, _, e1⟩, ⟨h2, j, _, e2⟩, rfl⟩
  · omega
  · have a1 := h1 0 hn
    have a2 := h2 0 hn
    obtain ⟨b1, b2⟩ := hl i
    obtain ⟨b3, b4⟩ := hl j
    omega

set_option maxHeartbeats 400000 in
theorem vapart_any (a b : Int) (a1 : -2147483648 ≤ a) (a2 : a ≤ 2147483647) (b1 : -2147483648 ≤ b) (b2 : b ≤ 2147483647) (w : World) :
    Calls Try.prog 25 #[.int .i32 a, .int .i32 b] w fun e w' => e = .returned (.int .i64 (absI (a - b))) ∧ w' = w := by
  rcases Int.lt_trichotomy a b with h | h | h
  · have h' : ¬ b < a := by omega
    go_enter Try.func25, Try.ntmps25
    go_wp2
    go_ret
    exact ⟨ret_int (by unfold absI; rw [if_pos (by omega)]; omega), rfl⟩
  · subst h
    go_enter Try.func25, Try.ntmps25
    go_wp2
    go_ret
    exact ⟨ret_int (by unfold absI; rw [if_neg (by omega)]; omega), rfl⟩
  · have h' : ¬ a < b := by omega
    go_enter Try.func25, Try.ntmps25
    go_wp2
    go_ret
    exact ⟨ret_int (by unfold absI; rw [if_neg (by omega)]), rfl⟩

set_option maxHeartbeats 400000 in
theorem rapart_any (a b : Int) (a1 : -2147483648 ≤ a) (a2 : a ≤ 2147483647) (b1 : -2147483648 ≤ b) (b2 : b ≤ 2147483647) (w : World) :
    Calls Try.prog 28 #[.int .i32 a, .int .i32 b] w fun e w' => e = .returned (.int .i64 (absI (a - b))) ∧ w' = w := by
  rcases Int.lt_or_le (a - b) 0 with h | h
  · go_enter Try.func28, Try.ntmps28
    go_wp2
    go_ret
    exact ⟨ret_int (by unfold absI; rw [if_pos h]), rfl⟩
  · go_enter Try.func28, Try.ntmps28
    go_wp2
    go_ret
    exact ⟨ret_int (by unfold absI; rw [if_neg (by omega)]), rfl⟩

set_option maxHeartbeats 1000000 in
theorem max_any (b off n c : Nat) (l : Nat → Int) (M : Int) (w : World) (hn : 0 < n) (hm : n ≤ 64) (hM : Mx l n M) (hl : ∀ t, t < n → w.cell? ⟨b, off + t, none⟩ = some (.int .i32 (l t))) :
    Calls Try.prog 26 #[.slice (some ⟨b, off, none⟩) n c] w fun e w' => e = .returned (.int .i32 M) ∧ w' = w := by
  have HL : Hid (∀ t, t < n → w.cell? ⟨b, off + t, none⟩ = some (.int .i32 (l t))) := hl
  have HM : Hid (Mx l n M) := hM
  have M1 : Hid (Mx l 1 (l 0)) := mx_one l
  have z0 : ¬ (n : Int) < 1 := by omega
  have z1 : (0 : Int) < (n : Int) := by omega
  have x0 : w.cell? ⟨b, off, none⟩ = some (.int .i32 (l 0)) := hl 0 hn
  clear hl hM
  go_enter Try.func26, Try.ntmps26
  go_wp2_with fail
  clear x0
  go_loopg [3, 4] (n + 1) (fun g s u wr => ∃ (q : Nat) (x : Int), s = .int .i32 x ∧ u = .int .i64 q ∧ n - q < g ∧ q ≤ n ∧ wr = w ∧ Hid (Mx l q x))
  case atStart => exact ⟨1, l 0, rfl, rfl, by omega, by omega, rfl, M1⟩
  case round =>
    obtain ⟨q, x, rfl, rfl, hg, hq, rfl, MQ⟩ := hrel
    by_cases hlt : q < n
    · have z2 : (q : Int) < (n : Int) := by omega
      have x1 := HL.out q hlt
      have M2 : Hid (Mx l (q + 1) (if l q > x then l q else x)) := mx_more MQ.out
      obtain ⟨z, hz, hmax⟩ : ∃ z : Int, (if l q > x then l q else x) = z ∧ ∀ (ts : Array TypeId) (t : TypeId) (W : World), (Builtin.max_ ts t #[.int .i32 x, .int .i32 (l q)]).run Try.prog W = .ok (.int .i32 z) W := ⟨_, rfl, fun ts t W => run_max_int2 W ts t .i32 .i32 x (l q)⟩
      rw [hz] at M2
      clear hz
      generalize l q = y at x1 hmax
      go_wp2_with fail
      go_roundg (n - (q + 1) + 1)
      case measure => omega
      case rel => exact ⟨q + 1, z, rfl, by go_num, by omega, by omega, rfl, M2⟩
    · have z2 : ¬ (q : Int) < (n : Int) := by omega
      obtain rfl : q = n := by omega
      have E1 : Hid (x = M) := mx_uni MQ.out HM.out
      go_wp2_with fail
      go_ret
      exact ⟨by rw [E1.out]; rfl, rfl⟩

set_option maxHeartbeats 1000000 in
theorem min_any (b off n c : Nat) (l : Nat → Int) (M : Int) (w : World) (hn : 0 < n) (hm : n ≤ 64) (hM : Mn l n M) (hl : ∀ t, t < n → w.cell? ⟨b, off + t, none⟩ = some (.int .i32 (l t))) :
    Calls Try.prog 27 #[.slice (some ⟨b, off, none⟩) n c] w fun e w' => e = .returned (.int .i32 M) ∧ w' = w := by
  have HL : Hid (∀ t, t < n → w.cell? ⟨b, off + t, none⟩ = some (.int .i32 (l t))) := hl
  have HM : Hid (Mn l n M) := hM
  have M1 : Hid (Mn l 1 (l 0)) := mn_one l
  have z0 : ¬ (n : Int) < 1 := by omega
  have z1 : (0 : Int) < (n : Int) := by omega
  have x0 : w.cell? ⟨b, off, none⟩ = some (.int .i32 (l 0)) := hl 0 hn
  clear hl hM
  go_enter Try.func27, Try.ntmps27
  go_wp2_with fail
  clear x0
  go_loopg [3, 4] (n + 1) (fun g s u wr => ∃ (q : Nat) (x : Int), s = .int .i32 x ∧ u = .int .i64 q ∧ n - q < g ∧ q ≤ n ∧ wr = w ∧ Hid (Mn l q x))
  case atStart => exact ⟨1, l 0, rfl, rfl, by omega, by omega, rfl, M1⟩
  case round =>
    obtain ⟨q, x, rfl, rfl, hg, hq, rfl, MQ⟩ := hrel
    by_cases hlt : q < n
    · have z2 : (q : Int) < (n : Int) := by omega
      have x1 := HL.out q hlt
      have M2 : Hid (Mn l (q + 1) (if l q < x then l q else x)) := mn_more MQ.out
      obtain ⟨z, hz, hmin⟩ : ∃ z : Int, (if l q < x then l q else x) = z ∧ ∀ (ts : Array TypeId) (t : TypeId) (W : World), (Builtin.min_ ts t #[.int .i32 x, .int .i32 (l q)]).run Try.prog W = .ok (.int .i32 z) W := ⟨_, rfl, fun ts t W => run_min_int2 W ts t .i32 .i32 x (l q)⟩
      rw [hz] at M2
      clear hz
      generalize l q = y at x1 hmin
      go_wp2_with fail
      go_roundg (n - (q + 1) + 1)
      case measure => omega
      case rel => exact ⟨q + 1, z, rfl, by go_num, by omega, by omega, rfl, M2⟩
    · have z2 : ¬ (q : Int) < (n : Int) := by omega
      obtain rfl : q = n := by omega
      have E1 : Hid (x = M) := mn_uni MQ.out HM.out
      go_wp2_with fail
      go_ret
      exact ⟨by rw [E1.out]; rfl, rfl⟩

set_option maxHeartbeats 1000000 in
theorem spread_large (a : Option Addr) (n c : Nat) (h : 64 < n) (w : World) : Calls Try.prog 12 #[.slice a n c] w fun e w' => e = .returned (.tuple #[.int .i64 0, .int .i64 2]) ∧ w' = w := by
  have z2 : (64 : Int) < (n : Int) := by omega
  go_enter Try.func12, Try.ntmps12
  go_wp2_with fail
  go_ret2
  exact ⟨rfl, rfl⟩

set_option maxHeartbeats 1000000 in
theorem spread_any (a : Option Addr) (n c : Nat) (l : Nat → Int) (S : Int) (w : World) (hm : n ≤ 64) (hi : In32 l) (hS : Spr l n S) (h : R32 w a n l) :
    Calls Try.prog 12 #[.slice a n c] w fun e w' => e = .returned (.tuple #[.int .i64 S, .int .i64 0]) ∧ w' = w := by
  have z2 : ¬ (64 : Int) < (n : Int) := by omega
  rcases hS with ⟨rfl, rfl⟩ | ⟨hn, M, m, h1, h2, rfl⟩
  · go_enter Try.func12, Try.ntmps12
    go_wp2_with fail
    go_ret2
    exact ⟨rfl, rfl⟩
  · obtain ⟨b, off, rfl, hb, hc⟩ := h hn
    have z3 : ((n : Int) == 0) = false := by simp; omega
    have C1 := fun W hl => max_any b off n c l M W hn hm h1 hl
    have C2 := fun W hl => min_any b off n c l m W hn hm h2 hl
    have HC : Hid (∀ j : Nat, j < n → w.cell? ⟨b, off + j, none⟩ = some (.int .i32 (l j))) := hc
    obtain ⟨g1, i, _, e1⟩ := h1
    obtain ⟨g2, j, _, e2⟩ := h2
    have E : Hid (absI (M - m) = M - m) := by
      have a1 := g1 0 hn
      have a2 := g2 0 hn
      show absI (M - m) = M - m
      unfold absI
      rw [if_neg (by omega)]
    obtain ⟨b1, b2⟩ := hi i
    obtain ⟨b3, b4⟩ := hi j
    rw [e1] at b1 b2
    rw [e2] at b3 b4
    clear hc g1 g2 e1 e2 hi
    go_enter Try.func12, Try.ntmps12
    go_wp2_with fail
    refine (C1 _ HC.out).mono ?_
    rintro r w1 ⟨rfl, rfl⟩
    go_wp2_with fail
    refine (C2 _ HC.out).mono ?_
    rintro r w2 ⟨rfl, rfl⟩
    go_wp2_with fail
    refine (vapart_any M m b1 b2 b3 b4 _).mono ?_
    rintro r w3 ⟨rfl, rfl⟩
    go_wp2_with fail
    go_ret2
    exact ⟨by rw [E.out]; rfl, rfl⟩

set_option maxHeartbeats 4000000 in
set_option maxRecDepth 100000 in
theorem rspread_any (a : Option Addr) (n c : Nat) (l : Nat → Int) (S : Int) (w : World) (hm : n ≤ 64) (hi : In32 l) (hS : Spr l n S) (h : R32 w a n l) :
    Calls Try.prog 13 #[.slice a n c] w fun e w' => e = .returned (.int .i64 S) ∧ w' = w := by
  have HR : Hid (R32 w a n l) := h
  have HI : Hid (In32 l) := hi
  have HS : Hid (Spr l n S) := hS
  obtain ⟨s1, s2⟩ := hS.bounds hi
  clear h hi hS
  go_enter Try.func13, Try.ntmps13
  go_wp2_with fail
  go_loopg [3, 10] (n + 1) (fun g s u wr => ∃ (j : Nat) (D : Int), s = .int .i64 D ∧ u = .int .i64 j ∧ n - j < g ∧ j ≤ n ∧ wr = w ∧ 0 ≤ D ∧ D ≤ S ∧ Hid (∀ i k, i < j → k < n → absI (l i - l k) ≤ D))
  case atStart => exact ⟨0, 0, rfl, rfl, by omega, by omega, rfl, by omega, s1, fun i k hi => absurd hi (by omega)⟩
  case round =>
    obtain ⟨j, D, rfl, rfl, hg, hj, rfl, d1, d2, HD⟩ := hrel
    by_cases hlt : j < n
    · have z1 : (j : Int) < (n : Int) := by omega
      obtain ⟨b, off, rfl, hb, hc⟩ := HR.out (by omega)
      have HC : Hid (∀ j : Nat, j < n → wr.cell? ⟨b, off + j, none⟩ = some (.int .i32 (l j))) := hc
      have x0 := hc j hlt
      clear hc
      obtain ⟨x, hx⟩ : ∃ x, x = l j := ⟨_, rfl⟩
      rw [← hx] at x0
      obtain ⟨a1, a2⟩ := HI.out j
      rw [← hx] at a1 a2
      have HX : Hid (x = l j) := hx
      clear hx
      go_wp2_with fail
      go_loopg [3, 16] (n + 1) (fun g s u wr2 => ∃ (q : Nat) (D2 : Int), s = .int .i64 D2 ∧ u = .int .i64 q ∧ n - q < g ∧ q ≤ n ∧ wr2 = wr ∧ D ≤ D2 ∧ D2 ≤ S ∧ Hid (∀ k, k < q → absI (l j - l k) ≤ D2))
      case atStart => exact ⟨0, D, rfl, rfl, by omega, by omega, rfl, by omega, by omega, fun k hk => absurd hk (by omega)⟩
      case round =>
        obtain ⟨q, D2, rfl, rfl, hg2, hq, rfl, e1, e2, HD2⟩ := hrel
        try clear ‹wr = wr›
        by_cases hlt2 : q < n
        · have z2 : (q : Int) < (n : Int) := by omega
          have x1 := HC.out q hlt2
          clear x0
          obtain ⟨y, hy⟩ : ∃ y, y = l q := ⟨_, rfl⟩
          rw [← hy] at x1
          obtain ⟨a3, a4⟩ := HI.out q
          rw [← hy] at a3 a4
          have n1 : absI (x - y) ≤ S := by rw [HX.out, hy]; exact HS.out.far hlt hlt2
          have n2 : 0 ≤ absI (x - y) := absI_nonneg _
          have CA := rapart_any x y a1 a2 a3 a4
          obtain ⟨A, hA⟩ : ∃ A, A = absI (x - y) := ⟨_, rfl⟩
          rw [← hA] at n1 n2 CA
          obtain ⟨z, hz, hmax⟩ : ∃ z : Int, (if A > D2 then A else D2) = z ∧ ∀ (ts : Array TypeId) (t : TypeId) (W : World), (Builtin.max_ ts t #[.int .i64 D2, .int .i64 A]).run Try.prog W = .ok (.int .i64 z) W := ⟨_, rfl, fun ts t W => run_max_int2 W ts t .i64 .i64 D2 A⟩
          have f1 : D ≤ z := by rw [← hz]; split <;> omega
          have f2 : z ≤ S := by rw [← hz]; split <;> omega
          have f3 : D2 ≤ z := by rw [← hz]; split <;> omega
          have f4 : A ≤ z := by rw [← hz]; split <;> omega
          have F : Hid (∀ k, k < q + 1 → absI (l j - l k) ≤ z) := fun k hk => by
            by_cases e : k = q
            · subst e
              rw [← HX.out, ← hy, ← hA]
              exact f4
            · exact Int.le_trans (HD2.out k (by omega)) f3
          clear hz hy hA f3 f4
          go_wp2_with fail
          refine (CA _).mono ?_
          rintro r w1 ⟨rfl, rfl⟩
          go_wp2_with fail
          go_roundg (n - (q + 1) + 1)
          case measure => omega
          case rel => exact ⟨q + 1, z, rfl, by go_num, by omega, by omega, rfl, f1, f2, F⟩
        · have z2 : ¬ (q : Int) < (n : Int) := by omega
          obtain rfl : q = n := by omega
          go_wp2_with fail
          go_roundg (q - (j + 1) + 1)
          case measure => omega
          case rel => exact ⟨j + 1, D2, rfl, by go_num, by omega, by omega, rfl, by omega, e2, fun i k hi hk => by
            by_cases e : i = j
            · subst e; exact HD2.out k hk
            · exact Int.le_trans (HD.out i k (by omega) hk) e1⟩
    · have z1 : ¬ (j : Int) < (n : Int) := by omega
      obtain rfl : j = n := by omega
      have E1 : Hid (D = S) := by
        show D = S
        rcases HS.out with ⟨h0, rfl⟩ | ⟨_, M, m, ⟨_, i, hi, e1⟩, ⟨_, k, hk, e2⟩, e3⟩
        · omega
        · have := (absI_up (HD.out i k hi hk)).1
          omega
      go_wp2_with fail
      go_ret
      exact ⟨by rw [E1.out]; rfl, rfl⟩

end Go.Proofs.Ytohmejfjmpnadaa
