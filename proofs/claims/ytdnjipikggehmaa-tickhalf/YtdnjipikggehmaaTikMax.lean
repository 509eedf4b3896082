/-
  The greatest and the least of numbers of 64 bits: slices.Max, slices.Min; where one of them is: slices.Index.
-/
import Derived.Test.YtdnjipikggehmaaTik
import Derived.Deep.OwnRows
namespace Go.Proofs.Ytdnjipikggehmaa
open Go.RowKit
set_option linter.unusedVariables false

/-- the greatest, the least of n -/
def Mx (l : Nat → Int) (n : Nat) (M : Int) : Prop := (∀ i, i < n → l i ≤ M) ∧ ∃ i, i < n ∧ l i = M
def Mn (l : Nat → Int) (n : Nat) (M : Int) : Prop := (∀ i, i < n → M ≤ l i) ∧ ∃ i, i < n ∧ l i = M
theorem mx_one (l : Nat → Int) : Mx l 1 (l 0) := by
  refine ⟨fun i hi => ?_, 0, by omega, rfl⟩
  have : i = 0 := by omega
  subst this
  exact Int.le_refl _
theorem mn_one (l : Nat → Int) : Mn l 1 (l 0) := by
  refine ⟨fun i hi => ?_, 0, by omega, rfl⟩
  have : i = 0 := by omega
  subst this
  exact Int.le_refl _
theorem mx_more {l : Nat → Int} {n : Nat} {M : Int} (h : Mx l n M) : Mx l (n + 1) (if l n > M then l n else M) := by
  obtain ⟨h1, i, hi, e⟩ := h
  by_cases q : l n > M
  · rw [if_pos q]
    refine ⟨fun j hj => ?_, n, by omega, rfl⟩
    by_cases ej : j = n
    · subst ej; exact Int.le_refl _
    · have := h1 j (by omega); omega
  · rw [if_neg q]
    refine ⟨fun j hj => ?_, i, by omega, e⟩
    by_cases ej : j = n
    · subst ej; omega
    · exact h1 j (by omega)
theorem mn_more {l : Nat → Int} {n : Nat} {M : Int} (h : Mn l n M) : Mn l (n + 1) (if l n < M then l n else M) := by
  obtain ⟨h1, i, hi, e⟩ := h
  by_cases q : l n < M
  · rw [if_pos q]
    refine ⟨fun j hj => ?_, n, by omega, rfl⟩
    by_cases ej : j = n
    · subst ej; exact Int.le_refl _
    · have := h1 j (by omega); omega
  · rw [if_neg q]
    refine ⟨fun j hj => ?_, i, by omega, e⟩
    by_cases ej : j = n
    · subst ej; omega
    · exact h1 j (by omega)
theorem mx_there (l : Nat → Int) (n : Nat) : ∃ M, Mx l (n + 1) M := by
  induction n with
  | zero => exact ⟨_, mx_one l⟩
  | succ n ih => obtain ⟨M, h⟩ := ih; exact ⟨_, mx_more h⟩
theorem mn_there (l : Nat → Int) (n : Nat) : ∃ M, Mn l (n + 1) M := by
  induction n with
  | zero => exact ⟨_, mn_one l⟩
  | succ n ih => obtain ⟨M, h⟩ := ih; exact ⟨_, mn_more h⟩
theorem mx_uni {l : Nat → Int} {n : Nat} {M M' : Int} (h : Mx l n M) (h' : Mx l n M') : M = M' := by
  obtain ⟨h1, i, hi, e⟩ := h
  obtain ⟨h2, j, hj, e'⟩ := h'
  have := h1 j hj
  have := h2 i hi
  omega
theorem mn_uni {l : Nat → Int} {n : Nat} {M M' : Int} (h : Mn l n M) (h' : Mn l n M') : M = M' := by
  obtain ⟨h1, i, hi, e⟩ := h
  obtain ⟨h2, j, hj, e'⟩ := h'
  have := h1 j hj
  have := h2 i hi
  omega

set_option maxHeartbeats 1000000 in
theorem max_any (b off n c : Nat) (l : Nat → Int) (M : Int) (w : World) (hn : 0 < n) (hm : n ≤ 1048576) (hM : Mx l n M) (hl : ∀ t, t < n → w.cell? ⟨b, off + t, none⟩ = some (.int .i64 (l t))) :
    Calls Try.prog 14 #[.slice (some ⟨b, off, none⟩) n c] w fun e w' => e = .returned (.int .i64 M) ∧ w' = w := by
  have HL : Hid (∀ t, t < n → w.cell? ⟨b, off + t, none⟩ = some (.int .i64 (l t))) := hl
  have HM : Hid (Mx l n M) := hM
  have M1 : Hid (Mx l 1 (l 0)) := mx_one l
  have z0 : ¬ (n : Int) < 1 := by omega
  have z1 : (0 : Int) < (n : Int) := by omega
  have x0 : w.cell? ⟨b, off, none⟩ = some (.int .i64 (l 0)) := hl 0 hn
  clear hl hM
  go_enter Try.func14, Try.ntmps14
  go_wp2_with fail
  clear x0
  go_loopg [3, 4] (n + 1) (fun g s u wr => ∃ (q : Nat) (x : Int), s = .int .i64 x ∧ u = .int .i64 q ∧ n - q < g ∧ q ≤ n ∧ wr = w ∧ Hid (Mx l q x))
  case atStart => exact ⟨1, l 0, rfl, rfl, by omega, by omega, rfl, M1⟩
  case round =>
    obtain ⟨q, x, rfl, rfl, hg, hq, rfl, MQ⟩ := hrel
    by_cases hlt : q < n
    · have z2 : (q : Int) < (n : Int) := by omega
      have x1 := HL.out q hlt
      have M2 : Hid (Mx l (q + 1) (if l q > x then l q else x)) := mx_more MQ.out
      obtain ⟨z, hz, hmax⟩ : ∃ z : Int, (if l q > x then l q else x) = z ∧ ∀ (ts : Array TypeId) (t : TypeId) (W : World), (Builtin.max_ ts t #[.int .i64 x, .int .i64 (l q)]).run Try.prog W = .ok (.int .i64 z) W := ⟨_, rfl, fun ts t W => run_max_int2 W ts t .i64 .i64 x (l q)⟩
      rw [hz] at M2
      clear hz
      generalize l q = y at x1 hmax
      go_wp2_with fail
      go_roundg (n - (q + 1) + 1)
      case measure => omega
      case rel => exact ⟨q + 1, z, rfl, by go_num, by omega, by omega, rfl, M2⟩
    · have z2 : ¬ (q : Int) < (n : Int) := by omega
      obtain rfl : q = n := by omega
      have E1 : Hid (x = M) := mx_uni MQ.out HM.out
      go_wp2_with fail
      go_ret
      exact ⟨by rw [E1.out]; rfl, rfl⟩

set_option maxHeartbeats 1000000 in
theorem min_any (b off n c : Nat) (l : Nat → Int) (M : Int) (w : World) (hn : 0 < n) (hm : n ≤ 1048576) (hM : Mn l n M) (hl : ∀ t, t < n → w.cell? ⟨b, off + t, none⟩ = some (.int .i64 (l t))) :
    Calls Try.prog 15 #[.slice (some ⟨b, off, none⟩) n c] w fun e w' => e = .returned (.int .i64 M) ∧ w' = w := by
  have HL : Hid (∀ t, t < n → w.cell? ⟨b, off + t, none⟩ = some (.int .i64 (l t))) := hl
  have HM : Hid (Mn l n M) := hM
  have M1 : Hid (Mn l 1 (l 0)) := mn_one l
  have z0 : ¬ (n : Int) < 1 := by omega
  have z1 : (0 : Int) < (n : Int) := by omega
  have x0 : w.cell? ⟨b, off, none⟩ = some (.int .i64 (l 0)) := hl 0 hn
  clear hl hM
  go_enter Try.func15, Try.ntmps15
  go_wp2_with fail
  clear x0
  go_loopg [3, 4] (n + 1) (fun g s u wr => ∃ (q : Nat) (x : Int), s = .int .i64 x ∧ u = .int .i64 q ∧ n - q < g ∧ q ≤ n ∧ wr = w ∧ Hid (Mn l q x))
  case atStart => exact ⟨1, l 0, rfl, rfl, by omega, by omega, rfl, M1⟩
  case round =>
    obtain ⟨q, x, rfl, rfl, hg, hq, rfl, MQ⟩ := hrel
    by_cases hlt : q < n
    · have z2 : (q : Int) < (n : Int) := by omega
      have x1 := HL.out q hlt
      have M2 : Hid (Mn l (q + 1) (if l q < x then l q else x)) := mn_more MQ.out
      obtain ⟨z, hz, hmin⟩ : ∃ z : Int, (if l q < x then l q else x) = z ∧ ∀ (ts : Array TypeId) (t : TypeId) (W : World), (Builtin.min_ ts t #[.int .i64 x, .int .i64 (l q)]).run Try.prog W = .ok (.int .i64 z) W := ⟨_, rfl, fun ts t W => run_min_int2 W ts t .i64 .i64 x (l q)⟩
      rw [hz] at M2
      clear hz
      generalize l q = y at x1 hmin
      go_wp2_with fail
      go_roundg (n - (q + 1) + 1)
      case measure => omega
      case rel => exact ⟨q + 1, z, rfl, by go_num, by omega, by omega, rfl, M2⟩
    · have z2 : ¬ (q : Int) < (n : Int) := by omega
      obtain rfl : q = n := by omega
      have E1 : Hid (x = M) := mn_uni MQ.out HM.out
      go_wp2_with fail
      go_ret
      exact ⟨by rw [E1.out]; rfl, rfl⟩

set_option maxHeartbeats 1000000 in
theorem index_any (b off n c : Nat) (l : Nat → Int) (x : Int) (w : World) (hm : n ≤ 1048576) (hx : ∃ i, i < n ∧ l i = x) (hl : ∀ t, t < n → w.cell? ⟨b, off + t, none⟩ = some (.int .i64 (l t))) :
    Calls Try.prog 18 #[.slice (some ⟨b, off, none⟩) n c, .int .i64 x] w fun e w' => ∃ i : Nat, e = .returned (.int .i64 i) ∧ i < n ∧ l i = x ∧ w' = w := by
  have HL : Hid (∀ t, t < n → w.cell? ⟨b, off + t, none⟩ = some (.int .i64 (l t))) := hl
  have HX : Hid (∃ i, i < n ∧ l i = x) := hx
  clear hl hx
  go_enter Try.func18, Try.ntmps18
  go_wp2_with fail
  go_loopg [8] (n + 1) (fun g s wr => ∃ q : Nat, s = .int .i64 q ∧ n - q < g ∧ q ≤ n ∧ wr = w ∧ Hid (∀ i, i < q → ¬ l i = x))
  case atStart => exact ⟨0, rfl, by omega, by omega, rfl, fun i hi => absurd hi (by omega)⟩
  case round =>
    obtain ⟨q, rfl, hg, hq, rfl, HQ⟩ := hrel
    by_cases hlt : q < n
    · have z1 : (q : Int) < (n : Int) := by omega
      have x0 := HL.out q hlt
      by_cases e : l q = x
      · have E1 : Hid (l q = x) := e
        have e2 : (x == l q) = true := by simpa using e.symm
        clear e
        generalize hy : l q = y at x0 e2
        have HY : Hid (l q = y) := hy
        clear hy
        go_wp2_with fail
        go_ret
        exact ⟨q, rfl, hlt, E1.out, rfl⟩
      · have E1 : Hid (∀ i, i < q + 1 → ¬ l i = x) := fun i hi => by
          by_cases ei : i = q
          · subst ei; exact e
          · exact HQ.out i (by omega)
        have e2 : (x == l q) = false := by simpa using (fun h => e h.symm)
        clear e
        generalize l q = y at x0 e2
        go_wp2_with fail
        go_roundg (n - (q + 1) + 1)
        case measure => omega
        case rel => exact ⟨q + 1, by go_num, by omega, by omega, rfl, E1⟩
    · exfalso
      obtain ⟨i, h1, h2⟩ := HX.out
      exact HQ.out i (by omega) h2

end Go.Proofs.Ytdnjipikggehmaa
