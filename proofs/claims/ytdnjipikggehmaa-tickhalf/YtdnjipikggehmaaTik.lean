/-
  Clocks: plain mathematics of the k-th of n numbers, told by counting; tick.isTick, areTicks, halfway, Midway and Adjust.
-/
import Derived.Test.YtdnjipikggehmaaMid
namespace Go.Proofs.Ytdnjipikggehmaa
open Go.RowKit
set_option linter.unusedVariables false

/-- n numbers that lie one behind another in memory that is there; or none -/
def R64 (w : World) (a : Option Addr) (n : Nat) (l : Nat → Int) : Prop := 0 < n → ∃ b off, a = some ⟨b, off, none⟩ ∧ b < w.heap.size ∧ ∀ j : Nat, j < n → w.cell? ⟨b, off + j, none⟩ = some (.int .i64 (l j))
theorem R64.step {w w' : World} {a : Option Addr} {n : Nat} {l : Nat → Int} (h : R64 w a n l) (hb : Below w.heap.size w w') : R64 w' a n l := fun hn => by
  obtain ⟨b, off, rfl, h1, h2⟩ := h hn
  exact ⟨b, off, rfl, Nat.lt_of_lt_of_le h1 hb.size, fun j hj => (hb.cell (p := ⟨b, off + j, none⟩) h1).trans (h2 j hj)⟩

/-! ### the k-th one -/
/-- how many are below x -/
def lo (l : Nat → Int) (n : Nat) (x : Int) : Nat := cnt (ltB x) l n
theorem lo_le (l : Nat → Int) (n : Nat) (x : Int) : lo l n x ≤ n := cnt_le _ _ _
theorem lo_mono (l : Nat → Int) (n : Nat) {x y : Int} (h : x ≤ y) : lo l n x ≤ lo l n y :=
  cnt_imp l (fun z hz => by unfold ltB at *; have := of_decide_eq_true hz; exact decide_eq_true (by omega)) n
theorem lo_all {l : Nat → Int} {n : Nat} {x : Int} (h : ∀ i, i < n → l i < x) : lo l n x = n := cnt_all n fun i hi => decide_eq_true (h i hi)
theorem lo_no {l : Nat → Int} {n : Nat} {x : Int} (h : ∀ i, i < n → x ≤ l i) : lo l n x = 0 := by
  have := cnt_few (p := ltB x) (l := l) (k := 0) n (fun i _ hi => decide_eq_false (by have := h i hi; omega))
  unfold lo
  omega
/-- x is the k-th of n numbers, from 0 on, in their order -/
def Nth (l : Nat → Int) (n k : Nat) (x : Int) : Prop := lo l n x ≤ k ∧ k < lo l n (x + 1)
theorem nth_le {l : Nat → Int} {n i j : Nat} {x y : Int} (hx : Nth l n i x) (hy : Nth l n j y) (h : i ≤ j) : x ≤ y := by
  rcases Int.lt_or_le y x with q | q
  · have := lo_mono l n (show y + 1 ≤ x by omega)
    have h1 := hx.1
    have h2 := hy.2
    omega
  · exact q
theorem nth_one {l : Nat → Int} {n k : Nat} {x y : Int} (hx : Nth l n k x) (hy : Nth l n k y) : x = y := by
  have h1 := nth_le hx hy (Nat.le_refl _)
  have h2 := nth_le hy hx (Nat.le_refl _)
  omega
theorem le_lt (m : Int) : leB m = ltB (m + 1) := by
  funext x
  unfold leB ltB
  by_cases h : x ≤ m
  · rw [decide_eq_true h, decide_eq_true (by omega)]
  · rw [decide_eq_false h, decide_eq_false (by omega)]
theorem nth_in {l : Nat → Int} {n k : Nat} {x : Int} (h : Nth l n k x) : ∃ i, i < n ∧ l i = x := by
  have h1 := cnt_lt_eq x l n
  rw [le_lt] at h1
  obtain ⟨h2, h3⟩ := h
  unfold lo at h2 h3
  obtain ⟨i, hi, e⟩ := cnt_some (p := eqI x) (l := l) (n := n) (by omega)
  exact ⟨i, hi, by simpa [eqI] using e⟩
theorem nth_sorted {l : Nat → Int} {n : Nat} {d' : Array Int} (h : Sort.PermIn 0 n (arr l n) d') (hs : Sort.SortedIn Sort.ltInt 0 n d') (k : Nat) (hk : k < n) : Nth l n k (d'[k]!) := by
  have c : ∀ p, cnt p (fun t => d'[t]!) n = cnt p l n := fun p => (perm_cnt (arr_size l n) h p).trans (cnt_congr n fun i hi => arr_at hi)
  have le : ∀ i j, i ≤ j → j < n → d'[i]! ≤ d'[j]! := fun i j h1 h2 => by
    rcases Nat.lt_or_ge i j with q | q
    · exact lt_no.1 (hs i j (by omega) q h2)
    · have : i = j := by omega
      subst this; exact Int.le_refl _
  constructor
  · unfold lo
    rw [← c]
    exact cnt_few n fun i h1 h2 => decide_eq_false (by have := le _ _ h1 h2; omega)
  · unfold lo
    rw [← c]
    have h1 := cnt_all (p := ltB (d'[k]! + 1)) (l := fun t => d'[t]!) (k + 1) (fun i hi => decide_eq_true (by have := le i k (by omega) hk; omega))
    have h2 := cnt_mono (ltB (d'[k]! + 1)) (fun t => d'[t]!) (show k + 1 ≤ n by omega)
    omega
theorem nth_there (l : Nat → Int) (n k : Nat) (hk : k < n) : ∃ m, Nth l n k m := by
  obtain ⟨p, q⟩ := Sort.insertionSort_holds Sort.swo_ltInt (arr l n) 0 n (by omega) (by rw [arr_size]; omega)
  exact ⟨_, nth_sorted p q k hk⟩

/-! ### what Midway tells -/
def tkB (x : Int) : Bool := decide (-1099511627776 ≤ x) && decide (x ≤ 1099511627776)
theorem tkB_iff {x : Int} : tkB x = true ↔ -1099511627776 ≤ x ∧ x ≤ 1099511627776 := by unfold tkB; simp
theorem tkB_no {x : Int} : tkB x = false ↔ x < -1099511627776 ∨ 1099511627776 < x := by
  cases e : tkB x
  · constructor
    · intro _
      rcases Int.lt_or_le x (-1099511627776) with q | q
      · exact Or.inl q
      · rcases Int.lt_or_le 1099511627776 x with p | p
        · exact Or.inr p
        · rw [tkB_iff.2 ⟨q, p⟩] at e; cases e
    · intro _; rfl
  · have := tkB_iff.1 e
    constructor
    · intro h; cases h
    · intro h; omega
/-- all n are ticks -/
def allT (l : Nat → Int) : Nat → Bool
  | 0 => true
  | n + 1 => allT l n && tkB (l n)
theorem allT_yes {l : Nat → Int} {q : Nat} (h : allT l q = true) (e : tkB (l q) = true) : allT l (q + 1) = true := by rw [allT, h, e]; rfl
theorem allT_iff {l : Nat → Int} : ∀ {n : Nat}, allT l n = true ↔ ∀ i, i < n → tkB (l i) = true
  | 0 => ⟨fun _ i hi => absurd hi (by omega), fun _ => rfl⟩
  | n + 1 => by
    rw [allT, Bool.and_eq_true, allT_iff]
    constructor
    · rintro ⟨h1, h2⟩ i hi
      by_cases e : i = n
      · subst e; exact h2
      · exact h1 i (by omega)
    · exact fun h => ⟨fun i hi => h i (by omega), h n (by omega)⟩
theorem allT_no {l : Nat → Int} {n q : Nat} (hq : q < n) (e : tkB (l q) = false) : allT l n = false := by
  cases h : allT l n
  · rfl
  · rw [allT_iff.1 h q hq] at e; cases e
/-- what Midway tells of n numbers with f left out at each end -/
def Mw (l : Nat → Int) (n : Nat) (f m E : Int) : Prop :=
  (64 < n ∧ m = 0 ∧ E = 2) ∨ (n ≤ 64 ∧ (f < 0 ∨ allT l n = false) ∧ m = 0 ∧ E = 1) ∨ (n ≤ 64 ∧ 0 ≤ f ∧ allT l n = true ∧ (n : Int) - f ≤ f ∧ m = 0 ∧ E = 7) ∨
  (n ≤ 64 ∧ allT l n = true ∧ E = 0 ∧ ∃ (k : Nat) (a b : Int), f = k ∧ 2 * k < n ∧ Nth l n k a ∧ Nth l n (n - 1 - k) b ∧ m = (a + b) / 2)
theorem mw_there (l : Nat → Int) (n : Nat) (f : Int) : ∃ m E, Mw l n f m E := by
  by_cases h1 : 64 < n
  · exact ⟨0, 2, Or.inl ⟨h1, rfl, rfl⟩⟩
  by_cases h2 : f < 0
  · exact ⟨0, 1, Or.inr (Or.inl ⟨by omega, Or.inl h2, rfl, rfl⟩)⟩
  cases h3 : allT l n
  · exact ⟨0, 1, Or.inr (Or.inl ⟨by omega, Or.inr h3, rfl, rfl⟩)⟩
  by_cases h4 : (n : Int) - f ≤ f
  · exact ⟨0, 7, Or.inr (Or.inr (Or.inl ⟨by omega, by omega, h3, h4, rfl, rfl⟩))⟩
  obtain ⟨k, rfl⟩ : ∃ k : Nat, f = k := ⟨f.toNat, by omega⟩
  obtain ⟨a, ha⟩ := nth_there l n k (by omega)
  obtain ⟨b, hb⟩ := nth_there l n (n - 1 - k) (by omega)
  exact ⟨_, 0, Or.inr (Or.inr (Or.inr ⟨by omega, h3, rfl, k, a, b, rfl, by omega, ha, hb, rfl⟩))⟩
theorem Mw.good {l : Nat → Int} {n : Nat} {f m E : Int} (h : Mw l n f m E) (e : E = 0) : n ≤ 64 ∧ allT l n = true ∧ ∃ (k : Nat) (a b : Int), f = k ∧ 2 * k < n ∧ Nth l n k a ∧ Nth l n (n - 1 - k) b ∧ m = (a + b) / 2 := by
  rcases h with ⟨_, _, q⟩ | ⟨_, _, _, q⟩ | ⟨_, _, _, _, _, q⟩ | ⟨h1, h2, _, h3⟩
  · omega
  · omega
  · omega
  · exact ⟨h1, h2, h3⟩
theorem Mw.bad {l : Nat → Int} {n : Nat} {f m E : Int} (h : Mw l n f m E) (e : ¬ E = 0) : m = 0 := by
  rcases h with ⟨_, q, _⟩ | ⟨_, _, q, _⟩ | ⟨_, _, _, _, q, _⟩ | ⟨_, _, q, _⟩
  · exact q
  · exact q
  · exact q
  · exact absurd q e
theorem nth_tick {l : Nat → Int} {n k : Nat} {x : Int} (h : Nth l n k x) (ht : allT l n = true) : -1099511627776 ≤ x ∧ x ≤ 1099511627776 := by
  obtain ⟨i, hi, rfl⟩ := nth_in h
  exact tkB_iff.1 (allT_iff.1 ht i hi)
theorem Mw.bounds {l : Nat → Int} {n : Nat} {f m E : Int} (h : Mw l n f m E) : -1099511627776 ≤ m ∧ m ≤ 1099511627776 := by
  by_cases e : E = 0
  · obtain ⟨_, h2, k, a, b, _, _, ha, hb, rfl⟩ := h.good e
    have h3 := nth_tick ha h2
    have h4 := nth_tick hb h2
    omega
  · rw [h.bad e]; omega
theorem Mw.one {l : Nat → Int} {n : Nat} {f m E m' E' : Int} (h : Mw l n f m E) (h' : Mw l n f m' E') : m = m' ∧ E = E' := by
  rcases h with ⟨a1, a2, a3⟩ | ⟨a1, a2, a3, a4⟩ | ⟨a1, a2, a3, a4, a5, a6⟩ | ⟨a1, a2, a3, k, a, b, rfl, a4, ha, hb, a5⟩ <;>
    rcases h' with ⟨b1, b2, b3⟩ | ⟨b1, b2, b3, b4⟩ | ⟨b1, b2, b3, b4, b5, b6⟩ | ⟨b1, b2, b3, k', a', b', e, b4, ha', hb', b5⟩
  all_goals first
    | omega
    | (rcases a2 with q | q <;> first | omega | (simp_all; done))
    | (rcases b2 with q | q <;> first | omega | (simp_all; done))
    | (obtain rfl : k = k' := by omega
       rw [a5, b5, nth_one ha ha', nth_one hb hb', a3, b3]
       exact ⟨rfl, rfl⟩)

/-! ### the program's -/

set_option maxHeartbeats 400000 in
theorem isTick_any (x : Int) (w : World) : Calls Try.prog 21 #[.int .i64 x] w fun e w' => e = .returned (.bool (tkB x)) ∧ w' = w := by
  rcases Int.lt_or_le x (-1099511627776) with h | h
  · have e : Hid (tkB x = false) := tkB_no.2 (Or.inl h)
    have z : ¬ -1099511627776 ≤ x := by omega
    clear h
    go_enter Try.func21, Try.ntmps21
    go_wp2
    go_ret
    exact ⟨by rw [e.out]; rfl, rfl⟩
  · rcases Int.lt_or_le 1099511627776 x with h2 | h2
    · have e : Hid (tkB x = false) := tkB_no.2 (Or.inr h2)
      have z : ¬ x ≤ 1099511627776 := by omega
      clear h2
      go_enter Try.func21, Try.ntmps21
      go_wp2
      go_ret
      exact ⟨by rw [e.out]; rfl, rfl⟩
    · have e : Hid (tkB x = true) := tkB_iff.2 ⟨h, h2⟩
      go_enter Try.func21, Try.ntmps21
      go_wp2
      go_ret
      exact ⟨by rw [e.out]; rfl, rfl⟩

set_option maxHeartbeats 1000000 in
theorem areTicks_any (a : Option Addr) (n c : Nat) (l : Nat → Int) (w : World) (hn : n ≤ 64) (h : R64 w a n l) :
    Calls Try.prog 16 #[.slice a n c] w fun e w' => e = .returned (.bool (allT l n)) ∧ w' = w := by
  have HR : Hid (R64 w a n l) := h
  clear h
  go_enter Try.func16, Try.ntmps16
  go_wp2_with fail
  go_loopg [7] (n + 1) (fun g s wr => ∃ q : Nat, s = .int .i64 q ∧ n - q < g ∧ q ≤ n ∧ wr = w ∧ Hid (allT l q = true))
  case atStart => exact ⟨0, rfl, by omega, by omega, rfl, rfl⟩
  case round =>
    obtain ⟨q, rfl, hg, hq, rfl, HQ⟩ := hrel
    by_cases hlt : q < n
    · have z1 : (q : Int) < (n : Int) := by omega
      obtain ⟨b, off, rfl, hb, hc⟩ := HR.out (by omega)
      have x0 := hc q hlt
      clear hc
      cases e : tkB (l q)
      · have E1 : Hid (allT l n = false) := allT_no hlt e
        go_wp2_with fail
        refine (isTick_any (l q) _).mono ?_
        rintro r w1 ⟨rfl, rfl⟩
        rw [e]
        clear e
        go_wp2_with fail
        go_ret
        exact ⟨by rw [E1.out]; rfl, rfl⟩
      · have E1 : Hid (allT l (q + 1) = true) := allT_yes HQ.out e
        go_wp2_with fail
        refine (isTick_any (l q) _).mono ?_
        rintro r w1 ⟨rfl, rfl⟩
        rw [e]
        clear e
        go_wp2_with fail
        go_roundg (n - (q + 1) + 1)
        case measure => omega
        case rel => exact ⟨q + 1, by go_num, by omega, by omega, rfl, E1⟩
    · have z1 : ¬ (q : Int) < (n : Int) := by omega
      obtain rfl : q = n := by omega
      go_wp2_with fail
      go_ret
      exact ⟨by rw [HQ.out]; rfl, rfl⟩

set_option maxHeartbeats 400000 in
theorem halfway_any (x y : Int) (x1 : -1099511627776 ≤ x) (x2 : x ≤ 1099511627776) (y1 : -1099511627776 ≤ y) (y2 : y ≤ 1099511627776) (w : World) :
    Calls Try.prog 17 #[.int .i64 x, .int .i64 y] w fun e w' => e = .returned (.int .i64 ((x + y) / 2)) ∧ w' = w := by
  go_enter Try.func17, Try.ntmps17
  go_wp2
  go_ret
  exact ⟨rfl, rfl⟩

end Go.Proofs.Ytdnjipikggehmaa
