/-
  Which gates of a tree fail with just these parts: plain data, and contracts of cuts' own calls.
-/
import Derived.Test.YtacophekhknbpaaGatChk
import Derived.Laws.BitsAllLaws
import Derived.Deep.RegionHeld3
namespace Go.Proofs.Ytacophekhknbpaa
open Go.RowKit
set_option linter.unusedVariables false

/-- how many of the first j numbers name a gate that fails -/
def cntF (f : Nat → Int) (A : Nat → Bool) : Nat → Nat
  | 0 => 0
  | j + 1 => cntF f A j + if A (f j).toNat then 1 else 0
/-- how many of its numbers must fail that it fails -/
def needI (g : Gt) : Int := if g.k = 2 then (g.n : Int) else if g.k = 3 then 1 else g.v
/-- does a gate fail, where A tells which gates ahead of it do? -/
def gateF (g : Gt) (p : Nat) (A : Nat → Bool) : Bool := if g.k = 1 then p.testBit g.v.toNat else decide (needI g ≤ (cntF g.of A g.n : Int))
/-- the first k gates: which of them fail -/
def FT (t : Nat → Gt) (p : Nat) : Nat → Nat → Bool
  | 0 => fun _ => false
  | k + 1 => fun j => if j = k then gateF (t k) p (FT t p k) else FT t p k j
/-- does the k-th gate fail? -/
def faG (t : Nat → Gt) (p k : Nat) : Bool := FT t p (k + 1) k
/-- does a tree of n gates fail? -/
def faT (t : Nat → Gt) (n p : Nat) : Bool := faG t p (n - 1)

theorem cntF_le (f : Nat → Int) (A : Nat → Bool) (j : Nat) : cntF f A j ≤ j := by
  induction j with
  | zero => exact Nat.le_refl _
  | succ j ih =>
    show cntF f A j + _ ≤ _
    split <;> omega
theorem cntF_congr {f : Nat → Int} {A B : Nat → Bool} {n : Nat} (h : ∀ j, j < n → A (f j).toNat = B (f j).toNat) : cntF f A n = cntF f B n := by
  induction n with
  | zero => rfl
  | succ n ih =>
    show cntF f A n + _ = cntF f B n + _
    rw [ih fun j hj => h j (by omega), h n (by omega)]
theorem gateF_congr {g : Gt} {p : Nat} {A B : Nat → Bool} (h : ∀ j, j < g.n → A (g.of j).toNat = B (g.of j).toNat) : gateF g p A = gateF g p B := by
  unfold gateF
  rw [cntF_congr h]
theorem FT_at {t : Nat → Gt} {p k j : Nat} (h : j < k) : FT t p k j = faG t p j := by
  induction k with
  | zero => omega
  | succ k ih =>
    show (if j = k then _ else FT t p k j) = _
    by_cases q : j = k
    · rw [if_pos q]
      subst q
      show _ = (if j = j then _ else _)
      rw [if_pos rfl]
    · rw [if_neg q, ih (by omega)]
/-- a gate of a right tree fails by what those that it names do -/
theorem faG_eq {t : Nat → Gt} {p k : Nat} (h : geE (t k) k = 0) : faG t p k = gateF (t k) p (faG t p) := by
  have e : faG t p k = gateF (t k) p (FT t p k) := by
    show (if k = k then _ else _) = _
    rw [if_pos rfl]
  rw [e]
  refine gateF_congr fun j hj => FT_at ?_
  have := (geE_zero h).2.2 j hj
  omega
theorem gbit_of (b j : Nat) (hb : b < 65536) : bits .and .u16 ((b : Int) / 2 ^ j) 1 = if b.testBit j then 1 else 0 := by
  have hlt : b / 2 ^ j < 65536 := Nat.lt_of_le_of_lt (Nat.div_le_self _ _) hb
  have h := u16_and_nat (b / 2 ^ j) 1 hlt (by decide)
  have e : (((b / 2 ^ j : Nat)) : Int) = (b : Int) / 2 ^ j := by simp
  rw [e] at h
  rw [show (1 : Int) = ((1 : Nat) : Int) from rfl, h, Nat.and_one_is_mod, Nat.testBit_eq_decide_div_mod_eq]
  rcases Nat.mod_two_eq_zero_or_one (b / 2 ^ j) with q | q <;> rw [q] <;> rfl

/-- n bools in a block, which may be written over -/
structure BlB (w : World) (b n : Nat) (A : Nat → Bool) : Prop where
  lt : b < w.heap.size
  cell : ∀ j, j < n → w.cell? ⟨b, j, none⟩ = some (.bool (A j))
  froz : ∀ j, j < n → w.frozen? ⟨b, j, none⟩ = false
theorem BlB.step {w w' : World} {b n : Nat} {A : Nat → Bool} (h : BlB w b n A) (hb : Below w.heap.size w w') : BlB w' b n A :=
  ⟨Nat.lt_of_lt_of_le h.lt hb.size, fun j hj => (hb.cell (p := ⟨b, j, none⟩) h.lt).trans (h.cell j hj), fun j hj => (hb.frozen (p := ⟨b, j, none⟩) h.lt).trans (h.froz j hj)⟩
theorem BlB.set {w : World} {b n q : Nat} {A : Nat → Bool} (h : BlB w b n A) (hq : q < n) (x : Bool) : BlB (w.setCell ⟨b, q, none⟩ (.bool x)) b n (fun j => if j = q then x else A j) := by
  refine ⟨by simp [World.setCell]; exact h.lt, fun j hj => ?_, fun j hj => by rw [World.frozen?_setCell]; exact h.froz j hj⟩
  show _ = some (Value.bool (if j = q then x else A j))
  by_cases e : j = q
  · subst e
    rw [if_pos rfl]
    exact World.cell?_setCell_same _ _ _ (h.cell j hj)
  · rw [if_neg e, World.cell?_setCell_other _ _ _ _ (by simp <;> omega)]
    exact h.cell j hj

set_option maxHeartbeats 1000000 in
theorem needed_any (g : Gt) (w : World) : Calls Try.prog 51 #[.agg #[.int .i64 g.k, .int .i64 g.v, .slice g.a g.n g.c]] w fun e w' => e = .returned (.int .i64 (needI g)) ∧ Below w.heap.size w w' := by
  unfold needI
  obtain ⟨k, v, a, n, c, f⟩ := g
  simp only []
  by_cases h1 : k = 2
  · subst h1
    rw [if_pos rfl]
    go_enter Try.func51, Try.ntmps51
    go_wp2_with fail
    go_ret
    exact ⟨rfl, gbox _ _⟩
  · rw [if_neg h1]
    have z1 : (k == 2) = false := by simpa using h1
    clear h1
    by_cases h2 : k = 3
    · subst h2
      rw [if_pos rfl]
      go_enter Try.func51, Try.ntmps51
      go_wp2_with fail
      go_ret
      exact ⟨rfl, gbox _ _⟩
    · rw [if_neg h2]
      have z2 : (k == 3) = false := by simpa using h2
      clear h2
      go_enter Try.func51, Try.ntmps51
      go_wp2_with fail
      go_ret
      exact ⟨rfl, gbox _ _⟩

set_option maxHeartbeats 1000000 in
theorem gateFails_part (j : Nat) (a : Option Addr) (n c p : Nat) (s : Value) (w : World) (hj : j < 8) (hp : p < 65536) :
    Calls Try.prog 48 #[.agg #[.int .i64 1, .int .i64 (j : Int), .slice a n c], .int .u16 p, s] w fun e w' => e = .returned (.bool (p.testBit j)) ∧ Below w.heap.size w w' := by
  have hbit := gbit_of p j hp
  cases hb : p.testBit j
  · rw [hb] at hbit
    simp only [Bool.false_eq_true, if_false] at hbit
    go_enter Try.func48, Try.ntmps48
    go_wp2_with fail
    go_ret
    exact ⟨rfl, gbox _ _⟩
  · rw [hb] at hbit
    simp only [if_true] at hbit
    go_enter Try.func48, Try.ntmps48
    go_wp2_with fail
    go_ret
    exact ⟨rfl, gbox _ _⟩

set_option maxHeartbeats 4000000 in
set_option maxRecDepth 100000 in
theorem gateFails_core (k v : Int) (a : Option Addr) (n c : Nat) (f : Nat → Int) (p m B : Nat) (A : Nat → Bool) (w : World) (hk : ¬ k = 1) (hn : n ≤ 6) (hm : m ≤ 30) (hB : B < w.heap.size) (hA : ∀ j, j < m → w.cell? ⟨B, j, none⟩ = some (.bool (A j))) (hf : ∀ j, j < n → 0 ≤ f j ∧ f j < (m : Int)) (h : RI w a n f) (N : Int) (hN : needI ⟨k, v, a, n, c, f⟩ = N) :
    Calls Try.prog 48 #[.agg #[.int .i64 k, .int .i64 v, .slice a n c], .int .u16 p, .slice (some ⟨B, 0, none⟩) m 30] w fun e w' => e = .returned (.bool (decide (N ≤ (cntF f A n : Int)))) ∧ Below w.heap.size w w' := by
  have HR : Hid (RI w a n f) := h
  have HA : Hid (∀ j, j < m → w.cell? ⟨B, j, none⟩ = some (.bool (A j))) := hA
  have HF : Hid (∀ j, j < n → 0 ≤ f j ∧ f j < (m : Int)) := hf
  have HN : Hid (n ≤ 6 ∧ m ≤ 30 ∧ B < w.heap.size) := ⟨hn, hm, hB⟩
  have C : Hid (∀ W, Calls Try.prog 51 #[.agg #[.int .i64 k, .int .i64 v, .slice a n c]] W fun e w' => e = .returned (.int .i64 N) ∧ Below W.heap.size W w') := fun W => by
    have := needed_any ⟨k, v, a, n, c, f⟩ W
    rw [hN] at this
    exact this
  have HB0 : Hid (Below w.heap.size w (w.alloc (.cells #[.int .i64 k, .int .i64 v, .slice a n c] 41))) := gbox _ _
  have z : (k == 1) = false := by simpa using hk
  clear h hA hf hN hn hm hB hk
  go_enter Try.func48, Try.ntmps48
  go_wp2_with fail
  go_loop [7, 22] (fun s i => ∃ q : Nat, i = .int .i64 q ∧ s = .int .i64 (cntF f A q : Nat) ∧ q ≤ n) (fun _ i => n - (intOf i).toNat)
  case atStart => exact ⟨0, rfl, rfl, by omega⟩
  case round =>
    obtain ⟨q, rfl, rfl, hq⟩ := hrel
    clear z
    have HC : Hid (cntF f A q ≤ q) := cntF_le f A q
    by_cases hlt : q < n
    · have y1 : (q : Int) < (n : Int) := by omega
      have HQ : Hid (RI _ a n f) := HR.out.step HB0.out
      obtain ⟨b, o, rfl, hb, hc⟩ := HQ.out (by omega)
      have x0 := hc q hlt
      have HE : Hid (cntF f A (q + 1) = cntF f A q + if A (f q).toNat then 1 else 0) := rfl
      obtain ⟨y2, y3⟩ := HF.out q hlt
      obtain ⟨y, hy⟩ : ∃ y : Nat, f q = (y : Int) := ⟨(f q).toNat, by omega⟩
      have x1 := HB0.out.cell (p := ⟨B, y, none⟩) HN.out.2.2
      rw [HA.out y (by omega)] at x1
      have y4 : (B : Nat) < w.heap.size + 1 := by have := HN.out.2.2; omega
      have HE2 : Hid (cntF f A (q + 1) = cntF f A q + if A y then 1 else 0) := by
        have := HE.out
        rw [hy, Int.toNat_natCast] at this
        exact this
      clear HE hc
      rw [hy] at x0 y2 y3
      have y5 : (cntF f A q : Int) + 1 ≤ 7 := by have := HC.out; have := HN.out.1; omega
      have y6 : (q : Int) ≤ 6 := by have := HN.out.1; omega
      clear hy
      cases hA : A y
      · have HE3 : Hid (cntF f A (q + 1) = cntF f A q) := by
          have := HE2.out
          rw [hA] at this
          exact this
        rw [hA] at x1
        clear HE2 hA
        go_wp2_with fail
        go_round
        case rel => exact ⟨q + 1, by go_num, by rw [HE3.out], by omega⟩
        case measure => simp [intOf]; omega
      · have HE3 : Hid (cntF f A (q + 1) = cntF f A q + 1) := by
          have := HE2.out
          rw [hA] at this
          exact this
        rw [hA] at x1
        clear HE2 hA
        go_wp2_with fail
        go_round
        case rel => exact ⟨q + 1, by go_num, by rw [HE3.out]; go_num, by omega⟩
        case measure => simp [intOf]; omega
    · have y1 : ¬ (q : Int) < (n : Int) := by omega
      obtain rfl : q = n := by omega
      go_wp2_with fail
      refine (C.out _).mono ?_
      rintro e w1 ⟨rfl, hb⟩
      have B1 : Hid (Below w.heap.size w w1) := HB0.out.trans (hb.mono HB0.out.size)
      clear hb HB0 C
      go_wp2_with fail
      go_ret
      exact ⟨rfl, B1.out⟩

end Go.Proofs.Ytacophekhknbpaa
