/-
  Rows of the call's own that are handed on and stored into; numbers in another order, and all of them later by so much: what Midway then tells; slices.Concat of a row's two parts.
-/
import Derived.Test.YtdnjipikggehmaaTikMid
import Derived.Test.YtdnjipikggehmaaTikDel
import Derived.Test.YtdnjipikggehmaaConcat
namespace Go.Proofs.Ytdnjipikggehmaa
open Go.RowKit
set_option linter.unusedVariables false

theorem Rs.later {N K : Nat} {w0 : World} {b n : Nat} {g : Nat → Int} {w w' : World} (h : Rs N w0 b n g w) (hb : Below K w w') (hK : b < K) : Rs N w0 b n g w' :=
  ⟨h.low, Nat.lt_of_lt_of_le h.lt hb.size, fun t ht => (hb.cell (p := ⟨b, 0 + t, none⟩) hK).trans (h.cell t ht), fun t ht => (hb.frozen (p := ⟨b, 0 + t, none⟩) hK).trans (h.froz t ht), h.bel.trans (hb.mono (by have := h.low; omega))⟩
theorem Rs.row {N : Nat} {w0 : World} {b n : Nat} {g : Nat → Int} {w : World} (h : Rs N w0 b n g w) : R64 w (some ⟨b, 0, none⟩) n g := fun _ => ⟨b, 0, rfl, h.lt, h.cell⟩
theorem Rs.store {N : Nat} {w0 : World} {b n : Nat} {g g' : Nat → Int} {w : World} (h : Rs N w0 b n g w) {q : Nat} (hq : q < n) {x : Int} (hx : x = g' q) (ho : ∀ t, t ≠ q → g' t = g t) : Rs N w0 b n g' (w.setCell ⟨b, q, none⟩ (.int .i64 x)) := by
  subst hx
  refine ⟨h.low, by have := h.lt; simp [World.setCell]; exact this, fun t ht => ?_, fun t ht => by rw [World.frozen?_setCell]; exact h.froz t ht, h.bel.setCell (p := ⟨b, q, none⟩) h.low _⟩
  have hc := h.cell t ht
  rw [Nat.zero_add] at hc ⊢
  by_cases e : t = q
  · subst e
    exact World.cell?_setCell_same _ _ _ hc
  · rw [World.cell?_setCell_other _ _ _ _ (by simp <;> omega), ho t e]
    exact hc

/-- l from the i-th number on, and what lay ahead of it behind -/
def rot (l : Nat → Int) (i n : Nat) : Nat → Int := fun t => if t < n - i then l (i + t) else l (t - (n - i))
theorem rot_vals (l : Nat → Int) (i n : Nat) (h : i ≤ n) : vals l i (n - i) ++ vals l 0 i = vals (rot l i n) 0 n := by
  apply List.ext_getElem?
  intro j
  rcases Nat.lt_or_ge j n with q | q
  · rw [vals_get q, Nat.zero_add]
    unfold rot
    rcases Nat.lt_or_ge j (n - i) with q2 | q2
    · rw [List.getElem?_append_left (by rw [vals_length]; exact q2), vals_get q2, if_pos q2]
    · rw [List.getElem?_append_right (by rw [vals_length]; exact q2), vals_length, vals_get (by omega), if_neg (by omega), Nat.zero_add]
  · rw [List.getElem?_eq_none (by rw [List.length_append, vals_length, vals_length]; omega), List.getElem?_eq_none (by rw [vals_length]; exact q)]
theorem cnt_split (p : Int → Bool) (l : Nat → Int) (i k : Nat) : cnt p l (i + k) = cnt p l i + cnt p (fun t => l (i + t)) k := by
  induction k with
  | zero => rfl
  | succ k ih => rw [← Nat.add_assoc, cnt_succ, cnt_succ, ih]; omega
theorem rot_cnt (p : Int → Bool) (l : Nat → Int) (i n : Nat) (h : i ≤ n) : cnt p (rot l i n) n = cnt p l n := by
  obtain ⟨k, rfl⟩ : ∃ k, n = i + k := ⟨n - i, by omega⟩
  have e1 : cnt p (rot l i (i + k)) k = cnt p (fun t => l (i + t)) k := cnt_congr k fun t ht => by unfold rot; rw [if_pos (by omega)]
  have e2 : cnt p (fun t => rot l i (i + k) (k + t)) i = cnt p l i := cnt_congr i fun t ht => by
    show rot l i (i + k) (k + t) = l t
    unfold rot
    rw [if_neg (by omega)]
    congr 1
    omega
  rw [cnt_split p l i k, Nat.add_comm i k]
  rw [Nat.add_comm i k] at e1 e2
  rw [cnt_split p _ k i, e1, e2]
  omega
theorem rot_all {l : Nat → Int} {i n : Nat} (h : i < n) (ht : allT l n = true) : allT (rot l i n) n = true := allT_iff.2 fun t hlt => by
  unfold rot
  split
  · exact allT_iff.1 ht _ (by omega)
  · exact allT_iff.1 ht _ (by omega)
theorem rot_nth {l : Nat → Int} {i n k : Nat} {x : Int} (h : i ≤ n) (hx : Nth l n k x) : Nth (rot l i n) n k x := by
  unfold Nth lo at *
  rw [rot_cnt _ l i n h, rot_cnt _ l i n h]
  exact hx
theorem sh_cnt (l : Nat → Int) (B x : Int) (n : Nat) : cnt (ltB (x + B)) (fun t => l t + B) n = cnt (ltB x) l n := by
  induction n with
  | zero => rfl
  | succ n ih =>
    rw [cnt_succ, cnt_succ, ih]
    unfold ltB
    congr 1
    by_cases h : l n < x
    · rw [decide_eq_true h, decide_eq_true (show l n + B < x + B by omega)]
    · rw [decide_eq_false h, decide_eq_false (show ¬ l n + B < x + B by omega)]
theorem sh_nth {l : Nat → Int} {n k : Nat} {B x : Int} (h : Nth (fun t => l t + B) n k x) : Nth l n k (x - B) := by
  obtain ⟨h1, h2⟩ := h
  unfold lo at h1 h2
  constructor
  · unfold lo; rw [← sh_cnt l B]; rw [show x - B + B = x by omega]; exact h1
  · unfold lo; rw [← sh_cnt l B]; rw [show x - B + 1 + B = x + 1 by omega]; exact h2
theorem sh_mw {l : Nat → Int} {n k : Nat} {B a b m E : Int} (ha : Nth l n k a) (hb : Nth l n (n - 1 - k) b) (h : Mw (fun t => l t + B) n k m E) : E = 0 → m = (a + b) / 2 + B := fun e => by
  obtain ⟨_, _, k', a', b', e1, _, ha', hb', rfl⟩ := h.good e
  obtain rfl : k = k' := by omega
  have h1 := nth_one ha (sh_nth ha')
  have h2 := nth_one hb (sh_nth hb')
  omega
/-- as far as q later by B -/
def upTo (l : Nat → Int) (B : Int) (q : Nat) : Nat → Int := fun t => if t < q then l t + B else l t
theorem upTo_all (l : Nat → Int) (B : Int) (n t : Nat) (h : t < n) : upTo l B n t = l t + B := by unfold upTo; rw [if_pos h]
theorem upTo_none (l : Nat → Int) (B : Int) (q : Nat) : upTo l B q q = l q := by unfold upTo; rw [if_neg (by omega)]
theorem upTo_next (l : Nat → Int) (B : Int) (q : Nat) : l q + B = upTo l B (q + 1) q := by unfold upTo; rw [if_pos (by omega)]
theorem upTo_other (l : Nat → Int) (B : Int) (q t : Nat) (h : t ≠ q) : upTo l B (q + 1) t = upTo l B q t := by
  unfold upTo
  by_cases e : t < q
  · rw [if_pos e, if_pos (by omega)]
  · rw [if_neg e, if_neg (by omega)]
theorem Rs.congr {N : Nat} {w0 : World} {b n : Nat} {g g' : Nat → Int} {w : World} (h : Rs N w0 b n g w) (e : ∀ t, t < n → g t = g' t) : Rs N w0 b n g' w :=
  ⟨h.low, h.lt, fun t ht => by rw [← e t ht]; exact h.cell t ht, h.froz, h.bel⟩

theorem concat_rot (N : Nat) (w0 : World) (b off n c i d : Nat) (l : Nat → Int) (w : World) (hB : Below N w0 w) (hN : N ≤ w.heap.size) (hi : i < n) (hm : n ≤ 64) (hb : b < w.heap.size) (hl : ∀ t, t < n → w.cell? ⟨b, off + t, none⟩ = some (.int .i64 (l t))) (v : Nat) (hv : v = w.heap.size) :
    Calls Try.prog 13 #[.slice (some ⟨v, 0, none⟩) 2 2] ((w.alloc (.cells #[.slice (some ⟨b, off + i, none⟩) (n - i) (c - i), .slice (some ⟨b, off, none⟩) i c] 22)).drewN d) fun e w' => ∃ g cap : Nat, e = .returned (.slice (some ⟨g, 0, none⟩) n cap) ∧ Rs N w0 g n (rot l i n) w' := by
  subst hv
  refine (concat_any w.heap.size ⟨b, off + i, none⟩ ⟨b, off, none⟩ (n - i) i (c - i) c (fun t => l (i + t)) l _ (by simp) (by go_simp) (by go_simp) (by omega) (by omega) (fun t u hu => ?_) (fun t u hu => ?_)).mono ?_
  · obtain ⟨h1, rfl⟩ := vals_at hu
    rw [Nat.zero_add, Addr.add_lit]
    refine ⟨by simp; omega, ?_⟩
    have := hl (i + t) (by omega)
    rw [Nat.add_assoc]
    show (w.alloc _).cell? _ = _
    rw [World.cell?_alloc_old _ _ _ (by simp; omega)]
    exact this
  · obtain ⟨h1, rfl⟩ := vals_at hu
    rw [Nat.zero_add, Addr.add_lit]
    refine ⟨by simp; omega, ?_⟩
    show (w.alloc _).cell? _ = _
    rw [World.cell?_alloc_old _ _ _ (by simp; omega)]
    exact hl t (by omega)
  · rintro e w4 ⟨v, rfl, ho, hbe⟩
    have e1 : vals (fun t => l (i + t)) 0 (n - i) = vals l i (n - i) := by unfold vals; simp only [Nat.zero_add]
    rw [e1, rot_vals l i n (by omega), show n - i + i = n by omega] at ho
    obtain ⟨g, cap, rfl, h1, h2⟩ := ho.form (by omega)
    have hsz : w.heap.size ≤ ((w.alloc (.cells #[.slice (some ⟨b, off + i, none⟩) (n - i) (c - i), .slice (some ⟨b, off, none⟩) i c] 22)).drewN d).heap.size := by simp
    have hb2 : Below N w0 ((w.alloc (.cells #[.slice (some ⟨b, off + i, none⟩) (n - i) (c - i), .slice (some ⟨b, off, none⟩) i c] 22)).drewN d) := by
      have q := hB.alloc hN (.cells #[.slice (some ⟨b, off + i, none⟩) (n - i) (c - i), .slice (some ⟨b, off, none⟩) i c] 22)
      exact ⟨q.os, q.tape, q.output, q.size, q.block⟩
    refine ⟨g, cap, rfl, by omega, h2, fun t ht => ?_, fun t ht => ?_, hb2.trans (hbe.mono (by omega))⟩
    · have := ho.cellAt t (by omega)
      rw [vals_get ht, Nat.zero_add] at this
      rw [Nat.zero_add]
      exact this
    · have := ho.frozenAt t
      rw [Nat.zero_add]
      exact this

end Go.Proofs.Ytdnjipikggehmaa
