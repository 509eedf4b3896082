/-
  The library's sort at numbers of 64 bits, its beginning: a row of the call's own, what a swap makes of it; which of two numbers is less; insertion sort.
-/
import Derived.Test.YtdnjipikggehmaaRows
import Derived.WalkKit
import Derived.WalkSpells
import Derived.WalkLawsBesides
import Derived.OpenShut
import Derived.Below
import Derived.CellFam
import Derived.BigQuiet
import Derived.BigRegion
import Derived.BigCall
import Derived.BigGuard
import Derived.Deep.Draws
import Derived.Deep.QuietTactic
import Derived.Deep.LoopGhost
import Derived.Deep.Cut
import Derived.Sort.AssemblyPlain
namespace Go.Proofs.Ytdnjipikggehmaa
open Go.RowKit

/-- since w0 nothing has turned below block N; from place off of block blk on, which is not below N, lie the n numbers d -/
structure Cur (N : Nat) (w0 : World) (blk off n : Nat) (d : Array Int) (w : World) : Prop where
  low : N ≤ blk
  lt : blk < w.heap.size
  size : d.size = n
  cell : ∀ t, t < n → w.cell? ⟨blk, off + t, none⟩ = some (.int .i64 d[t]!)
  froz : ∀ t, t < n → w.frozen? ⟨blk, off + t, none⟩ = false
  bel : Below N w0 w

theorem Cur.fam {N : Nat} {w0 : World} {blk off n : Nat} {d : Array Int} {w : World} (h : Cur N w0 blk off n d w) :
    ∃ G : Nat → Int, (∀ t, G t = d[t]!) ∧ (∀ t, t < n → w.cell? ⟨blk, off + t, none⟩ = some (.int .i64 (G t))) ∧ ∀ t, t < n → w.frozen? ⟨blk, off + t, none⟩ = false :=
  ⟨fun t => d[t]!, fun _ => rfl, h.cell, h.froz⟩
theorem Cur.drewN {N : Nat} {w0 : World} {blk off n : Nat} {d : Array Int} {w : World} (h : Cur N w0 blk off n d w) (q : Nat) : Cur N w0 blk off n d (w.drewN q) :=
  ⟨h.low, h.lt, h.size, h.cell, h.froz, ⟨h.bel.os, h.bel.tape, h.bel.output, h.bel.size, h.bel.block⟩⟩
/-- what turned only blocks from blk + 1 on leaves the row as it was -/
theorem Cur.later {N K : Nat} {w0 : World} {blk off n : Nat} {d : Array Int} {w w' : World} (h : Cur N w0 blk off n d w) (hb : Below K w w') (hK : blk < K) : Cur N w0 blk off n d w' :=
  ⟨h.low, Nat.lt_of_lt_of_le h.lt hb.size, h.size, fun t ht => (hb.cell (p := ⟨blk, off + t, none⟩) hK).trans (h.cell t ht), fun t ht => (hb.frozen (p := ⟨blk, off + t, none⟩) hK).trans (h.froz t ht), h.bel.trans (hb.mono (by have := h.low; omega))⟩
theorem Cur.swap {N : Nat} {w0 : World} {blk off n : Nat} {d : Array Int} {w : World} (h : Cur N w0 blk off n d w) {i j : Nat} (hi : i < n) (hj : j < n) {x y : Int} (hx : x = d[j]!) (hy : y = d[i]!) :
    Cur N w0 blk off n (Sort.swp d i j) ((w.setCell ⟨blk, off + i, none⟩ (.int .i64 x)).setCell ⟨blk, off + j, none⟩ (.int .i64 y)) := by
  subst hx hy
  have hs := h.size
  refine ⟨h.low, ?_, by rw [Sort.size_swp]; exact hs, fun t ht => ?_, fun t ht => ?_, (h.bel.setCell (p := ⟨blk, off + i, none⟩) h.low _).setCell (p := ⟨blk, off + j, none⟩) h.low _⟩
  · have := h.lt
    simp [World.setCell]
    exact this
  · have e1 : (w.setCell ⟨blk, off + i, none⟩ (.int .i64 d[j]!)).cell? ⟨blk, off + j, none⟩ = some (.int .i64 d[j]!) := by
      by_cases e : i = j
      · subst e; exact World.cell?_setCell_same _ _ _ (h.cell i hi)
      · rw [World.cell?_setCell_other _ _ _ _ (by simp <;> omega)]; exact h.cell j hj
    by_cases et : t = j
    · subst et
      rw [World.cell?_setCell_same _ _ _ e1, Sort.swp_right d i t (by omega)]
    · rw [World.cell?_setCell_other _ _ _ _ (by simp <;> omega)]
      by_cases ei : t = i
      · subst ei
        rw [World.cell?_setCell_same _ _ _ (h.cell t hi), Sort.swp_left d t j (by omega) et]
      · rw [World.cell?_setCell_other _ _ _ _ (by simp <;> omega), Sort.swp_other d i j t ei et]
        exact h.cell t ht
  · rw [World.frozen?_setCell, World.frozen?_setCell]
    exact h.froz t ht

set_option maxHeartbeats 400000 in
theorem nan_any (x : Int) (w : World) : Calls Try.prog 41 #[.int .i64 x] w fun e w' => e = .returned (.bool false) ∧ w' = w := by
  go_enter Try.func41, Try.ntmps41
  go_wp2
  go_ret
  exact ⟨by simp, rfl⟩

set_option maxHeartbeats 400000 in
theorem less_any (x y : Int) (w : World) : Calls Try.prog 31 #[.int .i64 x, .int .i64 y] w fun e w' => e = .returned (.bool (Sort.ltInt x y)) ∧ w' = w := by
  go_enter Try.func31, Try.ntmps31
  go_wp2_with (go_at_call 41; refine (nan_any _ _).mono ?_; rintro e w' ⟨rfl, rfl⟩)
  go_ret
  exact ⟨rfl, rfl⟩

/-! ### insertion sort, told by its tests -/
theorem inner_go {a j : Nat} {d : Array Int} (hj : a < j) (hl : Sort.ltInt d[j]! d[j - 1]! = true) : Sort.insInner Sort.ltInt a j d = Sort.insInner Sort.ltInt a (j - 1) (Sort.swp d j (j - 1)) := by
  obtain ⟨k, rfl⟩ : ∃ k, j = k + 1 := ⟨j - 1, by omega⟩
  rw [Nat.add_sub_cancel] at hl ⊢
  rw [Sort.insInner, if_pos (by simp [hl]; omega)]
theorem inner_end {a j : Nat} {d : Array Int} (h : j ≤ a ∨ Sort.ltInt d[j]! d[j - 1]! = false) : Sort.insInner Sort.ltInt a j d = d := by
  cases j with
  | zero => rfl
  | succ k =>
    rw [Nat.add_sub_cancel] at h
    rw [Sort.insInner, if_neg]
    intro c
    simp only [Bool.and_eq_true, decide_eq_true_eq] at c
    rcases h with h | h
    · omega
    · rw [h] at c; exact absurd c.2 (by decide)
theorem outer_go {a b i : Nat} {d : Array Int} (h : i < b) : Sort.insOuter Sort.ltInt a b i d = Sort.insOuter Sort.ltInt a b (i + 1) (Sort.insInner Sort.ltInt a i d) := by rw [Sort.insOuter, if_pos h]
theorem outer_end {a b i : Nat} {d : Array Int} (h : ¬ i < b) : Sort.insOuter Sort.ltInt a b i d = d := by rw [Sort.insOuter, if_neg h]

set_option maxHeartbeats 4000000 in
set_option maxRecDepth 100000 in
theorem ins_any (N : Nat) (w0 : World) (blk off n c a b : Nat) (d : Array Int) (w : World) (h : Cur N w0 blk off n d w) (hab : a ≤ b) (hb : b ≤ n) (hn : n ≤ 1048576) :
    Calls Try.prog 25 #[.slice (some ⟨blk, off, none⟩) n c, .int .i64 a, .int .i64 b] w fun e w' =>
      e = .returned (.tuple #[]) ∧ Cur N w0 blk off n (Sort.insertionSort Sort.ltInt d a b) w' := by
  go_enter Try.func25, Try.ntmps25
  go_wp2
  go_loopw [6] (fun s wr => ∃ (i : Nat) (dk : Array Int), s = .int .i64 i ∧ a < i ∧ i ≤ b + 1 ∧ Cur N w0 blk off n dk wr ∧ Hid (Sort.insOuter Sort.ltInt a b i dk = Sort.insOuter Sort.ltInt a b (a + 1) d)) (fun s _ => b + 1 - (intOf s).toNat)
  case atStart => exact ⟨a + 1, d, by go_num, by omega, by omega, h, rfl⟩
  case round =>
    obtain ⟨i, dk, rfl, hai, hib, hC, hO⟩ := hrel
    by_cases hlt : i < b
    · have z1 : (i : Int) < (b : Int) := by omega
      go_wp2
      go_loopw [7] (fun s wr2 => ∃ (j : Nat) (dj : Array Int), s = .int .i64 j ∧ a ≤ j ∧ j ≤ i ∧ Cur N w0 blk off n dj wr2 ∧ Hid (Sort.insInner Sort.ltInt a j dj = Sort.insInner Sort.ltInt a i dk)) (fun s _ => (intOf s).toNat)
      case atStart => exact ⟨i, dk, rfl, by omega, by omega, hC, rfl⟩
      case round =>
        obtain ⟨j, dj, rfl, haj, hji, hC2, hI⟩ := hrel
        obtain ⟨G, hG, hcell, hfroz⟩ := hC2.fam
        have HG : Hid (∀ t, G t = dj[t]!) := hG
        clear hG
        have z2 : (j : Int) < (n : Int) := by omega
        by_cases hja : a < j
        · have z3 : (a : Int) < (j : Int) := by omega
          have z4 : (j : Int) - 1 < (n : Int) := by omega
          by_cases hl : Sort.ltInt (G j) (G (j - 1)) = true
          · go_wp2_with fail
            go_quiet ((go_at_call 31; exact (less_any _ _ _).mono fun _ _ h => ⟨h.1, _, h.2⟩))
            go_wp2_with fail
            have hC3 := hC2.drewN nq
            have hcell3 : ∀ t, t < n → (wr.drewN nq).cell? ⟨blk, off + t, none⟩ = some (.int .i64 (G t)) := hcell
            have hfroz3 : ∀ t, t < n → (wr.drewN nq).frozen? ⟨blk, off + t, none⟩ = false := hfroz
            clear hcell hfroz hC2
            generalize wr.drewN nq = wr3 at hC3 hcell3 hfroz3 ⊢
            go_region
            go_wp2
            go_roundw
            case rel => exact ⟨j - 1, Sort.swp dj j (j - 1), by congr 1; omega, by omega, by omega, (hC3.drewN 1).swap (by omega) (by omega) (HG.out _) (HG.out _), by
              show _ = _
              rw [← hI.out, inner_go hja (by rw [← HG.out, ← HG.out]; exact hl)]⟩
            case measure => simp [intOf]; omega
          · have hl2 : Sort.ltInt (G j) (G (j - 1)) = false := by simpa using hl
            clear hl
            go_wp2_with fail
            go_quiet ((go_at_call 31; exact (less_any _ _ _).mono fun _ _ h => ⟨h.1, _, h.2⟩))
            go_wp2_with fail
            go_roundw
            case rel => exact ⟨i + 1, dj, by go_num, by omega, by omega, hC2.drewN _, by
              show _ = _
              rw [← hO.out, outer_go hlt, ← hI.out, inner_end (Or.inr (by rw [← HG.out, ← HG.out]; exact hl2))]⟩
            case measure => simp [intOf]; omega
        · have z3 : decide ((a : Int) < (j : Int)) = false := decide_eq_false (by omega)
          go_wp2_with fail
          go_quiet ((go_at_call 31; exact (less_any _ _ _).mono fun _ _ h => ⟨h.1, _, h.2⟩))
          go_wp2_with fail
          go_roundw
          case rel => exact ⟨i + 1, dj, by go_num, by omega, by omega, hC2.drewN _, by
            show _ = _
            rw [← hO.out, outer_go hlt, ← hI.out, inner_end (Or.inl (by omega))]⟩
          case measure => simp [intOf]; omega
    · have z1 : ¬ (i : Int) < (b : Int) := by omega
      go_wp2_with fail
      go_end0
      refine ⟨rfl, ?_⟩
      rw [Sort.insertionSort, ← hO.out, outer_end hlt]
      exact hC

end Go.Proofs.Ytdnjipikggehmaa
