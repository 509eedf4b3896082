/-
  slices.Delete of one number of a row of the call's own: by the library's contract, laid at this program.
-/
import Derived.Test.YtdnjipikggehmaaTikMax
import Derived.Shelf.Slices.Cells
import Derived.Deep.MidRow
namespace Go.Proofs.Ytdnjipikggehmaa
open Go.RowKit
set_option linter.unusedVariables false

def delRen : Go.Shelf.Ren := ⟨fun | 23 => 19 | n => n, fun | 0 => 0 | 3 => 3 | 4 => 4 | 22 => 22 | n => n, fun n => n⟩
theorem laysDel : Lays2.n23 Try.prog delRen where
  mixed := by kernel_rfl
  f23 := Try.func19.trans (congrArg some (by kernel_rfl))
  t0 := Try.underlying0
  a0 := Try.isAgg0
  z0 := Try.sizeOf0
  v0 := Try.zeroValue0
  t3 := Try.underlying3
  a3 := Try.isAgg3
  z3 := Try.sizeOf3
  v3 := Try.zeroValue3
  t4 := Try.underlying4
  a4 := Try.isAgg4
  z4 := Try.sizeOf4
  v4 := Try.zeroValue4
  t22 := Try.underlying22
  a22 := Try.isAgg22
  z22 := Try.sizeOf22
  v22 := Try.zeroValue22
  i3 := by kernel_rfl

/-- since w0 nothing has turned below block N; in block b, which is not below N, the n numbers g -/
structure Rs (N : Nat) (w0 : World) (b n : Nat) (g : Nat → Int) (w : World) : Prop where
  low : N ≤ b
  lt : b < w.heap.size
  cell : ∀ t, t < n → w.cell? ⟨b, 0 + t, none⟩ = some (.int .i64 (g t))
  froz : ∀ t, t < n → w.frozen? ⟨b, 0 + t, none⟩ = false
  bel : Below N w0 w
theorem below_cells {N : Nat} {w0 : World} {b : Nat} (hN : N ≤ b) : ∀ (vs : List Value) (o : Nat) (w : World), Below N w0 w → Below N w0 (w.setCells b o vs)
  | [], _, _, h => h
  | v :: r, o, w, h => below_cells hN r (o + 1) _ (h.setCell (p := ⟨b, o, none⟩) hN v)
theorem size_cells (b : Nat) : ∀ (vs : List Value) (o : Nat) (w : World), (w.setCells b o vs).heap.size = w.heap.size
  | [], _, _ => rfl
  | v :: r, o, w => by rw [World.setCells, size_cells b r]; simp [World.setCell]
/-- without the i-th -/
def del (g : Nat → Int) (i : Nat) : Nat → Int := fun t => if t < i then g t else g (t + 1)
theorem del_list (g : Nat → Int) {i m t : Nat} (hi : i ≤ m) (ht : t < m) : ((((List.range (m + 1)).map g).take (m + 1)).take i ++ (((List.range (m + 1)).map g).take (m + 1)).drop (i + 1) ++ List.replicate (i + 1 - i) (0 : Int))[t]? = some (del g i t) := by
  have e0 : ((List.range (m + 1)).map g).take (m + 1) = (List.range (m + 1)).map g := List.take_of_length_le (by simp)
  rw [e0]
  unfold del
  by_cases h : t < i
  · rw [if_pos h, List.append_assoc, List.getElem?_append_left (by simp; omega), List.getElem?_take_of_lt h, List.getElem?_map, List.getElem?_range (by omega)]
    rfl
  · rw [if_neg h, List.getElem?_append_left (by simp; omega), List.getElem?_append_right (by simp; omega), List.getElem?_drop, List.getElem?_map]
    have e1 : (List.take i (List.map g (List.range (m + 1)))).length = i := by simp; omega
    rw [e1, List.getElem?_range (by omega)]
    show some (g _) = _
    congr 2
    omega

theorem del_any (N : Nat) (w0 : World) (b n m c i : Nat) (g : Nat → Int) (w : World) (h : Rs N w0 b n g w) (hnm : n = m + 1) (hi : i < n) (hc : n ≤ c) (hm : c ≤ maxLen) :
    Calls Try.prog 19 #[.slice (some ⟨b, 0, none⟩) n c, .int .i64 (i : Int), .int .i64 ((i : Int) + 1)] w fun e w' => e = .returned (.slice (some ⟨b, 0, none⟩) m c) ∧ Rs N w0 b m (del g i) w' := by
  subst hnm
  have hz : ((List.range (m + 1)).map g).length = m + 1 := by simp
  have C := Any.slices_Delete_int_cells laysDel b 0 (m + 1) c i (i + 1) ((List.range (m + 1)).map g) w (by omega) hc (by unfold maxLen at hm; omega) (by omega) (by omega) (fun j hj => by
    rw [hz] at hj
    rw [h.cell j hj]
    simp [List.getD, hj]) h.froz
  have e1 : ((i + 1 : Nat) : Int) = (i : Int) + 1 := by omega
  rw [e1] at C
  refine C.mono ?_
  rintro e w' ⟨rfl, q, rfl⟩
  refine ⟨by rw [show m + 1 - (i + 1 - i) = m by omega], h.low, by rw [size_cells]; exact h.lt, fun t ht => ?_, fun t ht => ?_, below_cells h.low _ _ _ ⟨h.bel.os, h.bel.tape, h.bel.output, h.bel.size, h.bel.block⟩⟩
  · refine World.rangeAt_setCells_same (w.drewN q) b 0 _ (fun j hj => ?_) t (.int .i64 (del g i t)) (by rw [List.getElem?_map, del_list g (by omega) ht]; rfl)
    have hj2 : j < m + 1 := by simp at hj; omega
    exact ⟨by rw [show (w.drewN q).cell? ⟨b, 0 + j, none⟩ = w.cell? ⟨b, 0 + j, none⟩ from rfl, h.cell j hj2]; rfl, h.froz j hj2⟩
  · rw [World.frozen?_setCells]
    exact h.froz t (by omega)

end Go.Proofs.Ytdnjipikggehmaa
