/-
  slices.Clone of numbers of 64 bits: a new row of the same numbers. A row as a list of values; append to a row of the call's own.
-/
import Derived.Test.YtdnjipikggehmaaSrt
import Derived.OwnWalk
import Derived.Lib.SliceRun
import Derived.Deep.AppendLies
import Derived.Deep.DeepCutAuto
namespace Go.Proofs.Ytdnjipikggehmaa
open Go.RowKit
set_option linter.unusedVariables false

/-- n numbers as values, from the k-th on -/
def vals (l : Nat → Int) (k n : Nat) : List Value := (List.range n).map fun t => .int .i64 (l (k + t))
/-- n numbers as an array -/
def arr (l : Nat → Int) (n : Nat) : Array Int := ((List.range n).map l).toArray
theorem vals_length (l : Nat → Int) (k n : Nat) : (vals l k n).length = n := by simp [vals]
theorem vals_at {l : Nat → Int} {k n j : Nat} {u : Value} (h : (vals l k n)[j]? = some u) : j < n ∧ u = .int .i64 (l (k + j)) := by
  unfold vals at h
  rw [List.getElem?_map] at h
  rcases Nat.lt_or_ge j n with q | q
  · rw [List.getElem?_range q] at h
    exact ⟨q, by simpa using h.symm⟩
  · rw [List.getElem?_eq_none (by simpa using q)] at h
    simp at h
theorem vals_get {l : Nat → Int} {k n j : Nat} (h : j < n) : (vals l k n)[j]? = some (.int .i64 (l (k + j))) := by
  unfold vals
  rw [List.getElem?_map, List.getElem?_range h]
  rfl
theorem vals_one {l : Nat → Int} {k n : Nat} {u : Value} (h : u ∈ vals l k n) : u.oneCell' = true := by
  unfold vals at h
  obtain ⟨t, _, rfl⟩ := List.mem_map.1 h
  rfl
theorem arr_size (l : Nat → Int) (n : Nat) : (arr l n).size = n := by simp [arr]
theorem arr_at {l : Nat → Int} {n t : Nat} (h : t < n) : (arr l n)[t]! = l t := by
  rw [getElem!_pos _ t (by rw [arr_size]; exact h)]
  simp [arr]
theorem info32 : ∃ i, Try.prog.info? 3 = some i ∧ i.zero = some (.int .i64 0) ∧ i.size = 1 ∧ i.bytes = 8 := by
  have h : (Try.prog.info? 3).map (fun i => (i.zero, i.size, i.bytes)) = some (some (.int .i64 0), 1, 8) := by kernel_rfl
  cases hi : Try.prog.info? 3 with
  | none => rw [hi] at h; simp at h
  | some i => rw [hi] at h; simp at h; exact ⟨i, rfl, h.1, h.2.1, h.2.2⟩
/-- a row that is owned, as the sort takes it -/
theorem cur_of {N : Nat} {w0 w : World} {g cap n : Nat} {l : Nat → Int} (h : w.ownsRow N 3 1 (.slice (some ⟨g, 0, none⟩) n cap) n (vals l 0 n)) (hn : 0 < n) (hb : Below N w0 w) : Cur N w0 g 0 n (arr l n) w := by
  obtain ⟨g', cap', e, h1, h2⟩ := h.form hn
  simp only [Value.slice.injEq, Option.some.injEq, Addr.mk.injEq] at e
  obtain ⟨⟨rfl, _⟩, _, rfl⟩ := e
  refine ⟨h1, h2, arr_size l n, fun t ht => ?_, fun t ht => ?_, hb⟩
  · have := h.cellAt t (by omega)
    rw [vals_get ht, Nat.zero_add] at this
    rw [Nat.zero_add, arr_at ht]
    exact this
  · have := h.frozenAt t
    rw [Nat.zero_add]
    exact this
theorem eq_nil (w : World) (a : Option Addr) (n c n' c' : Nat) : (binOp .eql 22 (.slice a n c) (.slice none n' c')).run Try.prog w = .ok (.bool a.isNone) w := Lib.run_eql_slice_nil w _ _ a n c n' c' Try.underlying22

set_option maxHeartbeats 1000000 in
theorem clone_some (ad : Addr) (n c : Nat) (l : Nat → Int) (w : World) (hm : n ≤ 1048576) (hl : ∀ j u, (vals l 0 n)[j]? = some u → w.cell? (ad.add j) = some u) (hb : 0 < n → ad.block < w.heap.size) :
    Calls Try.prog 10 #[.slice (some ad) n c] w fun e w' => ∃ v, e = .returned v ∧ w'.ownsRow w.heap.size 3 1 v n (vals l 0 n) ∧ Below w.heap.size w w' := by
  have HL : Hid (∀ j u, (vals l 0 n)[j]? = some u → w.cell? (ad.add j) = some u) := hl
  have q := eq_nil
  clear hl
  obtain ⟨i, i1, i2, i3, i4⟩ := info32
  go_enter Try.func10, Try.ntmps10
  go_wp2_with (at_builtin; refine wpList_append_own _ rfl _ _ 22 rfl w.heap.size 3 i (.int .i64 0) 1 8 Try.underlying22 i1 i2 i3 i4 rfl (by omega) _ _ _ rfl (World.ownsRow_made w #[] 0 (Nat.le_refl _) (Nat.zero_le _) (by simp)) ad n c (vals l 0 n) rfl ?qc1 ?qc2 ?qc3 ?qc4 ?qc5 ?qc6 ?_)
  case qc1 => rw [vals_length]; omega
  case qc2 =>
    intro j u hj
    have hlt := (vals_at hj).1
    have := HL.out j u hj
    exact Lib.cell?_alloc_some _ this
  case qc3 => exact fun u hu => vals_one hu
  case qc4 => unfold maxLen; omega
  case qc5 => omega
  case qc6 => simp
  intro v' w1 hown hgrow hnil
  have HO : Hid (w1.ownsRow w.heap.size 3 1 v' n (vals l 0 n)) := hown
  have HB : Hid (Below w.heap.size w w1) := ((Below.refl _ w).alloc (Nat.le_refl _) _).grown hgrow (by simp) (by intro k hk; simp [Value.ownBlock] at hk; omega)
  clear hown hgrow hnil
  go_wp2_with fail
  go_ret
  exact ⟨v', rfl, HO.out, HB.out⟩

set_option maxHeartbeats 1000000 in
theorem clone_nil (n c : Nat) (w : World) :
    Calls Try.prog 10 #[.slice none n c] w fun e w' => e = .returned (.slice none 0 0) ∧ w' = w := by
  have q := eq_nil
  go_enter Try.func10, Try.ntmps10
  go_wp2_with fail
  go_ret
  exact ⟨rfl, rfl⟩

end Go.Proofs.Ytdnjipikggehmaa
