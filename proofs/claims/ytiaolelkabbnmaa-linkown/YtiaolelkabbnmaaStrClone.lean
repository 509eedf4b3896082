/-
  strings.Clone: the same bytes; memory that was there stays as it was.
-/
import Derived.Test.YtiaolelkabbnmaaCrcPut
import Derived.Lib.BufferWrite
import Derived.Lib.UnsafeStr
import Derived.Deep.OwnRows
namespace Go.Proofs.Ytiaolelkabbnmaa
open Go.RowKit
set_option linter.unusedVariables false

/-- a row all of whose cells are written over by a text's bytes -/
theorem over_all (M : Array Value) (s : ByteArray) (h : M.size = s.size) : (M.toList.take 0 ++ Lib.byteCells s.data.toList ++ M.toList.drop (0 + s.size)).toArray = (Lib.byteCells s.data.toList).toArray := by
  have e : M.toList.drop (0 + s.size) = [] := List.drop_eq_nil_of_le (by simp [h])
  rw [e]
  simp

/-- a new row, a text copied into it, the row seen as a text: three worlds, one after another -/
theorem three_worlds (s : ByteArray) (w : World) (h0 : 0 < s.size) (hm : s.size ≤ 140737488351232) : ∃ W1 W2 W3 : World,
    (Instr.makeSlice 44 (.int .i64 (s.size : Int)) (.int .i64 (s.size : Int))).run Try.prog w = .ok (.slice (some ⟨w.heap.size, 0, none⟩) s.size s.size) W1 ∧
    (Builtin.copy_ #[44, 9] 3 #[.slice (some ⟨w.heap.size, 0, none⟩) s.size s.size, .string s]).run Try.prog W1 = .ok (goInt s.size) W2 ∧
    (Builtin.unsafeString_ #[69, 3] 9 #[.pointer (some ⟨w.heap.size, 0, none⟩), .int .i64 (s.size : Int)]).run Try.prog W2 = .ok (.string s) W3 ∧
    Below w.heap.size w W3 := by
  have one : (Try.prog.info? 5).map (fun i => (i.zero, i.size, i.bytes)) = some (some (.int .u8 0), 1, 1) := by kernel_rfl
  have mk := run_make_row' (P := Try.prog) 44 5 (.int .u8 0) 1 Try.underlying44 one rfl .i64 .i64 s.size (by omega) (by omega) w
  have width : (madeCells #[.int .u8 0] s.size).size = s.size := by simp [size_madeCells]
  have born := heap_alloc_new w (.cells (madeCells #[.int .u8 0] s.size) 5)
  have single : (Try.prog.info? 5).map (·.size) = some 1 := by kernel_rfl
  have cp := Lib.run_copy_row_string (P := Try.prog) _ 44 9 3 5 w.heap.size 0 s.size s.size s _ 5 Try.underlying44 single born (Nat.le_refl _) (by omega)
  rw [over_all _ s width] at cp
  have row := setRow_heap (w.alloc (.cells (madeCells #[.int .u8 0] s.size) 5)) w.heap.size _ (Lib.byteCells s.data.toList).toArray 5 (0, 0) born
  have len : (Lib.byteCells s.data.toList).toArray.size = s.size := by rw [List.size_toArray, Lib.byteCells_length, ← Lib.size_eq]
  have us := Lib.run_unsafeString_row (P := Try.prog) _ 69 3 9 5 Try.underlying69 (by kernel_rfl) w.heap.size (Lib.byteCells s.data.toList).toArray.size (by unfold World.shape?; rw [row]) s.data.toList (by intro e; rw [Lib.size_eq, e] at h0; exact absurd h0 (by decide)) (by rw [← Lib.size_eq]; omega) (by rw [← Lib.size_eq]; omega)
    (fun j x hx => Lib.cells_of_row row (Lib.byteCells s.data.toList).toArray.size j _ (by rw [List.take_of_length_le (by simp)]; simp [Lib.byteCells, hx]))
  rw [← Lib.size_eq] at us
  refine ⟨_, _, _, mk, cp, us, Lib.below_freeze (p := ⟨w.heap.size, 0, none⟩) ?_ (Nat.le_refl _) _⟩
  exact ((Below.refl w.heap.size w).alloc (Nat.le_refl _) _).trans ⟨rfl, rfl, rfl, by simp, fun k hk => setRow_other _ _ _ _ (by omega)⟩

set_option maxHeartbeats 1000000 in
set_option maxRecDepth 100000 in
theorem lclone_any (s : ByteArray) (w : World) (hm : s.size ≤ 140737488351232) :
    Calls Try.prog 46 #[.string s] w fun e w' => e = .returned (.string s) ∧ Below w.heap.size w w' := by
  rcases Nat.eq_zero_or_pos s.size with h0 | h0
  · obtain rfl : s = ⟨#[]⟩ := ByteArray.ext (Array.eq_empty_of_size_eq_zero h0)
    go_enter Try.func46, Try.ntmps46
    go_wp2
    go_ret
    exact ⟨rfl, Below.refl _ _⟩
  · obtain ⟨W1, W2, W3, h1, h2, h3, h4⟩ := three_worlds s w h0 hm
    have HB : Hid (_) := h4
    clear h4
    go_enter Try.func46, Try.ntmps46
    go_wp2
    go_ret
    exact ⟨rfl, HB.out⟩

set_option maxHeartbeats 400000 in
theorem sclone_any (s : ByteArray) (w : World) (hm : s.size ≤ 140737488351232) :
    Calls Try.prog 42 #[.string s] w fun e w' => e = .returned (.string s) ∧ Below w.heap.size w w' := by
  go_enter Try.func42, Try.ntmps42
  go_wp2_with fail
  refine (lclone_any s _ hm).mono ?_
  rintro e w1 ⟨rfl, hb⟩
  have HB : Hid (_) := hb
  clear hb
  go_wp2_with fail
  go_ret
  exact ⟨rfl, HB.out⟩

end Go.Proofs.Ytiaolelkabbnmaa
