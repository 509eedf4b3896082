/-
  lane.changes: the map of what turns a state. Of its region's 59 operations the loads and what is built of them are taken first; then the map is made; then the entries go in, in whatever order.
-/
import Derived.Test.YtnomceopmjlbhaaLanMap
import Derived.WalkSpells
import Derived.WalkLawsBesides
import Derived.Handy
import Derived.Deep.RegionHeld3
namespace Go.Proofs.Ytnomceopmjlbhaa
open Go Go.RowKit
set_option linter.unusedVariables false

/-- a map that was made since w, and holds what turns a state -/
def Known (w : World) (e : Ending) (w' : World) : Prop := ∃ B D, e = .returned (.map (some B)) ∧ Below w.heap.size w w' ∧ w.heap.size ≤ B ∧ w'.ownsMap Try.prog 60 RL B 14 D ∧ Tb D
def leftB (ops : Array Oper) (E T : List Nat) (l : Array Bool) : Bool := l.size == ops.size && (List.range ops.size).all fun i => l.getD i true == !(E.contains i || T.contains i)
theorem leftB_spec {ops : Array Oper} {E T : List Nat} {l : Array Bool} (h : leftB ops E T l = true) : Left ops E T l := by
  unfold leftB at h
  rw [Bool.and_eq_true, beq_iff_eq, List.all_eq_true] at h
  exact ⟨h.1, fun i hi => beq_iff_eq.1 (h.2 i (List.mem_range.2 hi))⟩
theorem entL_all {p : Nat → Prop} (h4 : p 4) (h8 : p 8) (h12 : p 12) (h16 : p 16) (h20 : p 20) (h24 : p 24) (h28 : p 28) (h32 : p 32) (h36 : p 36) (h40 : p 40) (h44 : p 44) (h48 : p 48) (h52 : p 52) (h56 : p 56) : ∀ i ∈ entL, p i := by
  intro i hi
  simp only [entL, List.mem_cons, List.not_mem_nil, or_false] at hi
  rcases hi with rfl | rfl | rfl | rfl | rfl | rfl | rfl | rfl | rfl | rfl | rfl | rfl | rfl | rfl <;> assumption

theorem key_is (i : Nat) (h : i ∈ entL) (x : Int × Bool × Int) (hx : keyAt i = x) : keyOf Try.prog 60 (cav x) = some (klI i) := by
  subst hx
  exact key_some (keyAt_in h)
theorem elem_is (i : Nat) (m : Int) (b : Bool) (h : resAt i = (m, b)) : RL (.agg #[.int .i64 m, .bool b, .int .i64 0]) = some (dI i, []) := by
  unfold dI
  rw [h]
  rfl
theorem kf4 : keyOf Try.prog 60 (.agg #[.int .i64 0, .bool false, .int .i64 0, .int .i64 1]) = some (klI 4) := key_is 4 (by decide) (0, false, 1) (by decide)
theorem df4 : RL (.agg #[.int .i64 1, .bool false, .int .i64 0]) = some (dI 4, []) := elem_is 4 1 false (by decide)
theorem kf8 : keyOf Try.prog 60 (.agg #[.int .i64 1, .bool false, .int .i64 0, .int .i64 2]) = some (klI 8) := key_is 8 (by decide) (1, false, 2) (by decide)
theorem df8 : RL (.agg #[.int .i64 0, .bool false, .int .i64 0]) = some (dI 8, []) := elem_is 8 0 false (by decide)
theorem kf12 : keyOf Try.prog 60 (.agg #[.int .i64 0, .bool false, .int .i64 0, .int .i64 3]) = some (klI 12) := key_is 12 (by decide) (0, false, 3) (by decide)
theorem df12 : RL (.agg #[.int .i64 2, .bool true, .int .i64 0]) = some (dI 12, []) := elem_is 12 2 true (by decide)
theorem kf16 : keyOf Try.prog 60 (.agg #[.int .i64 1, .bool false, .int .i64 0, .int .i64 3]) = some (klI 16) := key_is 16 (by decide) (1, false, 3) (by decide)
theorem df16 : RL (.agg #[.int .i64 2, .bool true, .int .i64 0]) = some (dI 16, []) := elem_is 16 2 true (by decide)
theorem kf20 : keyOf Try.prog 60 (.agg #[.int .i64 3, .bool false, .int .i64 0, .int .i64 3]) = some (klI 20) := key_is 20 (by decide) (3, false, 3) (by decide)
theorem df20 : RL (.agg #[.int .i64 3, .bool true, .int .i64 0]) = some (dI 20, []) := elem_is 20 3 true (by decide)
theorem kf24 : keyOf Try.prog 60 (.agg #[.int .i64 1, .bool false, .int .i64 0, .int .i64 4]) = some (klI 24) := key_is 24 (by decide) (1, false, 4) (by decide)
theorem df24 : RL (.agg #[.int .i64 0, .bool false, .int .i64 0]) = some (dI 24, []) := elem_is 24 0 false (by decide)
theorem kf28 : keyOf Try.prog 60 (.agg #[.int .i64 0, .bool false, .int .i64 0, .int .i64 5]) = some (klI 28) := key_is 28 (by decide) (0, false, 5) (by decide)
theorem df28 : RL (.agg #[.int .i64 3, .bool false, .int .i64 0]) = some (dI 28, []) := elem_is 28 3 false (by decide)
theorem kf32 : keyOf Try.prog 60 (.agg #[.int .i64 1, .bool false, .int .i64 0, .int .i64 5]) = some (klI 32) := key_is 32 (by decide) (1, false, 5) (by decide)
theorem df32 : RL (.agg #[.int .i64 3, .bool false, .int .i64 0]) = some (dI 32, []) := elem_is 32 3 false (by decide)
theorem kf36 : keyOf Try.prog 60 (.agg #[.int .i64 2, .bool true, .int .i64 0, .int .i64 5]) = some (klI 36) := key_is 36 (by decide) (2, true, 5) (by decide)
theorem df36 : RL (.agg #[.int .i64 3, .bool true, .int .i64 0]) = some (dI 36, []) := elem_is 36 3 true (by decide)
theorem kf40 : keyOf Try.prog 60 (.agg #[.int .i64 3, .bool false, .int .i64 0, .int .i64 6]) = some (klI 40) := key_is 40 (by decide) (3, false, 6) (by decide)
theorem df40 : RL (.agg #[.int .i64 0, .bool false, .int .i64 0]) = some (dI 40, []) := elem_is 40 0 false (by decide)
theorem kf44 : keyOf Try.prog 60 (.agg #[.int .i64 3, .bool true, .int .i64 0, .int .i64 6]) = some (klI 44) := key_is 44 (by decide) (3, true, 6) (by decide)
theorem df44 : RL (.agg #[.int .i64 2, .bool true, .int .i64 0]) = some (dI 44, []) := elem_is 44 2 true (by decide)
theorem kf48 : keyOf Try.prog 60 (.agg #[.int .i64 2, .bool true, .int .i64 0, .int .i64 7]) = some (klI 48) := key_is 48 (by decide) (2, true, 7) (by decide)
theorem df48 : RL (.agg #[.int .i64 0, .bool false, .int .i64 0]) = some (dI 48, []) := elem_is 48 0 false (by decide)
theorem kf52 : keyOf Try.prog 60 (.agg #[.int .i64 3, .bool false, .int .i64 0, .int .i64 7]) = some (klI 52) := key_is 52 (by decide) (3, false, 7) (by decide)
theorem df52 : RL (.agg #[.int .i64 0, .bool false, .int .i64 0]) = some (dI 52, []) := elem_is 52 0 false (by decide)
theorem kf56 : keyOf Try.prog 60 (.agg #[.int .i64 3, .bool true, .int .i64 0, .int .i64 7]) = some (klI 56) := key_is 56 (by decide) (3, true, 7) (by decide)
theorem df56 : RL (.agg #[.int .i64 0, .bool false, .int .i64 0]) = some (dI 56, []) := elem_is 56 0 false (by decide)

set_option maxHeartbeats 16000000 in
set_option maxRecDepth 100000 in
theorem changes_any (w : World) : Calls Try.prog 31 #[] w fun e w' => Known w e w' := by
  have hmm := @run_makeMap Try.prog
  go_enter Try.func31, Try.ntmps31
  go_wp2_with fail
  obtain ⟨W0, hW0, B0', Z0'⟩ := lay5n w #[.int .i64 0, .bool false, .int .i64 0] #[.int .i64 1, .bool false, .int .i64 0] #[.int .i64 3, .bool false, .int .i64 0] #[.int .i64 2, .bool true, .int .i64 0] #[.int .i64 3, .bool true, .int .i64 0] 23 23 23 23 23
  rw [hW0]
  have B0 : Hid (_) := B0'
  have Z0 : Hid (_) := Z0'
  clear hW0 B0' Z0'
  refine wp_region_noPanic ?_
  refine wp_region_held_drew (S := fun W => Hid (Lay w [[.int .i64 0, .bool false, .int .i64 0], [.int .i64 1, .bool false, .int .i64 0], [.int .i64 3, .bool false, .int .i64 0], [.int .i64 2, .bool true, .int .i64 0], [.int .i64 3, .bool true, .int .i64 0]] W) ∧ Hid (W0.heap.size ≤ W.heap.size)) (by kernel_rfl) ⟨B0.out.drew, Nat.le_refl _⟩ (fun hS => ?_)
  refine wpAnyH_take (i := 1) (oi := { dst := some 12, op := Op.load 23 (Operand.tmp 1), type := 23, pos := "lane.go:78", after := #[], guard := none }) (v := .agg #[.int .i64 0, .bool false, .int .i64 0]) rfl (by kernel_rfl) (by kernel_rfl) (by kernel_rfl) (fun _ _ _ h => h) (Or.inl ⟨by rfl, ?_⟩) hS ?_
  · intro W hW
    have a0 := (hW.1.out.blk 0 (w.heap.size) _ rfl rfl).cell 0 _ rfl; have a1 := (hW.1.out.blk 0 (w.heap.size) _ rfl rfl).cell 1 _ rfl; have a2 := (hW.1.out.blk 0 (w.heap.size) _ rfl rfl).cell 2 _ rfl
    go_simp
  simp only [Act.put, List.setIfInBounds_toArray, List.set_cons_zero, List.set_cons_succ]
  refine wpAnyH_take (i := 2) (oi := { dst := some 13, op := Op.build 60 #[(0, Operand.tmp 12), (1, Operand.const (.int .i64 1))], type := 60, pos := "lane.go:78", after := #[{ on := 1, ground := Ground.data }], guard := none }) (v := .agg #[.int .i64 0, .bool false, .int .i64 0, .int .i64 1]) rfl (by kernel_rfl) (by kernel_rfl) (by kernel_rfl) (fun _ _ _ h => h) (Or.inl ⟨by rfl, ?_⟩) hS ?_
  · intro W hW
    go_simp
  simp only [Act.put, List.setIfInBounds_toArray, List.set_cons_zero, List.set_cons_succ]
  refine wpAnyH_take (i := 3) (oi := { dst := some 14, op := Op.load 23 (Operand.tmp 2), type := 23, pos := "lane.go:78", after := #[], guard := none }) (v := .agg #[.int .i64 1, .bool false, .int .i64 0]) rfl (by kernel_rfl) (by kernel_rfl) (by kernel_rfl) (fun _ _ _ h => h) (Or.inl ⟨by rfl, ?_⟩) hS ?_
  · intro W hW
    have a0 := (hW.1.out.blk 1 (w.heap.size + 1) _ rfl rfl).cell 0 _ rfl; have a1 := (hW.1.out.blk 1 (w.heap.size + 1) _ rfl rfl).cell 1 _ rfl; have a2 := (hW.1.out.blk 1 (w.heap.size + 1) _ rfl rfl).cell 2 _ rfl
    go_simp
  simp only [Act.put, List.setIfInBounds_toArray, List.set_cons_zero, List.set_cons_succ]
  refine wpAnyH_take (i := 5) (oi := { dst := some 15, op := Op.load 23 (Operand.tmp 2), type := 23, pos := "lane.go:78", after := #[], guard := none }) (v := .agg #[.int .i64 1, .bool false, .int .i64 0]) rfl (by kernel_rfl) (by kernel_rfl) (by kernel_rfl) (fun _ _ _ h => h) (Or.inl ⟨by rfl, ?_⟩) hS ?_
  · intro W hW
    have a0 := (hW.1.out.blk 1 (w.heap.size + 1) _ rfl rfl).cell 0 _ rfl; have a1 := (hW.1.out.blk 1 (w.heap.size + 1) _ rfl rfl).cell 1 _ rfl; have a2 := (hW.1.out.blk 1 (w.heap.size + 1) _ rfl rfl).cell 2 _ rfl
    go_simp
  simp only [Act.put, List.setIfInBounds_toArray, List.set_cons_zero, List.set_cons_succ]
  refine wpAnyH_take (i := 6) (oi := { dst := some 16, op := Op.build 60 #[(0, Operand.tmp 15), (1, Operand.const (.int .i64 2))], type := 60, pos := "lane.go:78", after := #[{ on := 5, ground := Ground.data }], guard := none }) (v := .agg #[.int .i64 1, .bool false, .int .i64 0, .int .i64 2]) rfl (by kernel_rfl) (by kernel_rfl) (by kernel_rfl) (fun _ _ _ h => h) (Or.inl ⟨by rfl, ?_⟩) hS ?_
  · intro W hW
    go_simp
  simp only [Act.put, List.setIfInBounds_toArray, List.set_cons_zero, List.set_cons_succ]
  refine wpAnyH_take (i := 7) (oi := { dst := some 17, op := Op.load 23 (Operand.tmp 1), type := 23, pos := "lane.go:78", after := #[], guard := none }) (v := .agg #[.int .i64 0, .bool false, .int .i64 0]) rfl (by kernel_rfl) (by kernel_rfl) (by kernel_rfl) (fun _ _ _ h => h) (Or.inl ⟨by rfl, ?_⟩) hS ?_
  · intro W hW
    have a0 := (hW.1.out.blk 0 (w.heap.size) _ rfl rfl).cell 0 _ rfl; have a1 := (hW.1.out.blk 0 (w.heap.size) _ rfl rfl).cell 1 _ rfl; have a2 := (hW.1.out.blk 0 (w.heap.size) _ rfl rfl).cell 2 _ rfl
    go_simp
  simp only [Act.put, List.setIfInBounds_toArray, List.set_cons_zero, List.set_cons_succ]
  refine wpAnyH_take (i := 9) (oi := { dst := some 18, op := Op.load 23 (Operand.tmp 1), type := 23, pos := "lane.go:78", after := #[], guard := none }) (v := .agg #[.int .i64 0, .bool false, .int .i64 0]) rfl (by kernel_rfl) (by kernel_rfl) (by kernel_rfl) (fun _ _ _ h => h) (Or.inl ⟨by rfl, ?_⟩) hS ?_
  · intro W hW
    have a0 := (hW.1.out.blk 0 (w.heap.size) _ rfl rfl).cell 0 _ rfl; have a1 := (hW.1.out.blk 0 (w.heap.size) _ rfl rfl).cell 1 _ rfl; have a2 := (hW.1.out.blk 0 (w.heap.size) _ rfl rfl).cell 2 _ rfl
    go_simp
  simp only [Act.put, List.setIfInBounds_toArray, List.set_cons_zero, List.set_cons_succ]
  refine wpAnyH_take (i := 10) (oi := { dst := some 19, op := Op.build 60 #[(0, Operand.tmp 18), (1, Operand.const (.int .i64 3))], type := 60, pos := "lane.go:78", after := #[{ on := 9, ground := Ground.data }], guard := none }) (v := .agg #[.int .i64 0, .bool false, .int .i64 0, .int .i64 3]) rfl (by kernel_rfl) (by kernel_rfl) (by kernel_rfl) (fun _ _ _ h => h) (Or.inl ⟨by rfl, ?_⟩) hS ?_
  · intro W hW
    go_simp
  simp only [Act.put, List.setIfInBounds_toArray, List.set_cons_zero, List.set_cons_succ]
  refine wpAnyH_take (i := 11) (oi := { dst := some 20, op := Op.load 23 (Operand.tmp 4), type := 23, pos := "lane.go:78", after := #[], guard := none }) (v := .agg #[.int .i64 2, .bool true, .int .i64 0]) rfl (by kernel_rfl) (by kernel_rfl) (by kernel_rfl) (fun _ _ _ h => h) (Or.inl ⟨by rfl, ?_⟩) hS ?_
  · intro W hW
    have a0 := (hW.1.out.blk 3 (w.heap.size + 1 + 1 + 1) _ rfl rfl).cell 0 _ rfl; have a1 := (hW.1.out.blk 3 (w.heap.size + 1 + 1 + 1) _ rfl rfl).cell 1 _ rfl; have a2 := (hW.1.out.blk 3 (w.heap.size + 1 + 1 + 1) _ rfl rfl).cell 2 _ rfl
    go_simp
  simp only [Act.put, List.setIfInBounds_toArray, List.set_cons_zero, List.set_cons_succ]
  refine wpAnyH_take (i := 13) (oi := { dst := some 21, op := Op.load 23 (Operand.tmp 2), type := 23, pos := "lane.go:78", after := #[], guard := none }) (v := .agg #[.int .i64 1, .bool false, .int .i64 0]) rfl (by kernel_rfl) (by kernel_rfl) (by kernel_rfl) (fun _ _ _ h => h) (Or.inl ⟨by rfl, ?_⟩) hS ?_
  · intro W hW
    have a0 := (hW.1.out.blk 1 (w.heap.size + 1) _ rfl rfl).cell 0 _ rfl; have a1 := (hW.1.out.blk 1 (w.heap.size + 1) _ rfl rfl).cell 1 _ rfl; have a2 := (hW.1.out.blk 1 (w.heap.size + 1) _ rfl rfl).cell 2 _ rfl
    go_simp
  simp only [Act.put, List.setIfInBounds_toArray, List.set_cons_zero, List.set_cons_succ]
  refine wpAnyH_take (i := 14) (oi := { dst := some 22, op := Op.build 60 #[(0, Operand.tmp 21), (1, Operand.const (.int .i64 3))], type := 60, pos := "lane.go:78", after := #[{ on := 13, ground := Ground.data }], guard := none }) (v := .agg #[.int .i64 1, .bool false, .int .i64 0, .int .i64 3]) rfl (by kernel_rfl) (by kernel_rfl) (by kernel_rfl) (fun _ _ _ h => h) (Or.inl ⟨by rfl, ?_⟩) hS ?_
  · intro W hW
    go_simp
  simp only [Act.put, List.setIfInBounds_toArray, List.set_cons_zero, List.set_cons_succ]
  refine wpAnyH_take (i := 15) (oi := { dst := some 23, op := Op.load 23 (Operand.tmp 4), type := 23, pos := "lane.go:78", after := #[], guard := none }) (v := .agg #[.int .i64 2, .bool true, .int .i64 0]) rfl (by kernel_rfl) (by kernel_rfl) (by kernel_rfl) (fun _ _ _ h => h) (Or.inl ⟨by rfl, ?_⟩) hS ?_
  · intro W hW
    have a0 := (hW.1.out.blk 3 (w.heap.size + 1 + 1 + 1) _ rfl rfl).cell 0 _ rfl; have a1 := (hW.1.out.blk 3 (w.heap.size + 1 + 1 + 1) _ rfl rfl).cell 1 _ rfl; have a2 := (hW.1.out.blk 3 (w.heap.size + 1 + 1 + 1) _ rfl rfl).cell 2 _ rfl
    go_simp
  simp only [Act.put, List.setIfInBounds_toArray, List.set_cons_zero, List.set_cons_succ]
  refine wpAnyH_take (i := 17) (oi := { dst := some 24, op := Op.load 23 (Operand.tmp 3), type := 23, pos := "lane.go:78", after := #[], guard := none }) (v := .agg #[.int .i64 3, .bool false, .int .i64 0]) rfl (by kernel_rfl) (by kernel_rfl) (by kernel_rfl) (fun _ _ _ h => h) (Or.inl ⟨by rfl, ?_⟩) hS ?_
  · intro W hW
    have a0 := (hW.1.out.blk 2 (w.heap.size + 1 + 1) _ rfl rfl).cell 0 _ rfl; have a1 := (hW.1.out.blk 2 (w.heap.size + 1 + 1) _ rfl rfl).cell 1 _ rfl; have a2 := (hW.1.out.blk 2 (w.heap.size + 1 + 1) _ rfl rfl).cell 2 _ rfl
    go_simp
  simp only [Act.put, List.setIfInBounds_toArray, List.set_cons_zero, List.set_cons_succ]
  refine wpAnyH_take (i := 18) (oi := { dst := some 25, op := Op.build 60 #[(0, Operand.tmp 24), (1, Operand.const (.int .i64 3))], type := 60, pos := "lane.go:78", after := #[{ on := 17, ground := Ground.data }], guard := none }) (v := .agg #[.int .i64 3, .bool false, .int .i64 0, .int .i64 3]) rfl (by kernel_rfl) (by kernel_rfl) (by kernel_rfl) (fun _ _ _ h => h) (Or.inl ⟨by rfl, ?_⟩) hS ?_
  · intro W hW
    go_simp
  simp only [Act.put, List.setIfInBounds_toArray, List.set_cons_zero, List.set_cons_succ]
  refine wpAnyH_take (i := 19) (oi := { dst := some 26, op := Op.load 23 (Operand.tmp 5), type := 23, pos := "lane.go:78", after := #[], guard := none }) (v := .agg #[.int .i64 3, .bool true, .int .i64 0]) rfl (by kernel_rfl) (by kernel_rfl) (by kernel_rfl) (fun _ _ _ h => h) (Or.inl ⟨by rfl, ?_⟩) hS ?_
  · intro W hW
    have a0 := (hW.1.out.blk 4 (w.heap.size + 1 + 1 + 1 + 1) _ rfl rfl).cell 0 _ rfl; have a1 := (hW.1.out.blk 4 (w.heap.size + 1 + 1 + 1 + 1) _ rfl rfl).cell 1 _ rfl; have a2 := (hW.1.out.blk 4 (w.heap.size + 1 + 1 + 1 + 1) _ rfl rfl).cell 2 _ rfl
    go_simp
  simp only [Act.put, List.setIfInBounds_toArray, List.set_cons_zero, List.set_cons_succ]
  refine wpAnyH_take (i := 21) (oi := { dst := some 27, op := Op.load 23 (Operand.tmp 2), type := 23, pos := "lane.go:78", after := #[], guard := none }) (v := .agg #[.int .i64 1, .bool false, .int .i64 0]) rfl (by kernel_rfl) (by kernel_rfl) (by kernel_rfl) (fun _ _ _ h => h) (Or.inl ⟨by rfl, ?_⟩) hS ?_
  · intro W hW
    have a0 := (hW.1.out.blk 1 (w.heap.size + 1) _ rfl rfl).cell 0 _ rfl; have a1 := (hW.1.out.blk 1 (w.heap.size + 1) _ rfl rfl).cell 1 _ rfl; have a2 := (hW.1.out.blk 1 (w.heap.size + 1) _ rfl rfl).cell 2 _ rfl
    go_simp
  simp only [Act.put, List.setIfInBounds_toArray, List.set_cons_zero, List.set_cons_succ]
  refine wpAnyH_take (i := 22) (oi := { dst := some 28, op := Op.build 60 #[(0, Operand.tmp 27), (1, Operand.const (.int .i64 4))], type := 60, pos := "lane.go:78", after := #[{ on := 21, ground := Ground.data }], guard := none }) (v := .agg #[.int .i64 1, .bool false, .int .i64 0, .int .i64 4]) rfl (by kernel_rfl) (by kernel_rfl) (by kernel_rfl) (fun _ _ _ h => h) (Or.inl ⟨by rfl, ?_⟩) hS ?_
  · intro W hW
    go_simp
  simp only [Act.put, List.setIfInBounds_toArray, List.set_cons_zero, List.set_cons_succ]
  refine wpAnyH_take (i := 23) (oi := { dst := some 29, op := Op.load 23 (Operand.tmp 1), type := 23, pos := "lane.go:78", after := #[], guard := none }) (v := .agg #[.int .i64 0, .bool false, .int .i64 0]) rfl (by kernel_rfl) (by kernel_rfl) (by kernel_rfl) (fun _ _ _ h => h) (Or.inl ⟨by rfl, ?_⟩) hS ?_
  · intro W hW
    have a0 := (hW.1.out.blk 0 (w.heap.size) _ rfl rfl).cell 0 _ rfl; have a1 := (hW.1.out.blk 0 (w.heap.size) _ rfl rfl).cell 1 _ rfl; have a2 := (hW.1.out.blk 0 (w.heap.size) _ rfl rfl).cell 2 _ rfl
    go_simp
  simp only [Act.put, List.setIfInBounds_toArray, List.set_cons_zero, List.set_cons_succ]
  refine wpAnyH_take (i := 25) (oi := { dst := some 30, op := Op.load 23 (Operand.tmp 1), type := 23, pos := "lane.go:78", after := #[], guard := none }) (v := .agg #[.int .i64 0, .bool false, .int .i64 0]) rfl (by kernel_rfl) (by kernel_rfl) (by kernel_rfl) (fun _ _ _ h => h) (Or.inl ⟨by rfl, ?_⟩) hS ?_
  · intro W hW
    have a0 := (hW.1.out.blk 0 (w.heap.size) _ rfl rfl).cell 0 _ rfl; have a1 := (hW.1.out.blk 0 (w.heap.size) _ rfl rfl).cell 1 _ rfl; have a2 := (hW.1.out.blk 0 (w.heap.size) _ rfl rfl).cell 2 _ rfl
    go_simp
  simp only [Act.put, List.setIfInBounds_toArray, List.set_cons_zero, List.set_cons_succ]
  refine wpAnyH_take (i := 26) (oi := { dst := some 31, op := Op.build 60 #[(0, Operand.tmp 30), (1, Operand.const (.int .i64 5))], type := 60, pos := "lane.go:78", after := #[{ on := 25, ground := Ground.data }], guard := none }) (v := .agg #[.int .i64 0, .bool false, .int .i64 0, .int .i64 5]) rfl (by kernel_rfl) (by kernel_rfl) (by kernel_rfl) (fun _ _ _ h => h) (Or.inl ⟨by rfl, ?_⟩) hS ?_
  · intro W hW
    go_simp
  simp only [Act.put, List.setIfInBounds_toArray, List.set_cons_zero, List.set_cons_succ]
  refine wpAnyH_take (i := 27) (oi := { dst := some 32, op := Op.load 23 (Operand.tmp 3), type := 23, pos := "lane.go:78", after := #[], guard := none }) (v := .agg #[.int .i64 3, .bool false, .int .i64 0]) rfl (by kernel_rfl) (by kernel_rfl) (by kernel_rfl) (fun _ _ _ h => h) (Or.inl ⟨by rfl, ?_⟩) hS ?_
  · intro W hW
    have a0 := (hW.1.out.blk 2 (w.heap.size + 1 + 1) _ rfl rfl).cell 0 _ rfl; have a1 := (hW.1.out.blk 2 (w.heap.size + 1 + 1) _ rfl rfl).cell 1 _ rfl; have a2 := (hW.1.out.blk 2 (w.heap.size + 1 + 1) _ rfl rfl).cell 2 _ rfl
    go_simp
  simp only [Act.put, List.setIfInBounds_toArray, List.set_cons_zero, List.set_cons_succ]
  refine wpAnyH_take (i := 29) (oi := { dst := some 33, op := Op.load 23 (Operand.tmp 2), type := 23, pos := "lane.go:78", after := #[], guard := none }) (v := .agg #[.int .i64 1, .bool false, .int .i64 0]) rfl (by kernel_rfl) (by kernel_rfl) (by kernel_rfl) (fun _ _ _ h => h) (Or.inl ⟨by rfl, ?_⟩) hS ?_
  · intro W hW
    have a0 := (hW.1.out.blk 1 (w.heap.size + 1) _ rfl rfl).cell 0 _ rfl; have a1 := (hW.1.out.blk 1 (w.heap.size + 1) _ rfl rfl).cell 1 _ rfl; have a2 := (hW.1.out.blk 1 (w.heap.size + 1) _ rfl rfl).cell 2 _ rfl
    go_simp
  simp only [Act.put, List.setIfInBounds_toArray, List.set_cons_zero, List.set_cons_succ]
  refine wpAnyH_take (i := 30) (oi := { dst := some 34, op := Op.build 60 #[(0, Operand.tmp 33), (1, Operand.const (.int .i64 5))], type := 60, pos := "lane.go:78", after := #[{ on := 29, ground := Ground.data }], guard := none }) (v := .agg #[.int .i64 1, .bool false, .int .i64 0, .int .i64 5]) rfl (by kernel_rfl) (by kernel_rfl) (by kernel_rfl) (fun _ _ _ h => h) (Or.inl ⟨by rfl, ?_⟩) hS ?_
  · intro W hW
    go_simp
  simp only [Act.put, List.setIfInBounds_toArray, List.set_cons_zero, List.set_cons_succ]
  refine wpAnyH_take (i := 31) (oi := { dst := some 35, op := Op.load 23 (Operand.tmp 3), type := 23, pos := "lane.go:78", after := #[], guard := none }) (v := .agg #[.int .i64 3, .bool false, .int .i64 0]) rfl (by kernel_rfl) (by kernel_rfl) (by kernel_rfl) (fun _ _ _ h => h) (Or.inl ⟨by rfl, ?_⟩) hS ?_
  · intro W hW
    have a0 := (hW.1.out.blk 2 (w.heap.size + 1 + 1) _ rfl rfl).cell 0 _ rfl; have a1 := (hW.1.out.blk 2 (w.heap.size + 1 + 1) _ rfl rfl).cell 1 _ rfl; have a2 := (hW.1.out.blk 2 (w.heap.size + 1 + 1) _ rfl rfl).cell 2 _ rfl
    go_simp
  simp only [Act.put, List.setIfInBounds_toArray, List.set_cons_zero, List.set_cons_succ]
  refine wpAnyH_take (i := 33) (oi := { dst := some 36, op := Op.load 23 (Operand.tmp 4), type := 23, pos := "lane.go:78", after := #[], guard := none }) (v := .agg #[.int .i64 2, .bool true, .int .i64 0]) rfl (by kernel_rfl) (by kernel_rfl) (by kernel_rfl) (fun _ _ _ h => h) (Or.inl ⟨by rfl, ?_⟩) hS ?_
  · intro W hW
    have a0 := (hW.1.out.blk 3 (w.heap.size + 1 + 1 + 1) _ rfl rfl).cell 0 _ rfl; have a1 := (hW.1.out.blk 3 (w.heap.size + 1 + 1 + 1) _ rfl rfl).cell 1 _ rfl; have a2 := (hW.1.out.blk 3 (w.heap.size + 1 + 1 + 1) _ rfl rfl).cell 2 _ rfl
    go_simp
  simp only [Act.put, List.setIfInBounds_toArray, List.set_cons_zero, List.set_cons_succ]
  refine wpAnyH_take (i := 34) (oi := { dst := some 37, op := Op.build 60 #[(0, Operand.tmp 36), (1, Operand.const (.int .i64 5))], type := 60, pos := "lane.go:78", after := #[{ on := 33, ground := Ground.data }], guard := none }) (v := .agg #[.int .i64 2, .bool true, .int .i64 0, .int .i64 5]) rfl (by kernel_rfl) (by kernel_rfl) (by kernel_rfl) (fun _ _ _ h => h) (Or.inl ⟨by rfl, ?_⟩) hS ?_
  · intro W hW
    go_simp
  simp only [Act.put, List.setIfInBounds_toArray, List.set_cons_zero, List.set_cons_succ]
  refine wpAnyH_take (i := 35) (oi := { dst := some 38, op := Op.load 23 (Operand.tmp 5), type := 23, pos := "lane.go:78", after := #[], guard := none }) (v := .agg #[.int .i64 3, .bool true, .int .i64 0]) rfl (by kernel_rfl) (by kernel_rfl) (by kernel_rfl) (fun _ _ _ h => h) (Or.inl ⟨by rfl, ?_⟩) hS ?_
  · intro W hW
    have a0 := (hW.1.out.blk 4 (w.heap.size + 1 + 1 + 1 + 1) _ rfl rfl).cell 0 _ rfl; have a1 := (hW.1.out.blk 4 (w.heap.size + 1 + 1 + 1 + 1) _ rfl rfl).cell 1 _ rfl; have a2 := (hW.1.out.blk 4 (w.heap.size + 1 + 1 + 1 + 1) _ rfl rfl).cell 2 _ rfl
    go_simp
  simp only [Act.put, List.setIfInBounds_toArray, List.set_cons_zero, List.set_cons_succ]
  refine wpAnyH_take (i := 37) (oi := { dst := some 39, op := Op.load 23 (Operand.tmp 3), type := 23, pos := "lane.go:78", after := #[], guard := none }) (v := .agg #[.int .i64 3, .bool false, .int .i64 0]) rfl (by kernel_rfl) (by kernel_rfl) (by kernel_rfl) (fun _ _ _ h => h) (Or.inl ⟨by rfl, ?_⟩) hS ?_
  · intro W hW
    have a0 := (hW.1.out.blk 2 (w.heap.size + 1 + 1) _ rfl rfl).cell 0 _ rfl; have a1 := (hW.1.out.blk 2 (w.heap.size + 1 + 1) _ rfl rfl).cell 1 _ rfl; have a2 := (hW.1.out.blk 2 (w.heap.size + 1 + 1) _ rfl rfl).cell 2 _ rfl
    go_simp
  simp only [Act.put, List.setIfInBounds_toArray, List.set_cons_zero, List.set_cons_succ]
  refine wpAnyH_take (i := 38) (oi := { dst := some 40, op := Op.build 60 #[(0, Operand.tmp 39), (1, Operand.const (.int .i64 6))], type := 60, pos := "lane.go:78", after := #[{ on := 37, ground := Ground.data }], guard := none }) (v := .agg #[.int .i64 3, .bool false, .int .i64 0, .int .i64 6]) rfl (by kernel_rfl) (by kernel_rfl) (by kernel_rfl) (fun _ _ _ h => h) (Or.inl ⟨by rfl, ?_⟩) hS ?_
  · intro W hW
    go_simp
  simp only [Act.put, List.setIfInBounds_toArray, List.set_cons_zero, List.set_cons_succ]
  refine wpAnyH_take (i := 39) (oi := { dst := some 41, op := Op.load 23 (Operand.tmp 1), type := 23, pos := "lane.go:78", after := #[], guard := none }) (v := .agg #[.int .i64 0, .bool false, .int .i64 0]) rfl (by kernel_rfl) (by kernel_rfl) (by kernel_rfl) (fun _ _ _ h => h) (Or.inl ⟨by rfl, ?_⟩) hS ?_
  · intro W hW
    have a0 := (hW.1.out.blk 0 (w.heap.size) _ rfl rfl).cell 0 _ rfl; have a1 := (hW.1.out.blk 0 (w.heap.size) _ rfl rfl).cell 1 _ rfl; have a2 := (hW.1.out.blk 0 (w.heap.size) _ rfl rfl).cell 2 _ rfl
    go_simp
  simp only [Act.put, List.setIfInBounds_toArray, List.set_cons_zero, List.set_cons_succ]
  refine wpAnyH_take (i := 41) (oi := { dst := some 42, op := Op.load 23 (Operand.tmp 5), type := 23, pos := "lane.go:78", after := #[], guard := none }) (v := .agg #[.int .i64 3, .bool true, .int .i64 0]) rfl (by kernel_rfl) (by kernel_rfl) (by kernel_rfl) (fun _ _ _ h => h) (Or.inl ⟨by rfl, ?_⟩) hS ?_
  · intro W hW
    have a0 := (hW.1.out.blk 4 (w.heap.size + 1 + 1 + 1 + 1) _ rfl rfl).cell 0 _ rfl; have a1 := (hW.1.out.blk 4 (w.heap.size + 1 + 1 + 1 + 1) _ rfl rfl).cell 1 _ rfl; have a2 := (hW.1.out.blk 4 (w.heap.size + 1 + 1 + 1 + 1) _ rfl rfl).cell 2 _ rfl
    go_simp
  simp only [Act.put, List.setIfInBounds_toArray, List.set_cons_zero, List.set_cons_succ]
  refine wpAnyH_take (i := 42) (oi := { dst := some 43, op := Op.build 60 #[(0, Operand.tmp 42), (1, Operand.const (.int .i64 6))], type := 60, pos := "lane.go:78", after := #[{ on := 41, ground := Ground.data }], guard := none }) (v := .agg #[.int .i64 3, .bool true, .int .i64 0, .int .i64 6]) rfl (by kernel_rfl) (by kernel_rfl) (by kernel_rfl) (fun _ _ _ h => h) (Or.inl ⟨by rfl, ?_⟩) hS ?_
  · intro W hW
    go_simp
  simp only [Act.put, List.setIfInBounds_toArray, List.set_cons_zero, List.set_cons_succ]
  refine wpAnyH_take (i := 43) (oi := { dst := some 44, op := Op.load 23 (Operand.tmp 4), type := 23, pos := "lane.go:78", after := #[], guard := none }) (v := .agg #[.int .i64 2, .bool true, .int .i64 0]) rfl (by kernel_rfl) (by kernel_rfl) (by kernel_rfl) (fun _ _ _ h => h) (Or.inl ⟨by rfl, ?_⟩) hS ?_
  · intro W hW
    have a0 := (hW.1.out.blk 3 (w.heap.size + 1 + 1 + 1) _ rfl rfl).cell 0 _ rfl; have a1 := (hW.1.out.blk 3 (w.heap.size + 1 + 1 + 1) _ rfl rfl).cell 1 _ rfl; have a2 := (hW.1.out.blk 3 (w.heap.size + 1 + 1 + 1) _ rfl rfl).cell 2 _ rfl
    go_simp
  simp only [Act.put, List.setIfInBounds_toArray, List.set_cons_zero, List.set_cons_succ]
  refine wpAnyH_take (i := 45) (oi := { dst := some 45, op := Op.load 23 (Operand.tmp 4), type := 23, pos := "lane.go:78", after := #[], guard := none }) (v := .agg #[.int .i64 2, .bool true, .int .i64 0]) rfl (by kernel_rfl) (by kernel_rfl) (by kernel_rfl) (fun _ _ _ h => h) (Or.inl ⟨by rfl, ?_⟩) hS ?_
  · intro W hW
    have a0 := (hW.1.out.blk 3 (w.heap.size + 1 + 1 + 1) _ rfl rfl).cell 0 _ rfl; have a1 := (hW.1.out.blk 3 (w.heap.size + 1 + 1 + 1) _ rfl rfl).cell 1 _ rfl; have a2 := (hW.1.out.blk 3 (w.heap.size + 1 + 1 + 1) _ rfl rfl).cell 2 _ rfl
    go_simp
  simp only [Act.put, List.setIfInBounds_toArray, List.set_cons_zero, List.set_cons_succ]
  refine wpAnyH_take (i := 46) (oi := { dst := some 46, op := Op.build 60 #[(0, Operand.tmp 45), (1, Operand.const (.int .i64 7))], type := 60, pos := "lane.go:78", after := #[{ on := 45, ground := Ground.data }], guard := none }) (v := .agg #[.int .i64 2, .bool true, .int .i64 0, .int .i64 7]) rfl (by kernel_rfl) (by kernel_rfl) (by kernel_rfl) (fun _ _ _ h => h) (Or.inl ⟨by rfl, ?_⟩) hS ?_
  · intro W hW
    go_simp
  simp only [Act.put, List.setIfInBounds_toArray, List.set_cons_zero, List.set_cons_succ]
  refine wpAnyH_take (i := 47) (oi := { dst := some 47, op := Op.load 23 (Operand.tmp 1), type := 23, pos := "lane.go:78", after := #[], guard := none }) (v := .agg #[.int .i64 0, .bool false, .int .i64 0]) rfl (by kernel_rfl) (by kernel_rfl) (by kernel_rfl) (fun _ _ _ h => h) (Or.inl ⟨by rfl, ?_⟩) hS ?_
  · intro W hW
    have a0 := (hW.1.out.blk 0 (w.heap.size) _ rfl rfl).cell 0 _ rfl; have a1 := (hW.1.out.blk 0 (w.heap.size) _ rfl rfl).cell 1 _ rfl; have a2 := (hW.1.out.blk 0 (w.heap.size) _ rfl rfl).cell 2 _ rfl
    go_simp
  simp only [Act.put, List.setIfInBounds_toArray, List.set_cons_zero, List.set_cons_succ]
  refine wpAnyH_take (i := 49) (oi := { dst := some 48, op := Op.load 23 (Operand.tmp 3), type := 23, pos := "lane.go:78", after := #[], guard := none }) (v := .agg #[.int .i64 3, .bool false, .int .i64 0]) rfl (by kernel_rfl) (by kernel_rfl) (by kernel_rfl) (fun _ _ _ h => h) (Or.inl ⟨by rfl, ?_⟩) hS ?_
  · intro W hW
    have a0 := (hW.1.out.blk 2 (w.heap.size + 1 + 1) _ rfl rfl).cell 0 _ rfl; have a1 := (hW.1.out.blk 2 (w.heap.size + 1 + 1) _ rfl rfl).cell 1 _ rfl; have a2 := (hW.1.out.blk 2 (w.heap.size + 1 + 1) _ rfl rfl).cell 2 _ rfl
    go_simp
  simp only [Act.put, List.setIfInBounds_toArray, List.set_cons_zero, List.set_cons_succ]
  refine wpAnyH_take (i := 50) (oi := { dst := some 49, op := Op.build 60 #[(0, Operand.tmp 48), (1, Operand.const (.int .i64 7))], type := 60, pos := "lane.go:78", after := #[{ on := 49, ground := Ground.data }], guard := none }) (v := .agg #[.int .i64 3, .bool false, .int .i64 0, .int .i64 7]) rfl (by kernel_rfl) (by kernel_rfl) (by kernel_rfl) (fun _ _ _ h => h) (Or.inl ⟨by rfl, ?_⟩) hS ?_
  · intro W hW
    go_simp
  simp only [Act.put, List.setIfInBounds_toArray, List.set_cons_zero, List.set_cons_succ]
  refine wpAnyH_take (i := 51) (oi := { dst := some 50, op := Op.load 23 (Operand.tmp 1), type := 23, pos := "lane.go:78", after := #[], guard := none }) (v := .agg #[.int .i64 0, .bool false, .int .i64 0]) rfl (by kernel_rfl) (by kernel_rfl) (by kernel_rfl) (fun _ _ _ h => h) (Or.inl ⟨by rfl, ?_⟩) hS ?_
  · intro W hW
    have a0 := (hW.1.out.blk 0 (w.heap.size) _ rfl rfl).cell 0 _ rfl; have a1 := (hW.1.out.blk 0 (w.heap.size) _ rfl rfl).cell 1 _ rfl; have a2 := (hW.1.out.blk 0 (w.heap.size) _ rfl rfl).cell 2 _ rfl
    go_simp
  simp only [Act.put, List.setIfInBounds_toArray, List.set_cons_zero, List.set_cons_succ]
  refine wpAnyH_take (i := 53) (oi := { dst := some 51, op := Op.load 23 (Operand.tmp 5), type := 23, pos := "lane.go:78", after := #[], guard := none }) (v := .agg #[.int .i64 3, .bool true, .int .i64 0]) rfl (by kernel_rfl) (by kernel_rfl) (by kernel_rfl) (fun _ _ _ h => h) (Or.inl ⟨by rfl, ?_⟩) hS ?_
  · intro W hW
    have a0 := (hW.1.out.blk 4 (w.heap.size + 1 + 1 + 1 + 1) _ rfl rfl).cell 0 _ rfl; have a1 := (hW.1.out.blk 4 (w.heap.size + 1 + 1 + 1 + 1) _ rfl rfl).cell 1 _ rfl; have a2 := (hW.1.out.blk 4 (w.heap.size + 1 + 1 + 1 + 1) _ rfl rfl).cell 2 _ rfl
    go_simp
  simp only [Act.put, List.setIfInBounds_toArray, List.set_cons_zero, List.set_cons_succ]
  refine wpAnyH_take (i := 54) (oi := { dst := some 52, op := Op.build 60 #[(0, Operand.tmp 51), (1, Operand.const (.int .i64 7))], type := 60, pos := "lane.go:78", after := #[{ on := 53, ground := Ground.data }], guard := none }) (v := .agg #[.int .i64 3, .bool true, .int .i64 0, .int .i64 7]) rfl (by kernel_rfl) (by kernel_rfl) (by kernel_rfl) (fun _ _ _ h => h) (Or.inl ⟨by rfl, ?_⟩) hS ?_
  · intro W hW
    go_simp
  simp only [Act.put, List.setIfInBounds_toArray, List.set_cons_zero, List.set_cons_succ]
  refine wpAnyH_take (i := 55) (oi := { dst := some 53, op := Op.load 23 (Operand.tmp 1), type := 23, pos := "lane.go:78", after := #[], guard := none }) (v := .agg #[.int .i64 0, .bool false, .int .i64 0]) rfl (by kernel_rfl) (by kernel_rfl) (by kernel_rfl) (fun _ _ _ h => h) (Or.inl ⟨by rfl, ?_⟩) hS ?_
  · intro W hW
    have a0 := (hW.1.out.blk 0 (w.heap.size) _ rfl rfl).cell 0 _ rfl; have a1 := (hW.1.out.blk 0 (w.heap.size) _ rfl rfl).cell 1 _ rfl; have a2 := (hW.1.out.blk 0 (w.heap.size) _ rfl rfl).cell 2 _ rfl
    go_simp
  simp only [Act.put, List.setIfInBounds_toArray, List.set_cons_zero, List.set_cons_succ]
  refine wpAnyH_ready (rs := [0]) (by kernel_rfl) (by simp) ?_
  refine AllReadyH.cons (o := { dst := some 11, op := Op.makeMap 56 none, type := 56, pos := "lane.go:78", after := #[], guard := none }) rfl (fun K hK => ?_) AllReadyH.nil
  go_simp
  refine hK.out _ _ ⟨hS.1.out.alloc _, Nat.le_trans (Nat.le_succ _) (Nat.le_of_eq (lay_size W0.drew _).symm)⟩ (fun hS2 => ?_)
  clear hK
  try simp only [Act.put, List.setIfInBounds_toArray, List.set_cons_zero, List.set_cons_succ]
  refine inserts (R := RL) lanLaw Try.underlying56 _ klI dI W0.heap.size [57, 58] (fun W W' hW hg => ⟨hW.1.out.grown hg (by have := Z0.out; simp; omega) (by have := Z0.out; have := hW.2.out; simp; omega), Nat.le_trans hW.2.out hg.size⟩) 2 14 entL _ _ 0 (.map []) rfl (by decide) (insB_spec (by kernel_rfl)) (leftB_spec (by kernel_rfl)) ?_ klI_apart (World.ownsMap_made W0.drew _ _ _) (by unfold maxLen; omega) hS2 (fun W D hSW hg hown hat hoth => ?_)
  · exact entL_all
      ⟨_, _, _, _, .agg #[.int .i64 0, .bool false, .int .i64 0, .int .i64 1], .agg #[.int .i64 1, .bool false, .int .i64 0], rfl, rfl, rfl, rfl, rfl, rfl, rfl, kf4, [], df4⟩
      ⟨_, _, _, _, .agg #[.int .i64 1, .bool false, .int .i64 0, .int .i64 2], .agg #[.int .i64 0, .bool false, .int .i64 0], rfl, rfl, rfl, rfl, rfl, rfl, rfl, kf8, [], df8⟩
      ⟨_, _, _, _, .agg #[.int .i64 0, .bool false, .int .i64 0, .int .i64 3], .agg #[.int .i64 2, .bool true, .int .i64 0], rfl, rfl, rfl, rfl, rfl, rfl, rfl, kf12, [], df12⟩
      ⟨_, _, _, _, .agg #[.int .i64 1, .bool false, .int .i64 0, .int .i64 3], .agg #[.int .i64 2, .bool true, .int .i64 0], rfl, rfl, rfl, rfl, rfl, rfl, rfl, kf16, [], df16⟩
      ⟨_, _, _, _, .agg #[.int .i64 3, .bool false, .int .i64 0, .int .i64 3], .agg #[.int .i64 3, .bool true, .int .i64 0], rfl, rfl, rfl, rfl, rfl, rfl, rfl, kf20, [], df20⟩
      ⟨_, _, _, _, .agg #[.int .i64 1, .bool false, .int .i64 0, .int .i64 4], .agg #[.int .i64 0, .bool false, .int .i64 0], rfl, rfl, rfl, rfl, rfl, rfl, rfl, kf24, [], df24⟩
      ⟨_, _, _, _, .agg #[.int .i64 0, .bool false, .int .i64 0, .int .i64 5], .agg #[.int .i64 3, .bool false, .int .i64 0], rfl, rfl, rfl, rfl, rfl, rfl, rfl, kf28, [], df28⟩
      ⟨_, _, _, _, .agg #[.int .i64 1, .bool false, .int .i64 0, .int .i64 5], .agg #[.int .i64 3, .bool false, .int .i64 0], rfl, rfl, rfl, rfl, rfl, rfl, rfl, kf32, [], df32⟩
      ⟨_, _, _, _, .agg #[.int .i64 2, .bool true, .int .i64 0, .int .i64 5], .agg #[.int .i64 3, .bool true, .int .i64 0], rfl, rfl, rfl, rfl, rfl, rfl, rfl, kf36, [], df36⟩
      ⟨_, _, _, _, .agg #[.int .i64 3, .bool false, .int .i64 0, .int .i64 6], .agg #[.int .i64 0, .bool false, .int .i64 0], rfl, rfl, rfl, rfl, rfl, rfl, rfl, kf40, [], df40⟩
      ⟨_, _, _, _, .agg #[.int .i64 3, .bool true, .int .i64 0, .int .i64 6], .agg #[.int .i64 2, .bool true, .int .i64 0], rfl, rfl, rfl, rfl, rfl, rfl, rfl, kf44, [], df44⟩
      ⟨_, _, _, _, .agg #[.int .i64 2, .bool true, .int .i64 0, .int .i64 7], .agg #[.int .i64 0, .bool false, .int .i64 0], rfl, rfl, rfl, rfl, rfl, rfl, rfl, kf48, [], df48⟩
      ⟨_, _, _, _, .agg #[.int .i64 3, .bool false, .int .i64 0, .int .i64 7], .agg #[.int .i64 0, .bool false, .int .i64 0], rfl, rfl, rfl, rfl, rfl, rfl, rfl, kf52, [], df52⟩
      ⟨_, _, _, _, .agg #[.int .i64 3, .bool true, .int .i64 0, .int .i64 7], .agg #[.int .i64 0, .bool false, .int .i64 0], rfl, rfl, rfl, rfl, rfl, rfl, rfl, kf56, [], df56⟩
  refine wpAnyH_take (i := 57) (oi := { dst := some 54, op := Op.move (Operand.tmp 11), type := 56, pos := "lane.go:78", after := #[{ on := 0, ground := Ground.data }, { on := 1, ground := Ground.data }, { on := 2, ground := Ground.data }, { on := 3, ground := Ground.data }, { on := 4, ground := Ground.data }, { on := 5, ground := Ground.data }, { on := 6, ground := Ground.data }, { on := 7, ground := Ground.data }, { on := 8, ground := Ground.data }, { on := 9, ground := Ground.data }, { on := 10, ground := Ground.data }, { on := 11, ground := Ground.data }, { on := 12, ground := Ground.data }, { on := 13, ground := Ground.data }, { on := 14, ground := Ground.data }, { on := 15, ground := Ground.data }, { on := 16, ground := Ground.data }, { on := 17, ground := Ground.data }, { on := 18, ground := Ground.data }, { on := 19, ground := Ground.data }, { on := 20, ground := Ground.data }, { on := 21, ground := Ground.data }, { on := 22, ground := Ground.data }, { on := 23, ground := Ground.data }, { on := 24, ground := Ground.data }, { on := 25, ground := Ground.data }, { on := 26, ground := Ground.data }, { on := 27, ground := Ground.data }, { on := 28, ground := Ground.data }, { on := 29, ground := Ground.data }, { on := 30, ground := Ground.data }, { on := 31, ground := Ground.data }, { on := 32, ground := Ground.data }, { on := 33, ground := Ground.data }, { on := 34, ground := Ground.data }, { on := 35, ground := Ground.data }, { on := 36, ground := Ground.data }, { on := 37, ground := Ground.data }, { on := 38, ground := Ground.data }, { on := 39, ground := Ground.data }, { on := 40, ground := Ground.data }, { on := 41, ground := Ground.data }, { on := 42, ground := Ground.data }, { on := 43, ground := Ground.data }, { on := 44, ground := Ground.data }, { on := 45, ground := Ground.data }, { on := 46, ground := Ground.data }, { on := 47, ground := Ground.data }, { on := 48, ground := Ground.data }, { on := 49, ground := Ground.data }, { on := 50, ground := Ground.data }, { on := 51, ground := Ground.data }, { on := 52, ground := Ground.data }, { on := 53, ground := Ground.data }, { on := 54, ground := Ground.data }, { on := 55, ground := Ground.data }, { on := 56, ground := Ground.data }], guard := none }) (v := .map (some W0.heap.size)) rfl (by kernel_rfl) (by kernel_rfl) (by kernel_rfl) (fun _ _ _ h => h) (Or.inl ⟨by rfl, ?_⟩) hSW ?_
  · intro W hW
    go_simp
  simp only [Act.put, List.setIfInBounds_toArray, List.set_cons_zero, List.set_cons_succ]
  refine wpAnyH_take (i := 58) (oi := { dst := some 0, op := Op.assign (Operand.tmp 54), type := 56, pos := "lane.go:78", after := #[{ on := 57, ground := Ground.data }, { on := 0, ground := Ground.phase }, { on := 1, ground := Ground.phase }, { on := 2, ground := Ground.phase }, { on := 3, ground := Ground.phase }, { on := 4, ground := Ground.phase }, { on := 5, ground := Ground.phase }, { on := 6, ground := Ground.phase }, { on := 7, ground := Ground.phase }, { on := 8, ground := Ground.phase }, { on := 9, ground := Ground.phase }, { on := 10, ground := Ground.phase }, { on := 11, ground := Ground.phase }, { on := 12, ground := Ground.phase }, { on := 13, ground := Ground.phase }, { on := 14, ground := Ground.phase }, { on := 15, ground := Ground.phase }, { on := 16, ground := Ground.phase }, { on := 17, ground := Ground.phase }, { on := 18, ground := Ground.phase }, { on := 19, ground := Ground.phase }, { on := 20, ground := Ground.phase }, { on := 21, ground := Ground.phase }, { on := 22, ground := Ground.phase }, { on := 23, ground := Ground.phase }, { on := 24, ground := Ground.phase }, { on := 25, ground := Ground.phase }, { on := 26, ground := Ground.phase }, { on := 27, ground := Ground.phase }, { on := 28, ground := Ground.phase }, { on := 29, ground := Ground.phase }, { on := 30, ground := Ground.phase }, { on := 31, ground := Ground.phase }, { on := 32, ground := Ground.phase }, { on := 33, ground := Ground.phase }, { on := 34, ground := Ground.phase }, { on := 35, ground := Ground.phase }, { on := 36, ground := Ground.phase }, { on := 37, ground := Ground.phase }, { on := 38, ground := Ground.phase }, { on := 39, ground := Ground.phase }, { on := 40, ground := Ground.phase }, { on := 41, ground := Ground.phase }, { on := 42, ground := Ground.phase }, { on := 43, ground := Ground.phase }, { on := 44, ground := Ground.phase }, { on := 45, ground := Ground.phase }, { on := 46, ground := Ground.phase }, { on := 47, ground := Ground.phase }, { on := 48, ground := Ground.phase }, { on := 49, ground := Ground.phase }, { on := 50, ground := Ground.phase }, { on := 51, ground := Ground.phase }, { on := 52, ground := Ground.phase }, { on := 53, ground := Ground.phase }, { on := 54, ground := Ground.phase }, { on := 55, ground := Ground.phase }, { on := 56, ground := Ground.phase }, { on := 57, ground := Ground.phase }], guard := none }) (v := .map (some W0.heap.size)) rfl (by kernel_rfl) (by kernel_rfl) (by kernel_rfl) (fun _ _ _ h => h) (Or.inl ⟨by rfl, ?_⟩) hSW ?_
  · intro W hW
    go_simp
  simp only [Act.put, List.setIfInBounds_toArray, List.set_cons_zero]
  refine wpAnyH_done (by kernel_rfl) ?_ _
  refine NoPanic.normal ?_
  have HB : Hid (_) := hSW.1.out.bel
  have HT : Hid (Tb D) := tb_of hat fun q hq => (hoth q hq).1
  have HO : Hid (_) := hown
  clear hat hoth hown hg hSW hS hS2
  go_wp2_with fail
  go_ret
  exact ⟨_, D, rfl, HB.out, by have := Z0.out; omega, HO.out, HT.out⟩

end Go.Proofs.Ytnomceopmjlbhaa
