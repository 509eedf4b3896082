/-
  Contract of frame.Read, where it tells no frame.
-/
import Derived.Test.YtiaolelkabbnmaaFrmPack
import Derived.Test.YtiaolelkabbnmaaBoxes
namespace Go.Proofs.Ytiaolelkabbnmaa
open Go.RowKit
set_option linter.unusedVariables false

/-- the box of an answer is written -/
theorem box_put {N R : Nat} {w W : World} {c0 c1 c2 c3 : Value} (h : Cells W R [c0, c1, c2, c3]) (hb : Below N w W) (hR : N ≤ R) (v0 v1 v2 v3 : Value) :
    ∃ w3, (((W.setCell ⟨R, 0, none⟩ v0).setCell ⟨R, 1, none⟩ v1).setCell ⟨R, 2, none⟩ v2).setCell ⟨R, 3, none⟩ v3 = w3 ∧ w3.cell? ⟨R, 0, none⟩ = some v0 ∧ w3.cell? ⟨R, 1, none⟩ = some v1 ∧ w3.cell? ⟨R, 2, none⟩ = some v2 ∧ w3.cell? ⟨R, 3, none⟩ = some v3 ∧ Below N w w3 ∧ w3.heap.size = W.heap.size ∧ ∀ k, k ≠ R → w3.heap[k]? = W.heap[k]? := by
  have h1 := (((h.set (j := 0) (by simp) v0).set (j := 1) (by simp) v1).set (j := 2) (by simp) v2).set (j := 3) (by simp) v3
  refine ⟨_, rfl, h1.cell 0 v0 rfl, h1.cell 1 v1 rfl, h1.cell 2 v2 rfl, h1.cell 3 v3 rfl, (((hb.setCell (p := ⟨R, 0, none⟩) hR _).setCell (p := ⟨R, 1, none⟩) hR _).setCell (p := ⟨R, 2, none⟩) hR _).setCell (p := ⟨R, 3, none⟩) hR _, by simp [World.setCell], fun k hk => ?_⟩
  rw [Below.heap_setCell _ _ _ _ hk, Below.heap_setCell _ _ _ _ hk, Below.heap_setCell _ _ _ _ hk, Below.heap_setCell _ _ _ _ hk]
/-- the box of an answer, empty, and what was there ahead -/
structure Rb (w W : World) : Prop where
  box : Cells W w.heap.size [.int .i64 0, .int .i64 0, .int .u8 0, .slice none 0 0]
  below : Below w.heap.size w W
theorem rb_new (w : World) (t : TypeId) : Rb w (w.alloc (.cells #[.int .i64 0, .int .i64 0, .int .u8 0, .slice none 0 0] t)) := ⟨cells_new w _ _, (Below.refl _ w).alloc (Nat.le_refl _) _⟩
theorem Rb.step {w W W' : World} (h : Rb w W) (hb : Below W.heap.size W W') : Rb w W' := ⟨h.box.step hb, h.below.trans (hb.mono h.below.size)⟩
theorem Rb.drewN {w W : World} (h : Rb w W) (d : Nat) : Rb w (W.drewN d) := h.step ⟨rfl, rfl, rfl, Nat.le_refl _, fun _ _ => rfl⟩
theorem Rb.facts {w W : World} (h : Rb w W) : w.heap.size < W.heap.size ∧ W.cell? ⟨w.heap.size, 0, none⟩ = some (.int .i64 0) ∧ W.cell? ⟨w.heap.size, 1, none⟩ = some (.int .i64 0) ∧ W.cell? ⟨w.heap.size, 2, none⟩ = some (.int .u8 0) ∧ W.cell? ⟨w.heap.size, 3, none⟩ = some (.slice none 0 0) ∧ W.frozen? ⟨w.heap.size, 0, none⟩ = false ∧ W.frozen? ⟨w.heap.size, 1, none⟩ = false ∧ W.frozen? ⟨w.heap.size, 2, none⟩ = false ∧ W.frozen? ⟨w.heap.size, 3, none⟩ = false :=
  ⟨h.box.lt, h.box.cell 0 _ rfl, h.box.cell 1 _ rfl, h.box.cell 2 _ rfl, h.box.cell 3 _ rfl, h.box.froz 0 _ rfl, h.box.froz 1 _ rfl, h.box.froz 2 _ rfl, h.box.froz 3 _ rfl⟩

set_option maxHeartbeats 1000000 in
set_option maxRecDepth 100000 in
theorem read_err (s : ByteArray) (E : Int) (w : World) (h0 : E ≠ 0) (HG : Hid (∀ W, Calls Try.prog 35 #[.string s] W fun e w' => e = .returned (.tuple #[.string ⟨#[]⟩, .int .i64 E]) ∧ Below W.heap.size W w')) :
    Calls Try.prog 17 #[.string s] w fun e w' => e = .returned (.tuple #[.agg #[.int .i64 0, .int .i64 0, .int .u8 0, .slice none 0 0], .int .i64 E]) ∧ Below w.heap.size w w' := by
  have B0 : Hid (Rb w _) := rb_new w 24
  have q : (E != 0) = true := by simpa using h0
  go_enter Try.func17, Try.ntmps17
  go_wp2_with fail
  refine (HG.out _).mono ?_
  rintro e w1 ⟨rfl, hb⟩
  have B1 : Hid (Rb w w1) := B0.out.step hb
  clear hb B0
  obtain ⟨lr, r0, r1, r2, r3, f0, f1, f2, f3⟩ := B1.out.facts
  go_wp2_with fail
  obtain ⟨w3, hw3, y0, y1, y2, y3, b3, _⟩ := box_put B1.out.box B1.out.below (Nat.le_refl _) (.int .i64 0) (.int .i64 0) (.int .u8 0) (.slice none 0 0)
  rw [hw3]
  refine bodyPost_ret (by simp [results, Try.results17, go_sem, y0, y1, y2, y3]; try rfl) rfl ?_
  exact ⟨rfl, b3⟩

set_option maxHeartbeats 1000000 in
set_option maxRecDepth 100000 in
theorem read_short (s t : ByteArray) (w : World) (h : t.size < 3) (HG : Hid (∀ W, Calls Try.prog 35 #[.string s] W fun e w' => e = .returned (.tuple #[.string t, .int .i64 0]) ∧ Below W.heap.size W w')) :
    Calls Try.prog 17 #[.string s] w fun e w' => e = .returned (.tuple #[.agg #[.int .i64 0, .int .i64 0, .int .u8 0, .slice none 0 0], .int .i64 3]) ∧ Below w.heap.size w w' := by
  have B0 : Hid (Rb w _) := rb_new w 24
  have q : (t.size : Int) < 3 := by omega
  go_enter Try.func17, Try.ntmps17
  go_wp2_with fail
  refine (HG.out _).mono ?_
  rintro e w1 ⟨rfl, hb⟩
  have B1 : Hid (Rb w w1) := B0.out.step hb
  clear hb B0
  obtain ⟨lr, r0, r1, r2, r3, f0, f1, f2, f3⟩ := B1.out.facts
  go_wp2_with fail
  obtain ⟨w3, hw3, y0, y1, y2, y3, b3, _⟩ := box_put B1.out.box B1.out.below (Nat.le_refl _) (.int .i64 0) (.int .i64 0) (.int .u8 0) (.slice none 0 0)
  rw [hw3]
  refine bodyPost_ret (by simp [results, Try.results17, go_sem, y0, y1, y2, y3]; try rfl) rfl ?_
  exact ⟨rfl, b3⟩

theorem head_run (t : ByteArray) (h : 3 ≤ t.size) (W : World) : (Instr.slice 9 (.string t) none (some (.int .i64 3)) none).run Try.prog W = .ok (.string (t.extract 0 3)) W := by
  rw [run_slice_string_to_if W 9 t .i64 3 Try.underlying9]
  rw [if_pos (by omega)]
  rfl

theorem rest_run (t : ByteArray) (h : 3 ≤ t.size) (W : World) : (Instr.slice 9 (.string t) (some (.int .i64 3)) none none).run Try.prog W = .ok (.string (t.extract 3 t.size)) W := by
  rw [run_slice_string_from_if W 9 t .i64 3 Try.underlying9]
  rw [if_pos (by omega)]
  rfl

set_option maxHeartbeats 1000000 in
set_option maxRecDepth 100000 in
theorem read_form (s t : ByteArray) (w : World) (h : 3 ≤ t.size) (hf : t.size - 3 ≠ 4 * bt t 2) (HG : Hid (∀ W, Calls Try.prog 35 #[.string s] W fun e w' => e = .returned (.tuple #[.string t, .int .i64 0]) ∧ Below W.heap.size W w')) :
    Calls Try.prog 17 #[.string s] w fun e w' => e = .returned (.tuple #[.agg #[.int .i64 0, .int .i64 0, .int .u8 0, .slice none 0 0], .int .i64 4]) ∧ Below w.heap.size w w' := by
  have B0 : Hid (Rb w _) := rb_new w 24
  have q : ¬ (t.size : Int) < 3 := by omega
  have q1 := head_run t h
  have q2 := rest_run t h
  have i2 : ∀ W : World, (Instr.index 9 (.string (t.extract 0 3)) (.int .i64 2)).run Try.prog W = .ok (.int .u8 (bt t 2 : Nat)) W := fun W => by
    rw [← bt_extract t 3 2 (by omega)]
    exact index_bt _ 2 (by rw [extract_size _ _ _ h]; omega) W
  have hl : (t.extract 3 t.size).size = t.size - 3 := extract_size _ _ _ (Nat.le_refl _)
  have c2 := bt_lt t 2
  have q3 : (((t.extract 3 t.size).size : Int) != 4 * (bt t 2 : Int)) = true := by rw [hl]; simp; omega
  clear hl hf h
  generalize bt t 2 = m at *
  generalize t.extract 0 3 = t0 at *
  generalize t.extract 3 t.size = t1 at *
  go_enter Try.func17, Try.ntmps17
  go_wp2_with fail
  refine (HG.out _).mono ?_
  rintro e w1 ⟨rfl, hb⟩
  have B1 : Hid (Rb w w1) := B0.out.step hb
  clear hb B0
  go_wp2_with fail
  go_quiet (fail)
  have B2 : Hid (Rb w _) := B1.out.drewN nq
  obtain ⟨lr, r0, r1, r2, r3, f0, f1, f2, f3⟩ := B2.out.facts
  go_wp2_with fail
  obtain ⟨w3, hw3, y0, y1, y2, y3, b3, _⟩ := box_put B2.out.box B2.out.below (Nat.le_refl _) (.int .i64 0) (.int .i64 0) (.int .u8 0) (.slice none 0 0)
  rw [hw3]
  refine bodyPost_ret (by simp [results, Try.results17, go_sem, y0, y1, y2, y3]; try rfl) rfl ?_
  exact ⟨rfl, b3⟩

end Go.Proofs.Ytiaolelkabbnmaa
