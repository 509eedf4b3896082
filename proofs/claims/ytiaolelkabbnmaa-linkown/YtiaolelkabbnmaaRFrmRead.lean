/-
  Contract of the document's own FrameRead: it tells what frame.Read tells.
-/
import Derived.Test.YtiaolelkabbnmaaFrmGet
namespace Go.Proofs.Ytiaolelkabbnmaa
open Go.RowKit
set_option linter.unusedVariables false
set_option linter.unusedSimpArgs false

set_option maxHeartbeats 1000000 in
set_option maxRecDepth 100000 in
theorem rread_err (s : ByteArray) (E : Int) (w : World) (h0 : E ≠ 0) (HG : Hid (∀ W, Calls Try.prog 39 #[.string s] W fun e w' => e = .returned (.tuple #[.string ⟨#[]⟩, .int .i64 E]) ∧ Below W.heap.size W w')) :
    Calls Try.prog 33 #[.string s] w fun e w' => e = .returned (.tuple #[.agg #[.int .i64 0, .int .i64 0, .int .u8 0, .slice none 0 0], .int .i64 E]) ∧ Below w.heap.size w w' := by
  have B0 : Hid (Rb w _) := rb_new w 24
  have q : (E != 0) = true := by simpa using h0
  go_enter Try.func33, Try.ntmps33
  go_wp2_with fail
  refine (HG.out _).mono ?_
  rintro e w1 ⟨rfl, hb⟩
  have B1 : Hid (Rb w w1) := B0.out.step hb
  clear hb B0
  obtain ⟨lr, r0, r1, r2, r3, f0, f1, f2, f3⟩ := B1.out.facts
  go_wp2_with fail
  obtain ⟨w3, hw3, y0, y1, y2, y3, b3, _⟩ := box_put B1.out.box B1.out.below (Nat.le_refl _) (.int .i64 0) (.int .i64 0) (.int .u8 0) (.slice none 0 0)
  rw [hw3]
  refine bodyPost_ret (by simp [results, Try.results33, go_sem, y0, y1, y2, y3]; try rfl) rfl ?_
  exact ⟨rfl, b3⟩

set_option maxHeartbeats 1000000 in
set_option maxRecDepth 100000 in
theorem rread_short (s t : ByteArray) (w : World) (h : t.size < 3) (HG : Hid (∀ W, Calls Try.prog 39 #[.string s] W fun e w' => e = .returned (.tuple #[.string t, .int .i64 0]) ∧ Below W.heap.size W w')) :
    Calls Try.prog 33 #[.string s] w fun e w' => e = .returned (.tuple #[.agg #[.int .i64 0, .int .i64 0, .int .u8 0, .slice none 0 0], .int .i64 3]) ∧ Below w.heap.size w w' := by
  have B0 : Hid (Rb w _) := rb_new w 24
  have q : (t.size : Int) < 3 := by omega
  go_enter Try.func33, Try.ntmps33
  go_wp2_with fail
  refine (HG.out _).mono ?_
  rintro e w1 ⟨rfl, hb⟩
  have B1 : Hid (Rb w w1) := B0.out.step hb
  clear hb B0
  obtain ⟨lr, r0, r1, r2, r3, f0, f1, f2, f3⟩ := B1.out.facts
  go_wp2_with fail
  obtain ⟨w3, hw3, y0, y1, y2, y3, b3, _⟩ := box_put B1.out.box B1.out.below (Nat.le_refl _) (.int .i64 0) (.int .i64 0) (.int .u8 0) (.slice none 0 0)
  rw [hw3]
  refine bodyPost_ret (by simp [results, Try.results33, go_sem, y0, y1, y2, y3]; try rfl) rfl ?_
  exact ⟨rfl, b3⟩

set_option maxHeartbeats 1000000 in
set_option maxRecDepth 100000 in
theorem rread_form (s t : ByteArray) (w : World) (h : 3 ≤ t.size) (hs : t.size ≤ 4095) (hf : t.size - 3 ≠ 4 * bt t 2) (HG : Hid (∀ W, Calls Try.prog 39 #[.string s] W fun e w' => e = .returned (.tuple #[.string t, .int .i64 0]) ∧ Below W.heap.size W w')) :
    Calls Try.prog 33 #[.string s] w fun e w' => e = .returned (.tuple #[.agg #[.int .i64 0, .int .i64 0, .int .u8 0, .slice none 0 0], .int .i64 4]) ∧ Below w.heap.size w w' := by
  have B0 : Hid (Rb w _) := rb_new w 24
  have q : ¬ (t.size : Int) < 3 := by omega
  have i2 : ∀ W : World, (Instr.index 9 (.string t) (.int .i64 2)).run Try.prog W = .ok (.int .u8 (bt t 2 : Nat)) W := fun W => index_bt _ 2 (by omega) W
  have c2 := bt_lt t 2
  have q3 : ((t.size : Int) - 3 != 4 * (bt t 2 : Int)) = true := by simp; omega
  clear hf h
  generalize bt t 2 = m at *
  go_enter Try.func33, Try.ntmps33
  go_wp2_with fail
  refine (HG.out _).mono ?_
  rintro e w1 ⟨rfl, hb⟩
  have B1 : Hid (Rb w w1) := B0.out.step hb
  clear hb B0
  obtain ⟨lr, r0, r1, r2, r3, f0, f1, f2, f3⟩ := B1.out.facts
  go_wp2_with fail
  obtain ⟨w3, hw3, y0, y1, y2, y3, b3, _⟩ := box_put B1.out.box B1.out.below (Nat.le_refl _) (.int .i64 0) (.int .i64 0) (.int .u8 0) (.slice none 0 0)
  rw [hw3]
  refine bodyPost_ret (by simp [results, Try.results33, go_sem, y0, y1, y2, y3]; try rfl) rfl ?_
  exact ⟨rfl, b3⟩

end Go.Proofs.Ytiaolelkabbnmaa
