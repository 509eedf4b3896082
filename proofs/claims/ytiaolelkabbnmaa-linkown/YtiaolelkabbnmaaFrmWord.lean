/-
  Contracts of frame.word, words: numbers of 32 bits out of four bytes each.
-/
import Derived.Test.YtiaolelkabbnmaaFrm
namespace Go.Proofs.Ytiaolelkabbnmaa
open Go.RowKit
set_option linter.unusedVariables false

/-- four bytes as a number with its sign -/
def sg (b0 b1 b2 b3 : Nat) : Int := if b0 * 16777216 + b1 * 65536 + b2 * 256 + b3 < 2147483648 then (b0 * 16777216 + b1 * 65536 + b2 * 256 + b3 : Nat) else (b0 * 16777216 + b1 * 65536 + b2 * 256 + b3 : Nat) - 4294967296
theorem or_sum {k x y : Nat} (h : y < 2 ^ k) : x * 2 ^ k ||| y = x * 2 ^ k + y := by
  rw [Nat.mul_comm]
  exact (Nat.two_pow_add_eq_or_of_lt h x).symm
theorem or1 {b0 b1 : Nat} (h0 : b0 < 256) (h1 : b1 < 256) : bits .or .u32 ((b0 : Int) * 16777216) ((b1 : Int) * 65536) = (b0 : Int) * 16777216 + (b1 : Int) * 65536 := by
  have := u32_or_nat (b0 * 16777216) (b1 * 65536) (by omega) (by omega)
  rw [show b0 * 16777216 ||| b1 * 65536 = b0 * 16777216 + b1 * 65536 from or_sum (k := 24) (by omega)] at this
  simpa using this
theorem or2 {b0 b1 b2 : Nat} (h0 : b0 < 256) (h1 : b1 < 256) (h2 : b2 < 256) : bits .or .u32 ((b0 : Int) * 16777216 + (b1 : Int) * 65536) ((b2 : Int) * 256) = (b0 : Int) * 16777216 + (b1 : Int) * 65536 + (b2 : Int) * 256 := by
  have := u32_or_nat ((b0 * 256 + b1) * 65536) (b2 * 256) (by omega) (by omega)
  rw [show (b0 * 256 + b1) * 65536 ||| b2 * 256 = (b0 * 256 + b1) * 65536 + b2 * 256 from or_sum (k := 16) (by omega)] at this
  rw [show (b0 : Int) * 16777216 + (b1 : Int) * 65536 = (((b0 * 256 + b1) * 65536 : Nat) : Int) by omega, show (b2 : Int) * 256 = ((b2 * 256 : Nat) : Int) by omega, this]
  omega
theorem or3 {b0 b1 b2 b3 : Nat} (h0 : b0 < 256) (h1 : b1 < 256) (h2 : b2 < 256) (h3 : b3 < 256) : bits .or .u32 ((b0 : Int) * 16777216 + (b1 : Int) * 65536 + (b2 : Int) * 256) (b3 : Int) = (b0 : Int) * 16777216 + (b1 : Int) * 65536 + (b2 : Int) * 256 + (b3 : Int) := by
  have := u32_or_nat ((b0 * 65536 + b1 * 256 + b2) * 256) b3 (by omega) (by omega)
  rw [show (b0 * 65536 + b1 * 256 + b2) * 256 ||| b3 = (b0 * 65536 + b1 * 256 + b2) * 256 + b3 from or_sum (k := 8) (by omega)] at this
  rw [show (b0 : Int) * 16777216 + (b1 : Int) * 65536 + (b2 : Int) * 256 = (((b0 * 65536 + b1 * 256 + b2) * 256 : Nat) : Int) by omega, this]
  omega
theorem sg_wrap (b0 b1 b2 b3 : Nat) (h0 : b0 < 256) (h1 : b1 < 256) (h2 : b2 < 256) (h3 : b3 < 256) : IntKind.i32.wrap ((b0 : Int) * 16777216 + (b1 : Int) * 65536 + (b2 : Int) * 256 + (b3 : Int)) = sg b0 b1 b2 b3 := by
  unfold sg
  rw [IntKind.wrap_i32]
  split <;> omega
theorem sg_in (b0 b1 b2 b3 : Nat) (h0 : b0 < 256) (h1 : b1 < 256) (h2 : b2 < 256) (h3 : b3 < 256) : -2147483648 ≤ sg b0 b1 b2 b3 ∧ sg b0 b1 b2 b3 ≤ 2147483647 := by
  unfold sg
  split <;> omega
theorem index_bt (s : ByteArray) (j : Nat) (h : j < s.size) (W : World) : (Instr.index 9 (.string s) (.int .i64 (j : Int))).run Try.prog W = .ok (.int .u8 (bt s j : Nat)) W := by
  rw [run_index_string W 9 s .i64 (j : Int) Try.underlying9, dif_pos (by omega)]
  unfold bt
  rw [dif_pos h]
  rfl

set_option maxHeartbeats 1000000 in
set_option maxRecDepth 100000 in
theorem word_any (s : ByteArray) (w : World) (h : 4 ≤ s.size) :
    Calls Try.prog 43 #[.string s] w fun e w' => e = .returned (.int .i32 (sg (bt s 0) (bt s 1) (bt s 2) (bt s 3))) ∧ ∃ d, w' = w.drewN d := by
  have i0 : ∀ W : World, (Instr.index 9 (.string s) (.int .i64 0)).run Try.prog W = .ok (.int .u8 (bt s 0 : Nat)) W := index_bt s 0 (by omega)
  have i1 : ∀ W : World, (Instr.index 9 (.string s) (.int .i64 1)).run Try.prog W = .ok (.int .u8 (bt s 1 : Nat)) W := index_bt s 1 (by omega)
  have i2 : ∀ W : World, (Instr.index 9 (.string s) (.int .i64 2)).run Try.prog W = .ok (.int .u8 (bt s 2 : Nat)) W := index_bt s 2 (by omega)
  have i3 : ∀ W : World, (Instr.index 9 (.string s) (.int .i64 3)).run Try.prog W = .ok (.int .u8 (bt s 3 : Nat)) W := index_bt s 3 (by omega)
  have c0 := bt_lt s 0
  have c1 := bt_lt s 1
  have c2 := bt_lt s 2
  have c3 := bt_lt s 3
  generalize bt s 0 = b0 at *
  generalize bt s 1 = b1 at *
  generalize bt s 2 = b2 at *
  generalize bt s 3 = b3 at *
  have o1 := or1 c0 c1
  have o2 := or2 c0 c1 c2
  have o3 := or3 c0 c1 c2 c3
  have o4 := sg_wrap b0 b1 b2 b3 c0 c1 c2 c3
  clear h
  go_enter Try.func43, Try.ntmps43
  go_wp2
  go_quiet (fail)
  go_wp2
  go_ret
  exact ⟨by rw [← o4]; rfl, _, rfl⟩

/-- the words of a text, four bytes each -/
def wd (s : ByteArray) (k : Nat) : Int := sg (bt s (4 * k)) (bt s (4 * k + 1)) (bt s (4 * k + 2)) (bt s (4 * k + 3))
theorem bt_tail (s : ByteArray) (a b k : Nat) (h : a + k < b) : bt (s.extract a b) k = bt s (a + k) := by
  rw [bt_eq, bt_eq, toList_extract, List.getElem?_take_of_lt (by omega), List.getElem?_drop, ByteArray.toList_eq]
/-- the first j of m words are laid -/
structure Laid (w : World) (B m : Nat) (l : Nat → Int) (j : Nat) (W : World) : Prop where
  row : W.rowIs B 21 m (fun k => .int .i32 (if k < j then l k else 0))
  below : Below w.heap.size w W
theorem Laid.cell {w : World} {B m : Nat} {l : Nat → Int} {j : Nat} {W : World} (h : Laid w B m l j W) (hj : j < m) : W.cell? ⟨B, j, none⟩ = some (.int .i32 0) := by
  have := h.row.cell hj
  rw [if_neg (by omega)] at this
  exact this
theorem Laid.store {w : World} {B m : Nat} {l : Nat → Int} {j d : Nat} {W : World} (h : Laid w B m l j W) (hB : w.heap.size ≤ B) : Laid w B m l (j + 1) ((W.drewN d).setCell ⟨B, j, none⟩ (.int .i32 (l j))) := by
  have hr : (W.drewN d).rowIs B 21 m (fun k => .int .i32 (if k < j then l k else 0)) := h.row.of_block (by rfl)
  refine ⟨?_, (h.below.trans ?_).setCell (p := ⟨B, j, none⟩) hB _⟩
  · refine (hr.set j _).congr fun k hk => ?_
    by_cases e : k = j
    · subst e
      rw [if_pos rfl, if_pos (by omega)]
    · rw [if_neg e]
      by_cases g : k < j
      · rw [if_pos g, if_pos (by omega)]
      · rw [if_neg g, if_neg (by omega)]
  · exact ⟨rfl, rfl, rfl, Nat.le_refl _, fun _ _ => rfl⟩

set_option maxHeartbeats 1000000 in
set_option maxRecDepth 100000 in
theorem words_any (s : ByteArray) (m : Nat) (w : World) (hs : s.size = 4 * m) (hm : m ≤ 255) :
    Calls Try.prog 36 #[.string s] w fun e w' => e = .returned (.slice (some ⟨w.heap.size, 0, none⟩) m m) ∧ Row32 w' w.heap.size 0 m (wd s) ∧ w.heap.size < w'.heap.size ∧ Below w.heap.size w w' := by
  have one : (Try.prog.info? 21).map (fun i => (i.zero, i.size, i.bytes)) = some (some (.int .i32 0), 1, 4) := by kernel_rfl
  have mk := run_make_row' (P := Try.prog) 22 21 (.int .i32 0) 4 Try.underlying22 one rfl .i64 .i64 m (by omega) (by omega) w
  have L0 : Hid (Laid w w.heap.size m (wd s) 0 (w.alloc (.cells (madeCells #[.int .i32 0] m) 21))) := ⟨(World.rowIs_made w (.int .i32 0) m 21).congr fun k hk => by rw [if_neg (by omega)], (Below.refl _ w).alloc (Nat.le_refl _) _⟩
  generalize w.alloc (.cells (madeCells #[.int .i32 0] m) 21) = w0 at mk L0
  have hq : (s.size : Int) / 4 = (m : Int) := by omega
  have hq2 : (s.size : Int).tdiv 4 = (m : Int) := by rw [Int.tdiv_eq_ediv_of_nonneg (by omega)]; exact hq
  have HS : Hid (s.size = 4 * m) := hs
  clear hs
  go_enter Try.func36, Try.ntmps36
  go_wp2
  go_loopw [11] (fun i wr => ∃ j : Nat, j ≤ m ∧ i = .int .i64 j ∧ Hid (Laid w w.heap.size m (wd s) j wr)) (fun i _ => m - (intOf i).toNat)
  case atStart => exact ⟨0, by omega, rfl, L0⟩
  case round =>
    obtain ⟨j, hj, rfl, LJ⟩ := hrel
    rcases Nat.lt_or_ge j m with g | g
    · have g' : (j : Int) < (m : Int) := by omega
      have x0 := LJ.out.cell g
      have f0 : wr.frozen? ⟨w.heap.size, j, none⟩ = false := LJ.out.row.frozen j
      have q1 : ∀ W : World, (Instr.slice 9 (.string s) (some (.int .i64 (4 * (j : Int)))) none none).run Try.prog W = .ok (.string (s.extract (4 * j) s.size)) W := fun W => by
        have := HS.out
        rw [run_slice_string_from_if W 9 s .i64 (4 * (j : Int)) Try.underlying9]
        rw [if_pos (by omega)]
        rw [show (4 * (j : Int)).toNat = 4 * j by omega]
      have HW : Hid (∀ W, Calls Try.prog 43 #[.string (s.extract (4 * j) s.size)] W fun e w' => e = .returned (.int .i32 (wd s j)) ∧ ∃ d, w' = W.drewN d) := fun W => by
        have hz := HS.out
        have e : wd s j = sg (bt (s.extract (4 * j) s.size) 0) (bt (s.extract (4 * j) s.size) 1) (bt (s.extract (4 * j) s.size) 2) (bt (s.extract (4 * j) s.size) 3) := by
          rw [bt_tail _ _ _ _ (by omega), bt_tail _ _ _ _ (by omega), bt_tail _ _ _ _ (by omega), bt_tail _ _ _ _ (by omega)]
          rfl
        rw [e]
        exact word_any _ W (by rw [extract_size _ _ _ (Nat.le_refl _)]; omega)
      generalize s.extract (4 * j) s.size = t at q1 HW
      go_wp2_with fail
      refine (HW.out _).mono ?_
      rintro e w1 ⟨rfl, d, rfl⟩
      have x1 : (wr.drewN d).cell? ⟨w.heap.size, j, none⟩ = some (.int .i32 0) := x0
      have f1 : (wr.drewN d).frozen? ⟨w.heap.size, j, none⟩ = false := f0
      go_wp2_with fail
      go_roundw
      case rel => exact ⟨j + 1, by omega, by go_num, LJ.out.store (Nat.le_refl _)⟩
      case measure => simp [intOf]; omega
    · have : j = m := by omega
      subst this
      go_wp2
      go_ret
      exact ⟨rfl, fun k hk => by have := LJ.out.row.cell hk; rw [if_pos hk] at this; rw [Nat.zero_add]; exact this, LJ.out.row.lt, LJ.out.below⟩

end Go.Proofs.Ytiaolelkabbnmaa
