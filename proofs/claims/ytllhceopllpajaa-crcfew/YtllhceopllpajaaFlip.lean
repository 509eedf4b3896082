/-
  The verifier's own 'flipped' and the document's Rest: a text with one bit turned over; a rest that is never below 0.
-/
import Derived.Test.YtllhceopllpajaaCrc
import Derived.Laws.IdiomStrings
import Derived.Deep.RegionHeld3
import Derived.Deep.OwnRows
import Derived.Deep.LoopGhost
import Derived.Deep.QuietTactic
namespace Go.Proofs.Ytllhceopllpajaa
open Go.RowKit
set_option linter.unusedVariables false

/-- one bit turned over: as bytes -/
def flL (s : ByteArray) (k : Nat) : List UInt8 := (List.range s.size).map fun i => UInt8.ofNat (flipF (bt s) k i)
/-- one bit turned over -/
def fl (s : ByteArray) (k : Nat) : ByteArray := ⟨(flL s k).toArray⟩
theorem flL_length (s : ByteArray) (k : Nat) : (flL s k).length = s.size := by simp [flL]
theorem flL_at (s : ByteArray) (k i : Nat) (h : i < (flL s k).length) : ((flL s k)[i]).toNat = flipF (bt s) k i := by
  simp only [flL, List.getElem_map, List.getElem_range, UInt8.toNat_ofNat']
  exact Nat.mod_eq_of_lt (flipF_lt _ (bt_lt s) k i)
theorem fl_size (s : ByteArray) (k : Nat) : (fl s k).size = s.size := by
  show (flL s k).toArray.size = _
  simp [flL_length]
theorem fl_bt (s : ByteArray) (k i : Nat) (h : i < s.size) : bt (fl s k) i = flipF (bt s) k i := by
  have hs : i < (fl s k).size := by rw [fl_size]; exact h
  have := flL_at s k i (by rw [flL_length]; exact h)
  rw [← this]
  show (if h : i < (fl s k).size then ((fl s k)[i]'h).toNat else 0) = _
  rw [dif_pos hs]
  rfl
theorem fl_crc (s : ByteArray) (k : Nat) (h : k < 8 * s.size) : crcN (fl s k) = crcN s ^^^ T (8 * s.size) k := by
  show sumN (bt (fl s k)) (fl s k).size = _
  rw [fl_size, sumN_congr _ (flipF (bt s) k) _ fun i hi => fl_bt s k i hi]
  exact sumN_flip (bt s) s.size k h

/-- a text's bytes laid down -/
theorem bytes_new (s : ByteArray) (w : World) : ∃ (cap : Nat) (W : World), (convert 9 28 (.string s)).run Try.prog w = .ok (.slice (some ⟨w.heap.size, 0, none⟩) s.size cap) W ∧ (∀ i, i < s.size → W.cell? ⟨w.heap.size, i, none⟩ = some (.int .u8 (bt s i : Nat))) ∧ (∀ i, i < s.size → W.frozen? ⟨w.heap.size, i, none⟩ = false) ∧ Below w.heap.size w W := by
  have hcv := run_bytes_of_string (P := Try.prog) w 9 28 5 s Try.underlying9 Try.underlying28 Try.underlying5
  refine ⟨_, _, hcv, fun i hi => ?_, fun i hi => ?_, (Below.refl _ w).drew.alloc (Nat.le_refl _) _⟩
  · have h1 : i < s.data.size := hi
    rw [show (⟨w.heap.size, i, none⟩ : Addr) = ⟨w.drew.heap.size, i, none⟩ from rfl, World.cell?_alloc_mark]
    unfold bytesRow bt
    rw [dif_pos hi, Array.getElem?_append_left (by simpa using h1)]
    refine (Array.getElem?_eq_some_iff.2 ⟨by simpa using h1, ?_⟩)
    rw [Array.getElem_map]
    rfl
  · rw [show (⟨w.heap.size, i, none⟩ : Addr) = ⟨w.drew.heap.size, i, none⟩ from rfl, World.frozen?_alloc_mark]
    have : ¬ (bytesRow s (grownCap w s.size 0 5)).size ≤ i := by
      have : s.data.size = s.size := rfl
      simp [bytesRow]
      omega
    simp [this]

set_option maxHeartbeats 1000000 in
set_option maxRecDepth 100000 in
theorem flipped_any (s : ByteArray) (k : Nat) (w : World) (hm : s.size ≤ 4095) (hk : k < 8 * s.size) :
    Calls Try.prog 14 #[.string s, .int .i64 k] w fun e w' => e = .returned (.string (fl s k)) ∧ Below w.heap.size w w' := by
  obtain ⟨cap, W, hcv, hcell, hfro, hbel⟩ := bytes_new s w
  have hq : k / 8 < s.size := by omega
  have c0 := hcell (k / 8) hq
  have f0 := hfro (k / 8) hq
  have x1 : bits .xor .u8 (bt s (k / 8) : Int) (128 / 2 ^ (k % 8)) = (flipF (bt s) k (k / 8) : Int) := by
    have h128 : 128 >>> (k % 8) < 256 := by
      have : 128 >>> (k % 8) ≤ 128 := by rw [Nat.shiftRight_eq_div_pow]; exact Nat.div_le_self _ _
      omega
    have := u8_xor_nat (bt s (k / 8)) (128 >>> (k % 8)) (bt_lt _ _) h128
    unfold flipF
    rw [if_pos rfl, ← this, Nat.shiftRight_eq_div_pow]
    simp
  have HC : Hid (∀ (v : Int), v = flipF (bt s) k (k / 8) → ∀ i, i < s.size → (W.setCell ⟨w.heap.size, k / 8, none⟩ (.int .u8 v)).drew.cell? ⟨w.heap.size, i, none⟩ = some (.int .u8 (flipF (bt s) k i : Nat))) := by
    intro v hv i hi
    show (W.setCell ⟨w.heap.size, k / 8, none⟩ (.int .u8 v)).cell? ⟨w.heap.size, i, none⟩ = _
    by_cases e : i = k / 8
    · subst e
      rw [World.cell?_setCell_same _ _ _ (hcell _ hi), hv]
    · rw [World.cell?_setCell_other _ _ _ _ (by simp <;> omega), hcell i hi]
      unfold flipF
      rw [if_neg e]
  have HB : Hid (∀ v, Below w.heap.size w (W.setCell ⟨w.heap.size, k / 8, none⟩ v).drew) := fun v => (hbel.setCell (p := ⟨w.heap.size, k / 8, none⟩) (Nat.le_refl _) v).drew
  have hback := run_convert_bytes_back (P := Try.prog) (W.setCell ⟨w.heap.size, k / 8, none⟩ (.int .u8 (flipF (bt s) k (k / 8) : Nat))).drew 28 9 5 ⟨w.heap.size, 0, none⟩ cap (flL s k) Try.underlying28 Try.underlying5 Try.underlying9 (fun i hi => by
    have hi' : i < s.size := by rw [flL_length] at hi; exact hi
    rw [flL_at _ _ _ hi, Addr.add_lit, Nat.zero_add]
    exact HC.out _ rfl i hi')
  rw [flL_length] at hback
  rw [show ByteArray.mk (flL s k).toArray = fl s k from rfl] at hback
  generalize fl s k = t at hback ⊢
  clear hcell hfro hbel
  go_enter Try.func14, Try.ntmps14
  go_wp2_with fail
  go_region
  go_wp2_with fail
  go_ret
  exact ⟨rfl, HB.out _⟩

theorem tmod_neg2 {x : Int} (h : x < 0) (n : Int) : x.tmod n = -((-x) % n) := by
  have e : x = -(-x) := by omega
  rw [e, Int.neg_tmod, Int.tmod_eq_emod_of_nonneg (by omega)]
  simp
theorem rest_eq (a n : Int) (n1 : 0 < n) (n2 : n ≤ 65536) : (wrap64 (a.tmod n + n)).tmod n = a % n := by
  rcases Int.lt_or_le a 0 with h | h
  · rw [tmod_neg2 h]
    have h1 := Int.emod_nonneg (-a) (show n ≠ 0 by omega)
    have h2 := Int.emod_lt_of_pos (-a) n1
    rw [IntWalk.wrap64_in _ (by omega), Int.tmod_eq_emod_of_nonneg (by omega), Int.add_emod_right]
    have e : -(-a % n) = a - n * ((a + -a % n) / n) := by
      have := Int.mul_ediv_add_emod (-a) n
      have q : (a + -a % n) = n * (-((-a) / n)) := by rw [Int.mul_neg]; omega
      rw [q, Int.mul_ediv_cancel_left _ (by omega), Int.mul_neg]; omega
    rw [e, Int.sub_mul_emod_self_left]
  · rw [Int.tmod_eq_emod_of_nonneg h]
    have h1 := Int.emod_nonneg a (show n ≠ 0 by omega)
    have h2 := Int.emod_lt_of_pos a n1
    rw [IntWalk.wrap64_in _ (by omega), Int.tmod_eq_emod_of_nonneg (by omega), Int.add_emod_right, Int.emod_emod]

set_option maxHeartbeats 400000 in
theorem rrest_any (a n : Int) (n1 : 0 < n) (n2 : n ≤ 65536) (w : World) :
    Calls Try.prog 13 #[.int .i64 a, .int .i64 n] w fun e w' => e = .returned (.int .i64 (a % n)) ∧ w' = w := by
  go_enter Try.func13, Try.ntmps13
  go_wp2
  go_ret
  exact ⟨congrArg (fun x => Ending.returned (.int .i64 x)) (rest_eq a n n1 n2), rfl⟩

end Go.Proofs.Ytllhceopllpajaa
