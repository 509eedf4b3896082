/-
  What Get tells, by the sum of all bytes: right if and only if it is 0. What Put makes is right.
-/
import Derived.Test.YtiaolelkabbnmaaRCrc
namespace Go.Proofs.Ytiaolelkabbnmaa
open Go.RowKit
set_option linter.unusedVariables false

theorem bt_eq (s : ByteArray) (k : Nat) : bt s k = ((s.toList[k]?).map UInt8.toNat).getD 0 := by
  have hl : s.toList.length = s.size := by rw [ByteArray.toList_eq, Array.length_toList]; rfl
  unfold bt
  split
  · rename_i h
    rw [List.getElem?_eq_getElem (by omega)]
    simp only [Option.map_some, Option.getD_some]
    congr 1
    have e := ByteArray.toList_eq s
    simp only [e, Array.getElem_toList]
    rfl
  · rw [List.getElem?_eq_none (by omega)]
    rfl
theorem length_toList (s : ByteArray) : s.toList.length = s.size := by rw [ByteArray.toList_eq, Array.length_toList]; rfl
theorem bt_append_left (s t : ByteArray) (k : Nat) (h : k < s.size) : bt (s ++ t) k = bt s k := by
  rw [bt_eq, bt_eq, toList_append, List.getElem?_append_left (by rw [length_toList]; exact h)]
theorem bt_append_right (s t : ByteArray) (k : Nat) : bt (s ++ t) (s.size + k) = bt t k := by
  rw [bt_eq, bt_eq, toList_append, List.getElem?_append_right (by rw [length_toList]; omega), length_toList, Nat.add_sub_cancel_left]
theorem bt_extract (s : ByteArray) (n k : Nat) (h : k < n) : bt (s.extract 0 n) k = bt s k := by
  rw [bt_eq, bt_eq, toList_extract, List.drop_zero, Nat.sub_zero, List.getElem?_take_of_lt h, ByteArray.toList_eq]
theorem last_two (s : ByteArray) (n : Nat) (hs : s.size = n + 2) : (s.extract n (n + 2)).toList = [UInt8.ofNat (bt s n), UInt8.ofNat (bt s (n + 1))] := by
  have hl : s.data.toList.length = n + 2 := by rw [Array.length_toList]; exact hs
  rw [toList_extract, bt_eq, bt_eq, ByteArray.toList_eq, Nat.add_sub_cancel_left]
  generalize s.data.toList = L at hl
  have h1 : L[n]? = some L[n] := List.getElem?_eq_getElem (by omega)
  have h2 : L[n + 1]? = some L[n + 1] := List.getElem?_eq_getElem (by omega)
  rw [h1, h2]
  simp only [Option.map_some, Option.getD_some, UInt8.ofNat_toNat]
  refine List.ext_getElem? fun i => ?_
  match i with
  | 0 => rw [List.getElem?_take_of_lt (by decide), List.getElem?_drop, Nat.add_zero, h1]; rfl
  | 1 => rw [List.getElem?_take_of_lt (by decide), List.getElem?_drop, h2]; rfl
  | i + 2 =>
    rw [List.getElem?_eq_none (by simp; omega), List.getElem?_eq_none (by simp)]
theorem ofNat_inj {a b : Nat} (ha : a < 256) (hb : b < 256) (h : UInt8.ofNat a = UInt8.ofNat b) : a = b := by
  have := congrArg UInt8.toNat h
  rw [UInt8.toNat_ofNat', UInt8.toNat_ofNat'] at this
  omega
theorem right_iff (u : ByteArray) (n : Nat) (hs : u.size = n + 2) : ((u.extract n (n + 2)).toList == (two (crcN (u.extract 0 n))).toList) = decide (crcN u = 0) := by
  have hx : (u.extract 0 n).size = n := by rw [extract_size _ _ _ (by omega)]; rfl
  have hc : crcN (u.extract 0 n) = sumN (bt u) n := by
    unfold crcN
    rw [hx]
    exact sumN_congr _ _ _ fun k hk => bt_extract u n k hk
  have hu : crcN u = sumN (bt u) (n + 2) := by unfold crcN; rw [hs]
  have hlt := sumN_lt (bt u) n
  rw [last_two u n hs, hc, hu]
  have hr := sumN_right (bt u) (bt_lt u) n
  have b1 := bt_lt u n
  have b2 := bt_lt u (n + 1)
  generalize sumN (bt u) n = c at hr hlt
  generalize bt u n = p at *
  generalize bt u (n + 1) = q at *
  have ht : (two c).toList = [UInt8.ofNat (c / 256), UInt8.ofNat c] := by rw [ByteArray.toList_eq]; rfl
  rw [ht, Bool.eq_iff_iff, beq_iff_eq, decide_eq_true_iff, hr]
  constructor
  · intro e
    simp only [List.cons.injEq, and_true] at e
    have e1 := ofNat_inj b1 (by omega) e.1
    have e2 := congrArg UInt8.toNat e.2
    rw [UInt8.toNat_ofNat', UInt8.toNat_ofNat'] at e2
    omega
  · intro e
    have e1 : c / 256 = p := by omega
    have e2 : UInt8.ofNat q = UInt8.ofNat c := by
      apply UInt8.toNat_inj.1
      rw [UInt8.toNat_ofNat', UInt8.toNat_ofNat']
      omega
    rw [e1, e2]

/-- Get, where the sum of all is not 0 -/
theorem get_wrong (u : ByteArray) (w : World) (h2 : 2 ≤ u.size) (h : u.size ≤ 4095) (hc : crcN u ≠ 0) :
    Calls Try.prog 35 #[.string u] w fun e w' => e = .returned (.tuple #[.string ⟨#[]⟩, .int .i64 5]) ∧ Below w.heap.size w w' := by
  obtain ⟨n, hn⟩ : ∃ n, u.size = n + 2 := ⟨u.size - 2, by omega⟩
  exact get_any u n w hn h _ (Or.inr ⟨by rw [right_iff u n hn]; exact decide_eq_false hc, rfl⟩)

/-- Get, where the sum of all is 0 -/
theorem get_right (u : ByteArray) (n : Nat) (w : World) (hn : u.size = n + 2) (h : u.size ≤ 4095) (hc : crcN u = 0) :
    Calls Try.prog 35 #[.string u] w fun e w' => e = .returned (.tuple #[.string (u.extract 0 n), .int .i64 0]) ∧ Below w.heap.size w w' :=
  get_any u n w hn h _ (Or.inl ⟨by rw [right_iff u n hn]; exact decide_eq_true hc, rfl⟩)

/-- what Put makes -/
theorem put_size (s : ByteArray) : (s ++ two (crcN s)).size = s.size + 2 := by rw [ByteArray.size_append, two_size]
theorem put_crc (s : ByteArray) : crcN (s ++ two (crcN s)) = 0 := by
  have hlt := crcN_lt s
  have h0 : crcN (s ++ two (crcN s)) = sumN (bt (s ++ two (crcN s))) (s.size + 2) := by
    show sumN _ (s ++ two (crcN s)).size = _
    rw [put_size]
  rw [h0, sumN_right _ (bt_lt _), sumN_congr _ (bt s) s.size fun k hk => bt_append_left s _ k hk]
  have e0 := bt_append_right s (two (crcN s)) 0
  have e1 := bt_append_right s (two (crcN s)) 1
  rw [Nat.add_zero] at e0
  rw [e0, e1]
  show crcN s = _
  generalize crcN s = c at *
  have t0 : bt (two c) 0 = c / 256 := by
    show (UInt8.ofNat (c / 256)).toNat = _
    rw [UInt8.toNat_ofNat']
    omega
  have t1 : bt (two c) 1 = c % 256 := by
    show (UInt8.ofNat c).toNat = _
    rw [UInt8.toNat_ofNat']
  rw [t0, t1]
  omega
theorem put_back (s : ByteArray) : ((s ++ two (crcN s)).extract 0 s.size).toList = s.toList := by
  rw [toList_extract, List.drop_zero, Nat.sub_zero, ByteArray.data_append, Array.toList_append, ByteArray.toList_eq]
  exact List.take_left' (by rw [Array.length_toList]; rfl)

end Go.Proofs.Ytiaolelkabbnmaa
