/-
  Contracts of the document's own sum, Put and Get (package steadref).
-/
import Derived.Test.YtiaolelkabbnmaaCrcGet
namespace Go.Proofs.Ytiaolelkabbnmaa
open Go.RowKit
set_option linter.unusedVariables false

theorem in_byte32 {c b : Nat} (hc : c < 65536) (hb : b < 256) : bits .xor .u32 (c : Int) ((b : Int) * 256) = ((c ^^^ b * 256 : Nat) : Int) := by
  have := u32_xor_nat c (b * 256) (by omega) (by omega)
  rw [← this]
  congr 1
theorem xor_div32 {c : Nat} (h : 32768 ≤ c) (h1 : c < 65536) : bits .xor .u32 ((c : Int) * 2 - 65536) 4129 = (st c : Int) := by
  have := u32_xor_nat (2 * c - 65536) 4129 (by omega) (by decide)
  rw [st_high h h1, ← this]
  congr 1
  omega

set_option maxHeartbeats 1000000 in
set_option maxRecDepth 100000 in
theorem rcrc_any (s : ByteArray) (w : World) (hm : s.size ≤ 140737488351232) :
    Calls Try.prog 47 #[.string s] w fun e w' => e = .returned (.int .u16 (crcN s : Nat)) ∧ w' = w := by
  go_enter Try.func47, Try.ntmps47
  go_wp2
  go_loop [3, 7] (fun c i => ∃ j : Nat, j ≤ s.size ∧ i = .int .i64 j ∧ c = .int .u32 (sumN (bt s) j : Nat)) (fun _ i => s.size - (intOf i).toNat)
  case atStart => exact ⟨0, by omega, rfl, rfl⟩
  case round =>
    obtain ⟨j, hj, rfl, rfl⟩ := hrel
    rcases Nat.lt_or_ge j s.size with g | g
    · have hs : sumN (bt s) (j + 1) = stN 8 (sumN (bt s) j ^^^ bt s j * 256) := rfl
      have hc := sumN_lt (bt s) j
      have hb : bt s j = (s[j]'g).toNat := by unfold bt; rw [dif_pos g]
      have hb2 := bt_lt s j
      generalize sumN (bt s) j = c at hs hc
      have hx := in_byte32 hc hb2
      have hl : c ^^^ bt s j * 256 < 65536 := Nat.xor_lt_two_pow (n := 16) hc (by omega)
      rw [hb] at hx hl hs hb2
      have g' : (j : Int) < (s.size : Int) := by omega
      generalize c ^^^ (s[j]'g).toNat * 256 = d at hx hl hs
      go_wp2_with fail
      clear hx hb hc
      generalize (s[j]'g).toNat = b at hb2 ⊢
      go_loop [3, 17] (fun c i => ∃ q : Nat, q ≤ 8 ∧ i = .int .i64 q ∧ c = .int .u32 (stN q d : Nat)) (fun _ i => 8 - (intOf i).toNat)
      case atStart => exact ⟨0, by decide, rfl, rfl⟩
      case round =>
        obtain ⟨q, hq, rfl, rfl⟩ := hrel
        clear ‹w = w›
        rcases Nat.lt_or_ge q 8 with g8 | g8
        · have hs2 : stN (q + 1) d = st (stN q d) := by rw [Nat.add_comm, stN_add]; rfl
          have hc2 := stN_lt q d hl
          generalize stN q d = x at hs2 hc2
          rcases Nat.lt_or_ge x 32768 with p | p
          · have e1 := st_low p
            have z1 : ¬ (x : Int) * 2 ≥ 65536 := by omega
            clear hs
            go_wp2
            go_round
            case rel => exact ⟨q + 1, by omega, by simp, by rw [hs2, e1]; simp; omega⟩
            case measure => simp [intOf]; omega
          · have e1 := xor_div32 p hc2
            have z1 : (x : Int) * 2 ≥ 65536 := by omega
            clear hs
            go_wp2
            go_round
            case rel => exact ⟨q + 1, by omega, by simp, by rw [hs2, ← e1]⟩
            case measure => simp [intOf]; omega
        · have : q = 8 := by omega
          subst this
          go_wp2
          go_round
          case rel => exact ⟨j + 1, by omega, by simp, by rw [hs]⟩
          case measure => simp [intOf]; omega
    · have e : j = s.size := by omega
      subst e
      have hc := sumN_lt (bt s) s.size
      go_wp2
      go_ret
      exact ⟨rfl, rfl⟩

set_option maxHeartbeats 400000 in
set_option maxRecDepth 100000 in
theorem rput_large (s : ByteArray) (w : World) (hm : s.size ≤ 140737488351232) (h : 4093 < s.size) :
    Calls Try.prog 44 #[.string s] w fun e w' => e = .returned (.tuple #[.string ⟨#[]⟩, .int .i64 2]) ∧ w' = w := by
  go_enter Try.func44, Try.ntmps44
  go_wp2
  go_ret2
  exact ⟨rfl, rfl⟩

set_option maxHeartbeats 400000 in
set_option maxRecDepth 100000 in
theorem rput_ok (s : ByteArray) (w : World) (h : s.size ≤ 4093) :
    Calls Try.prog 44 #[.string s] w fun e w' => e = .returned (.tuple #[.string (s ++ two (crcN s)), .int .i64 0]) ∧ Below w.heap.size w w' := by
  have HS : Hid (crcN s < 65536 ∧ ∀ W, Calls Try.prog 47 #[.string s] W fun e w' => e = .returned (.int .u16 (crcN s : Nat)) ∧ w' = W) := ⟨crcN_lt s, fun W => rcrc_any s W (by omega)⟩
  generalize crcN s = c at HS ⊢
  have hc : (c : Int) < 65536 := by have := HS.out.1; omega
  have h2 := two_size c
  have hcv := two_back c HS.out.1 w
  generalize two c = t at hcv h2 ⊢
  have HC : Hid (_) := hcv
  have HC2 : Hid (_) := hc
  clear hcv hc
  have h' : ¬ (4093 : Int) < (s.size : Int) := by omega
  go_enter Try.func44, Try.ntmps44
  go_wp2_with fail
  refine (HS.out.2 _).mono ?_
  rintro e w1 ⟨rfl, rfl⟩
  have hcv := HC.out
  have hc := HC2.out
  go_wp2_with fail
  go_ret2
  exact ⟨rfl, (Below.refl _ _).alloc (Nat.le_refl _) _⟩

set_option maxHeartbeats 400000 in
set_option maxRecDepth 100000 in
theorem rget_large (s : ByteArray) (w : World) (hm : s.size ≤ 140737488351232) (h : 4095 < s.size) :
    Calls Try.prog 39 #[.string s] w fun e w' => e = .returned (.tuple #[.string ⟨#[]⟩, .int .i64 2]) ∧ w' = w := by
  go_enter Try.func39, Try.ntmps39
  go_wp2
  go_ret2
  exact ⟨rfl, rfl⟩

set_option maxHeartbeats 400000 in
set_option maxRecDepth 100000 in
theorem rget_short (s : ByteArray) (w : World) (h : s.size < 2) :
    Calls Try.prog 39 #[.string s] w fun e w' => e = .returned (.tuple #[.string ⟨#[]⟩, .int .i64 3]) ∧ w' = w := by
  go_enter Try.func39, Try.ntmps39
  go_wp2
  go_ret2
  exact ⟨rfl, rfl⟩

theorem toList_extract (s : ByteArray) (a b : Nat) : (s.extract a b).toList = (s.data.toList.drop a).take (b - a) := by
  rw [ByteArray.toList_eq, ByteArray.data_extract, Array.toList_extract, List.extract_eq_take_drop]
theorem toList_append (s t : ByteArray) : (s ++ t).toList = s.toList ++ t.toList := by
  rw [ByteArray.toList_eq, ByteArray.toList_eq, ByteArray.toList_eq, ByteArray.data_append, Array.toList_append]
theorem same_end (s t : ByteArray) (n : Nat) (hs : s.size = n + 2) : ((s.extract 0 n ++ t).toList == s.toList) = ((s.extract n (n + 2)).toList == t.toList) := by
  have hl : s.data.toList.length = n + 2 := by rw [Array.length_toList]; exact hs
  rw [toList_append, toList_extract, toList_extract, ByteArray.toList_eq s, List.drop_zero, Nat.sub_zero, Nat.add_sub_cancel_left, List.take_of_length_le (l := s.data.toList.drop n) (by simp; omega)]
  generalize s.data.toList = L
  generalize t.toList = T
  have h : L = L.take n ++ L.drop n := (List.take_append_drop n L).symm
  rw [Bool.eq_iff_iff, beq_iff_eq, beq_iff_eq]
  constructor
  · intro e
    rw [h] at e
    simp only [List.take_append_drop] at e
    have e2 : L.take n ++ T = L.take n ++ L.drop n := by rw [← h]; exact e
    exact (List.append_cancel_left e2).symm
  · intro e
    rw [← e]
    exact h.symm

set_option maxHeartbeats 1000000 in
set_option maxRecDepth 100000 in
theorem rget_any (s : ByteArray) (n : Nat) (w : World) (hs : s.size = n + 2) (h : s.size ≤ 4095) (E : Value)
    (hE : ((s.extract n (n + 2)).toList == (two (crcN (s.extract 0 n))).toList) = true ∧ E = .tuple #[.string (s.extract 0 n), .int .i64 0] ∨ ((s.extract n (n + 2)).toList == (two (crcN (s.extract 0 n))).toList) = false ∧ E = .tuple #[.string ⟨#[]⟩, .int .i64 5]) :
    Calls Try.prog 39 #[.string s] w fun e w' => e = .returned E ∧ Below w.heap.size w w' := by
  have hx : (s.extract 0 n).size = n := by rw [extract_size _ _ _ (by omega)]; rfl
  rw [← same_end s _ n hs] at hE
  have HP : Hid (∀ W, Calls Try.prog 44 #[.string (s.extract 0 n)] W fun e w' => e = .returned (.tuple #[.string (s.extract 0 n ++ two (crcN (s.extract 0 n))), .int .i64 0]) ∧ Below W.heap.size W w') := fun W => rput_ok _ W (by omega)
  generalize s.extract 0 n ++ two (crcN (s.extract 0 n)) = t at HP hE
  have h1 : ¬ (4095 : Int) < (s.size : Int) := by omega
  have h2 : ¬ (s.size : Int) < 2 := by omega
  have h4 : ((s.size : Nat) : Int) = (n : Int) + 2 := by omega
  have q2 : ∀ W : World, (Instr.slice 9 (.string s) none (some (.int .i64 (n : Int))) none).run Try.prog W = .ok (.string (s.extract 0 n)) W := fun W => by
    rw [run_slice_string_to_if W 9 s .i64 (n : Int) Try.underlying9]
    rw [if_pos (by omega)]
    rfl
  have HE : Hid (_) := hE
  clear hE
  go_enter Try.func39, Try.ntmps39
  go_wp2_with fail
  refine (HP.out _).mono ?_
  rintro e w1 ⟨rfl, hb⟩
  have HB : Hid (Below w.heap.size w w1) := hb
  clear hb
  rcases HE.out with ⟨hq, rfl⟩ | ⟨hq, rfl⟩
  · have hq' : (!(t.toList == s.toList)) = false := by rw [hq]; rfl
    clear hq
    go_wp2_with fail
    go_ret2
    exact ⟨rfl, HB.out⟩
  · have hq' : (!(t.toList == s.toList)) = true := by rw [hq]; rfl
    clear hq
    go_wp2_with fail
    go_ret2
    exact ⟨rfl, HB.out⟩

end Go.Proofs.Ytiaolelkabbnmaa
