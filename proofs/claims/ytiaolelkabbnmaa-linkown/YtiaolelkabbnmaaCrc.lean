/-
  Contracts of crc.stir, Sum: what the plain functions of CrcPlain say; memory stays as it was.
-/
import Derived.Test.YtiaolelkabbnmaaCrcPlain
import Derived.Test.YtiaolelkabbnmaaRows
import Derived.WalkKit
import Derived.WalkSpells
import Derived.WalkLawsBesides
import Derived.Laws.BitsLemmas
import Derived.Laws.BitsAllLaws
import Derived.Handy
namespace Go.Proofs.Ytiaolelkabbnmaa
open Go.RowKit
set_option linter.unusedVariables false

theorem st_low {c : Nat} (h : c < 32768) : st c = 2 * c := by
  have hb : c.testBit 15 = false := Nat.testBit_lt_two_pow h
  unfold st
  rw [hb, Nat.mod_eq_of_lt (by omega)]
  simp
theorem st_high {c : Nat} (h : 32768 ≤ c) (h1 : c < 65536) : st c = (2 * c - 65536) ^^^ 4129 := by
  have hb : c.testBit 15 = true := by
    rw [Nat.testBit_eq_decide_div_mod_eq]
    have : c / 2 ^ 15 = 1 := by omega
    rw [this]; rfl
  unfold st
  rw [hb, show (2 * c) % 65536 = 2 * c - 65536 by omega]
  simp
theorem and_top_low {c : Nat} (h : c < 32768) : bits .and .u16 (c : Int) 32768 = 0 := by
  have := u16_and_nat c 32768 (by omega) (by decide)
  rw [show ((32768 : Nat) : Int) = 32768 from rfl] at this
  rw [this]
  have e : c &&& 32768 = 0 := by
    refine Nat.eq_of_testBit_eq fun i => ?_
    rw [Nat.testBit_and, Nat.zero_testBit, show (32768 : Nat) = 2 ^ 15 from rfl, Nat.testBit_two_pow]
    by_cases e : 15 = i
    · subst e
      rw [Nat.testBit_lt_two_pow h]; rfl
    · simp [e]
  rw [e]; rfl
theorem and_top_high {c : Nat} (h : 32768 ≤ c) (h1 : c < 65536) : bits .and .u16 (c : Int) 32768 = 32768 := by
  have := u16_and_nat c 32768 (by omega) (by decide)
  rw [show ((32768 : Nat) : Int) = 32768 from rfl] at this
  rw [this]
  have e : c &&& 32768 = 32768 := by
    refine Nat.eq_of_testBit_eq fun i => ?_
    rw [Nat.testBit_and, show (32768 : Nat) = 2 ^ 15 from rfl, Nat.testBit_two_pow]
    by_cases e : 15 = i
    · subst e
      have hb : c.testBit 15 = true := by
        rw [Nat.testBit_eq_decide_div_mod_eq]
        have : c / 2 ^ 15 = 1 := by omega
        rw [this]; rfl
      rw [hb]; rfl
    · simp [e]
  rw [e]; rfl
theorem xor_div {c : Nat} (h : 32768 ≤ c) (h1 : c < 65536) : bits .xor .u16 ((c : Int) * 2 - 65536) 4129 = (st c : Int) := by
  have := u16_xor_nat (2 * c - 65536) 4129 (by omega) (by decide)
  rw [st_high h h1, ← this]
  congr 1
  omega

set_option maxHeartbeats 400000 in
theorem stir_any (n : Nat) (hn : n < 65536) (w : World) :
    Calls Try.prog 45 #[.int .u16 n] w fun e w' => e = .returned (.int .u16 (stN 8 n : Nat)) ∧ w' = w := by
  go_enter Try.func45, Try.ntmps45
  go_wp2
  go_loop [0, 4] (fun s i => ∃ j : Nat, j ≤ 8 ∧ i = .int .i64 j ∧ s = .int .u16 (stN j n : Nat)) (fun _ i => 8 - (intOf i).toNat)
  case atStart => exact ⟨0, by decide, rfl, rfl⟩
  case round =>
    obtain ⟨j, hj, rfl, rfl⟩ := hrel
    rcases Nat.lt_or_ge j 8 with g | g
    · have hs : stN (j + 1) n = st (stN j n) := by rw [Nat.add_comm, stN_add]; rfl
      have hc := stN_lt j n hn
      generalize stN j n = c at hs hc
      rcases Nat.lt_or_ge c 32768 with q | q
      · have a1 := and_top_low q
        have e1 := st_low q
        go_wp2
        go_round
        case rel => exact ⟨j + 1, by omega, by simp, by rw [hs, e1]; simp; omega⟩
        case measure => simp [intOf]; omega
      · have a1 := and_top_high q hc
        have e1 := xor_div q hc
        have hw : IntKind.u16.wrap ((c : Int) * 2) = (c : Int) * 2 - 65536 := by rw [IntKind.wrap_u16]; omega
        rw [← hw] at e1
        clear hw
        go_wp2
        go_round
        case rel => exact ⟨j + 1, by omega, by simp, by rw [hs, ← e1]⟩
        case measure => simp [intOf]; omega
    · have : j = 8 := by omega
      subst this
      go_wp2
      go_ret
      exact ⟨rfl, rfl⟩

/-- the k-th byte -/
def bt (s : ByteArray) (k : Nat) : Nat := if h : k < s.size then (s[k]'h).toNat else 0
theorem bt_lt (s : ByteArray) (k : Nat) : bt s k < 256 := by
  unfold bt
  split
  · exact UInt8.toNat_lt _
  · decide
/-- the sum of a text -/
def crcN (s : ByteArray) : Nat := sumN (bt s) s.size
theorem crcN_lt (s : ByteArray) : crcN s < 65536 := sumN_lt _ _
theorem in_byte {c b : Nat} (hc : c < 65536) (hb : b < 256) : bits .xor .u16 (c : Int) ((b : Int) * 256) = ((c ^^^ b * 256 : Nat) : Int) := by
  have := u16_xor_nat c (b * 256) hc (by omega)
  rw [← this]
  congr 1

set_option maxHeartbeats 400000 in
theorem sum_any (s : ByteArray) (w : World) (hm : s.size ≤ 140737488351232) :
    Calls Try.prog 41 #[.string s] w fun e w' => e = .returned (.int .u16 (crcN s : Nat)) ∧ w' = w := by
  go_enter Try.func41, Try.ntmps41
  go_wp2
  go_loop [3, 7] (fun c i => ∃ j : Nat, j ≤ s.size ∧ i = .int .i64 j ∧ c = .int .u16 (sumN (bt s) j : Nat)) (fun _ i => s.size - (intOf i).toNat)
  case atStart => exact ⟨0, by omega, rfl, rfl⟩
  case round =>
    obtain ⟨j, hj, rfl, rfl⟩ := hrel
    rcases Nat.lt_or_ge j s.size with g | g
    · have hs : sumN (bt s) (j + 1) = stN 8 (sumN (bt s) j ^^^ bt s j * 256) := rfl
      have hc := sumN_lt (bt s) j
      have hb : bt s j = (s[j]'g).toNat := by unfold bt; rw [dif_pos g]
      have hb2 := bt_lt s j
      generalize sumN (bt s) j = c at hs hc
      have hx := in_byte hc hb2
      have hl : c ^^^ bt s j * 256 < 65536 := Nat.xor_lt_two_pow (n := 16) hc (by omega)
      rw [hb] at hx hl hs hb2
      have g' : (j : Int) < (s.size : Int) := by omega
      go_wp2_with (go_at_call 45; refine (stir_any _ hl _).mono ?_; rintro e w' ⟨rfl, rfl⟩)
      go_round
      case rel => exact ⟨j + 1, by omega, by simp, by rw [hs]⟩
      case measure => simp [intOf]; omega
    · have e : j = s.size := by omega
      subst e
      go_wp2
      go_ret
      exact ⟨rfl, rfl⟩

end Go.Proofs.Ytiaolelkabbnmaa
