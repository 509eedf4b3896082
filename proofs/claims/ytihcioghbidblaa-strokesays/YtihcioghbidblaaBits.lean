/-
  Laws on bits: a number by a mask is its rest by a power of two, whatever its sign.
-/
import Derived.Test.YtihcioghbidblaaRows
import Derived.WalkKit
import Derived.WalkSpells
import Derived.WalkLawsBesides
import Derived.Laws.BitsLemmas
namespace Go.Proofs.Ytihcioghbidblaa
open Go.RowKit

theorem bits_mask_any (k : IntKind) (j : Nat) (hj : j ≤ k.bits) (hk : ∀ n : Int, 0 ≤ n → n < 2 ^ j → k.wrap n = n) (i : Nat) (hi : i ≤ j)
    (x : Int) : bits .and k x (2 ^ i - 1) = x % 2 ^ i := by
  have hpos : 0 < 2 ^ i := Nat.two_pow_pos i
  have hc : ((2 : Int) ^ i - 1) = ((2 ^ i - 1 : Nat) : Int) := by
    rw [Int.natCast_sub hpos]; simp
  have hm : 2 ^ i - 1 < 2 ^ k.bits := Nat.lt_of_lt_of_le (Nat.sub_lt hpos (by decide)) (Nat.pow_le_pow_right (by decide) (Nat.le_trans hi hj))
  have hb : (2 ^ i - 1) % 2 ^ k.bits = 2 ^ i - 1 := Nat.mod_eq_of_lt hm
  have hd : ((2 : Int) ^ i) ∣ (2 : Int) ^ k.bits := ⟨2 ^ (k.bits - i), by rw [← Int.pow_add]; congr 1; omega⟩
  have hn : 0 ≤ x % (2 : Int) ^ k.bits := Int.emod_nonneg _ (by have : (0:Int) < 2 ^ k.bits := Int.pow_pos (by decide); omega)
  have hp : (0 : Int) < 2 ^ i := Int.pow_pos (by decide)
  have hl : x % (2 : Int) ^ i < 2 ^ i := Int.emod_lt_of_pos _ hp
  have hij : (2 : Int) ^ i ≤ 2 ^ j := by
    have := Nat.pow_le_pow_right (n := 2) (by decide) hi
    exact_mod_cast this
  rw [hc]
  simp only [bits, BitVec.ofInt_natCast, BitVec.toNat_and, BitVec.toNat_ofNat, hb, BitVec.toNat_ofInt, Nat.and_two_pow_sub_one_eq_mod]
  have e : ((((x % ((2 ^ k.bits : Nat) : Int)).toNat % 2 ^ i : Nat)) : Int) = x % 2 ^ i := by
    rw [Int.natCast_emod, Int.toNat_of_nonneg (by simpa using hn)]
    simp only [Int.natCast_pow, Int.cast_ofNat_Int]
    exact Int.emod_emod_of_dvd x hd
  rw [e]
  exact hk _ (Int.emod_nonneg _ (by omega)) (by omega)
theorem wraps_i64 (n : Int) (h₀ : 0 ≤ n) (h₁ : n < 2 ^ 63) : IntKind.i64.wrap n = n := by rw [IntKind.wrap_i64]; omega
theorem and_65535 (a : Int) : bits .and .i32 a 65535 = a % 65536 := by
  have := bits_mask_any .i32 31 (by decide) wraps_i32 16 (by decide) a
  simpa using this
theorem and_one (a : Int) : bits .and .i64 a 1 = a % 2 := by
  have := bits_mask_any .i64 63 (by decide) wraps_i64 1 (by decide) a
  simpa using this

end Go.Proofs.Ytihcioghbidblaa
