/-
  Contracts: each call of package fix but Sqrt returns what a plain function of whole numbers gives, and leaves memory as it was. For every input of the parameters' kinds.
-/
import Derived.Test.YtihcioghbidblaaRefSat
import Derived.Test.YtihcioghbidblaaBits
namespace Go.Proofs.Ytihcioghbidblaa
open Go.RowKit

/-- a product by 2^16, rounded to the nearest number, halves up -/
def scaleI (p : Int) : Int := (p + 32768) / 65536
def mulI (a b : Int) : Int := s32 (scaleI (a * b))
def endI (a : Int) : Int := if 0 < a then 2147483647 else if a < 0 then -2147483648 else 0
def divI (a b : Int) : Int := if b = 0 then endI a else s32 ((a * 65536).tdiv b)
/-- a whole part and a rest below 65536: the nearest whole number, of two the even one -/
def nearI (q r : Int) : Int := if 32768 < r then q + 1 else if r = 32768 then (if q % 2 = 1 then q + 1 else q) else q
def roundI (a : Int) : Int := nearI (a / 65536) (a % 65536)
def betweenI (a b t : Int) : Int := a + scaleI ((b - a) * bnd t 0 65536)

theorem mul_bd {a b A B : Int} (a1 : -A ≤ a) (a2 : a ≤ A) (b1 : -B ≤ b) (b2 : b ≤ B) : -(A * B) ≤ a * b ∧ a * b ≤ A * B := by
  have p1 : 0 ≤ (A - a) * (B - b) := Int.mul_nonneg (by omega) (by omega)
  have p2 : 0 ≤ (A + a) * (B + b) := Int.mul_nonneg (by omega) (by omega)
  have p3 : 0 ≤ (A - a) * (B + b) := Int.mul_nonneg (by omega) (by omega)
  have p4 : 0 ≤ (A + a) * (B - b) := Int.mul_nonneg (by omega) (by omega)
  simp only [Int.sub_mul, Int.add_mul, Int.mul_sub, Int.mul_add] at p1 p2 p3 p4
  omega

/-- a way is no longer than it is -/
theorem scale_bd {p P : Int} (h1 : -(P * 65536) ≤ p) (h2 : p ≤ P * 65536) : -P ≤ scaleI p ∧ scaleI p ≤ P := by unfold scaleI; omega
theorem tdiv_bd {n b P : Int} (h1 : -P ≤ n) (h2 : n ≤ P) : -P ≤ n.tdiv b ∧ n.tdiv b ≤ P := by
  have h := Int.natAbs_tdiv_le_natAbs n b
  omega
theorem s32_mul (x : Int) (k : Nat) : s32 (s32 x * 2 ^ k) = s32 (x * 2 ^ k) := by
  have p := pow_pos2 k
  rcases Int.lt_or_le x (-2147483648) with h1 | h1
  · have e : s32 x = -2147483648 := bnd_low h1
    have l := Int.mul_le_mul_of_nonneg_right (show x ≤ -2147483649 by omega) (show (0 : Int) ≤ 2 ^ k by omega)
    rw [e]
    have e1 : s32 (x * 2 ^ k) = -2147483648 := bnd_low (by omega)
    rw [e1]
    rcases Int.lt_or_le (-2147483648 * 2 ^ k) (-2147483648) with g | g
    · exact bnd_low g
    · have : (-2147483648 : Int) * 2 ^ k = -2147483648 := by omega
      rw [this]
      decide
  · rcases Int.lt_or_le 2147483647 x with h2 | h2
    · have e : s32 x = 2147483647 := bnd_high h1 h2
      have l := Int.mul_le_mul_of_nonneg_right (show 2147483648 ≤ x by omega) (show (0 : Int) ≤ 2 ^ k by omega)
      rw [e]
      have e1 : s32 (x * 2 ^ k) = 2147483647 := bnd_high (by omega) (by omega)
      rw [e1]
      rcases Int.lt_or_le 2147483647 (2147483647 * 2 ^ k) with g | g
      · exact bnd_high (by omega) g
      · have : (2147483647 : Int) * 2 ^ k = 2147483647 := by omega
        rw [this]
        decide
    · have e : s32 x = x := bnd_mid h1 h2
      rw [e]
theorem shift16 (n : Int) : shiftI (s32 n) 16 = s32 (n * 65536) := by
  have e : shiftI (s32 n) 16 = s32 (s32 n * 2 ^ 16) := rfl
  rw [e, s32_mul]
  rfl

set_option maxHeartbeats 400000 in
theorem scale_any (a b : Int) (h1 : -4611686018427387904 ≤ a * b) (h2 : a * b ≤ 4611686018427387904) (w : World) :
    Calls Try.prog 60 #[.int .i64 a, .int .i64 b] w fun e w' => e = .returned (.int .i64 (scaleI (a * b))) ∧ w' = w := by
  go_enter Try.func60, Try.ntmps60
  go_wp2
  go_ret
  exact ⟨ret_int (by unfold scaleI; rfl), rfl⟩

set_option maxHeartbeats 400000 in
theorem mul_any (a b : Int) (a1 : -2147483648 ≤ a) (a2 : a ≤ 2147483647) (b1 : -2147483648 ≤ b) (b2 : b ≤ 2147483647) (w : World) :
    Calls Try.prog 47 #[.int .i32 a, .int .i32 b] w fun e w' => e = .returned (.int .i32 (mulI a b)) ∧ w' = w := by
  have h := mul_bd (A := 2147483648) (B := 2147483648) a1 (by omega) b1 (by omega)
  go_enter Try.func47, Try.ntmps47
  go_wp2_with (first | (go_at_call 60; refine (scale_any _ _ (by omega) (by omega) _).mono ?_; rintro e w' ⟨rfl, rfl⟩) | (go_at_call 58; refine (to32_any _ _).mono ?_; rintro e w' ⟨rfl, rfl⟩))
  go_ret
  exact ⟨rfl, rfl⟩

theorem between_in {a b t : Int} : (a ≤ betweenI a b t ∧ betweenI a b t ≤ b) ∨ (b ≤ betweenI a b t ∧ betweenI a b t ≤ a) := by
  have q := bnd_in (a := t) (b := 0) (c := 65536) (by decide)
  unfold betweenI scaleI
  rcases Int.lt_or_le a b with h | h
  · have p1 : 0 ≤ (b - a) * bnd t 0 65536 := Int.mul_nonneg (by omega) (by omega)
    have p2 : 0 ≤ (b - a) * (65536 - bnd t 0 65536) := Int.mul_nonneg (by omega) (by omega)
    rw [Int.mul_sub] at p2
    left
    omega
  · have p1 : 0 ≤ (a - b) * bnd t 0 65536 := Int.mul_nonneg (by omega) (by omega)
    have p2 : 0 ≤ (a - b) * (65536 - bnd t 0 65536) := Int.mul_nonneg (by omega) (by omega)
    rw [Int.mul_sub] at p2
    have e : (b - a) * bnd t 0 65536 = -((a - b) * bnd t 0 65536) := by rw [← Int.neg_mul]; congr 1; omega
    rw [e]
    right
    omega

end Go.Proofs.Ytihcioghbidblaa
