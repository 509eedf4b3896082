/-
  Contracts: each call of package fix but Sqrt returns what a plain function of whole numbers gives, and leaves memory as it was. For every input of the parameters' kinds.
-/
import Derived.Test.YtjngnelpkjjecaaRefSat
import Derived.Laws.BitsLemmas
namespace Go.Proofs.Ytjngnelpkjjecaa
open Go.RowKit

/-- a product by 2^16, rounded to the nearest number, halves up -/
def scaleI (p : Int) : Int := (p + 32768) / 65536
def mulI (a b : Int) : Int := s32 (scaleI (a * b))
def endI (a : Int) : Int := if 0 < a then 2147483647 else if a < 0 then -2147483648 else 0
def divI (a b : Int) : Int := if b = 0 then endI a else s32 ((a * 65536).tdiv b)
/-- a whole part and a rest below 65536: the nearest whole number, of two the even one -/
def nearI (q r : Int) : Int := if 32768 < r then q + 1 else if r = 32768 then (if q % 2 = 1 then q + 1 else q) else q
def roundI (a : Int) : Int := nearI (a / 65536) (a % 65536)
def betweenI (a b t : Int) : Int := a + scaleI ((b - a) * bnd t 0 65536)

theorem mul_bd {a b A B : Int} (a1 : -A ≤ a) (a2 : a ≤ A) (b1 : -B ≤ b) (b2 : b ≤ B) : -(A * B) ≤ a * b ∧ a * b ≤ A * B := by
  have p1 : 0 ≤ (A - a) * (B - b) := Int.mul_nonneg (by omega) (by omega)
  have p2 : 0 ≤ (A + a) * (B + b) := Int.mul_nonneg (by omega) (by omega)
  have p3 : 0 ≤ (A - a) * (B + b) := Int.mul_nonneg (by omega) (by omega)
  have p4 : 0 ≤ (A + a) * (B - b) := Int.mul_nonneg (by omega) (by omega)
  simp only [Int.sub_mul, Int.add_mul, Int.mul_sub, Int.mul_add] at p1 p2 p3 p4
  omega

theorem bits_mask_any (k : IntKind) (j : Nat) (hj : j ≤ k.bits) (hk : ∀ n : Int, 0 ≤ n → n < 2 ^ j → k.wrap n = n) (i : Nat) (hi : i ≤ j)
    (x : Int) : bits .and k x (2 ^ i - 1) = x % 2 ^ i := by
  have hpos : 0 < 2 ^ i := Nat.two_pow_pos i
  have hc : ((2 : Int) ^ i - 1) = ((2 ^ i - 1 : Nat) : Int) := by
    rw [Int.natCast_sub hpos]; simp
  have hm : 2 ^ i - 1 < 2 ^ k.bits := Nat.lt_of_lt_of_le (Nat.sub_lt hpos (by decide)) (Nat.pow_le_pow_right (by decide) (Nat.le_trans hi hj))
  have hb : (2 ^ i - 1) % 2 ^ k.bits = 2 ^ i - 1 := Nat.mod_eq_of_lt hm
  have hd : ((2 : Int) ^ i) ∣ (2 : Int) ^ k.bits := ⟨2 ^ (k.bits - i), by rw [← Int.pow_add]; congr 1; omega⟩
  have hn : 0 ≤ x % (2 : Int) ^ k.bits := Int.emod_nonneg _ (by have : (0:Int) < 2 ^ k.bits := Int.pow_pos (by decide); omega)
  have hp : (0 : Int) < 2 ^ i := Int.pow_pos (by decide)
  have hl : x % (2 : Int) ^ i < 2 ^ i := Int.emod_lt_of_pos _ hp
  have hij : (2 : Int) ^ i ≤ 2 ^ j := by
    have := Nat.pow_le_pow_right (n := 2) (by decide) hi
    exact_mod_cast this
  rw [hc]
  simp only [bits, BitVec.ofInt_natCast, BitVec.toNat_and, BitVec.toNat_ofNat, hb, BitVec.toNat_ofInt, Nat.and_two_pow_sub_one_eq_mod]
  have e : ((((x % ((2 ^ k.bits : Nat) : Int)).toNat % 2 ^ i : Nat)) : Int) = x % 2 ^ i := by
    rw [Int.natCast_emod, Int.toNat_of_nonneg (by simpa using hn)]
    simp only [Int.natCast_pow, Int.cast_ofNat_Int]
    exact Int.emod_emod_of_dvd x hd
  rw [e]
  exact hk _ (Int.emod_nonneg _ (by omega)) (by omega)
theorem wraps_i64 (n : Int) (h₀ : 0 ≤ n) (h₁ : n < 2 ^ 63) : IntKind.i64.wrap n = n := by rw [IntKind.wrap_i64]; omega
theorem and_65535 (a : Int) : bits .and .i32 a 65535 = a % 65536 := by
  have := bits_mask_any .i32 31 (by decide) wraps_i32 16 (by decide) a
  simpa using this
theorem and_one (a : Int) : bits .and .i64 a 1 = a % 2 := by
  have := bits_mask_any .i64 63 (by decide) wraps_i64 1 (by decide) a
  simpa using this
/-- a way is no longer than it is -/
theorem scale_bd {p P : Int} (h1 : -(P * 65536) ≤ p) (h2 : p ≤ P * 65536) : -P ≤ scaleI p ∧ scaleI p ≤ P := by unfold scaleI; omega
theorem tdiv_bd {n b P : Int} (h1 : -P ≤ n) (h2 : n ≤ P) : -P ≤ n.tdiv b ∧ n.tdiv b ≤ P := by
  have h := Int.natAbs_tdiv_le_natAbs n b
  omega
theorem s32_mul (x : Int) (k : Nat) : s32 (s32 x * 2 ^ k) = s32 (x * 2 ^ k) := by
  have p := pow_pos2 k
  rcases Int.lt_or_le x (-2147483648) with h1 | h1
  · have e : s32 x = -2147483648 := bnd_low h1
    have l := Int.mul_le_mul_of_nonneg_right (show x ≤ -2147483649 by omega) (show (0 : Int) ≤ 2 ^ k by omega)
    rw [e]
    have e1 : s32 (x * 2 ^ k) = -2147483648 := bnd_low (by omega)
    rw [e1]
    rcases Int.lt_or_le (-2147483648 * 2 ^ k) (-2147483648) with g | g
    · exact bnd_low g
    · have : (-2147483648 : Int) * 2 ^ k = -2147483648 := by omega
      rw [this]
      decide
  · rcases Int.lt_or_le 2147483647 x with h2 | h2
    · have e : s32 x = 2147483647 := bnd_high h1 h2
      have l := Int.mul_le_mul_of_nonneg_right (show 2147483648 ≤ x by omega) (show (0 : Int) ≤ 2 ^ k by omega)
      rw [e]
      have e1 : s32 (x * 2 ^ k) = 2147483647 := bnd_high (by omega) (by omega)
      rw [e1]
      rcases Int.lt_or_le 2147483647 (2147483647 * 2 ^ k) with g | g
      · exact bnd_high (by omega) g
      · have : (2147483647 : Int) * 2 ^ k = 2147483647 := by omega
        rw [this]
        decide
    · have e : s32 x = x := bnd_mid h1 h2
      rw [e]
theorem shift16 (n : Int) : shiftI (s32 n) 16 = s32 (n * 65536) := by
  have e : shiftI (s32 n) 16 = s32 (s32 n * 2 ^ 16) := rfl
  rw [e, s32_mul]
  rfl

set_option maxHeartbeats 400000 in
theorem scale_any (a b : Int) (h1 : -4611686018427387904 ≤ a * b) (h2 : a * b ≤ 4611686018427387904) (w : World) :
    Calls Try.prog 24 #[.int .i64 a, .int .i64 b] w fun e w' => e = .returned (.int .i64 (scaleI (a * b))) ∧ w' = w := by
  go_enter Try.func24, Try.ntmps24
  go_wp2
  go_ret
  exact ⟨ret_int (by unfold scaleI; rfl), rfl⟩

set_option maxHeartbeats 400000 in
theorem mul_any (a b : Int) (a1 : -2147483648 ≤ a) (a2 : a ≤ 2147483647) (b1 : -2147483648 ≤ b) (b2 : b ≤ 2147483647) (w : World) :
    Calls Try.prog 12 #[.int .i32 a, .int .i32 b] w fun e w' => e = .returned (.int .i32 (mulI a b)) ∧ w' = w := by
  have h := mul_bd (A := 2147483648) (B := 2147483648) a1 (by omega) b1 (by omega)
  go_enter Try.func12, Try.ntmps12
  go_wp2_with (first | (go_at_call 24; refine (scale_any _ _ (by omega) (by omega) _).mono ?_; rintro e w' ⟨rfl, rfl⟩) | (go_at_call 23; refine (to32_any _ _).mono ?_; rintro e w' ⟨rfl, rfl⟩))
  go_ret
  exact ⟨rfl, rfl⟩

set_option maxHeartbeats 400000 in
theorem endOf_any (a : Int) (w : World) :
    Calls Try.prog 26 #[.int .i32 a] w fun e w' => e = .returned (.int .i32 (endI a)) ∧ w' = w := by
  rcases Int.lt_or_le 0 a with h | h
  · go_enter Try.func26, Try.ntmps26
    go_wp2
    go_ret
    exact ⟨ret_int (by unfold endI; rw [if_pos h]), rfl⟩
  · rcases Int.lt_or_le a 0 with h' | h'
    · go_enter Try.func26, Try.ntmps26
      go_wp2
      go_ret
      exact ⟨ret_int (by unfold endI; rw [if_neg (by omega), if_pos h']), rfl⟩
    · go_enter Try.func26, Try.ntmps26
      go_wp2
      go_ret
      exact ⟨ret_int (by unfold endI; rw [if_neg (by omega), if_neg (by omega)]), rfl⟩

set_option maxHeartbeats 400000 in
theorem div_any (a b : Int) (a1 : -2147483648 ≤ a) (a2 : a ≤ 2147483647) (b1 : -2147483648 ≤ b) (b2 : b ≤ 2147483647) (w : World) :
    Calls Try.prog 14 #[.int .i32 a, .int .i32 b] w fun e w' => e = .returned (.int .i32 (divI a b)) ∧ w' = w := by
  by_cases h : b = 0
  · subst h
    go_enter Try.func14, Try.ntmps14
    go_wp2_with (go_at_call 26; refine (endOf_any _ _).mono ?_; rintro e w' ⟨rfl, rfl⟩)
    go_ret
    exact ⟨rfl, rfl⟩
  · have t : (b == 0) = false := by simpa using h
    go_enter Try.func14, Try.ntmps14
    go_wp2_with (go_at_call 23; refine (to32_any _ _).mono ?_; rintro e w' ⟨rfl, rfl⟩)
    go_ret
    exact ⟨ret_int (by
      unfold divI
      have := tdiv_bd (n := a * 65536) (b := b) (P := 140737488355328) (by omega) (by omega)
      rw [if_neg h, IntWalk.wrap64_in _ (by omega)]), rfl⟩

set_option maxHeartbeats 400000 in
theorem round_any (a : Int) (a1 : -2147483648 ≤ a) (a2 : a ≤ 2147483647) (w : World) :
    Calls Try.prog 16 #[.int .i32 a] w fun e w' => e = .returned (.int .i64 (roundI a)) ∧ w' = w := by
  have m := and_65535 a
  have m1 := and_one (a / 65536)
  rcases Int.lt_or_le 32768 (a % 65536) with h | h
  · have e : roundI a = a / 65536 + 1 := by unfold roundI nearI; rw [if_pos h]
    rw [e]
    clear e
    go_enter Try.func16, Try.ntmps16
    go_wp2
    go_ret
    exact ⟨rfl, rfl⟩
  · rcases Int.lt_or_le (a % 65536) 32768 with h' | h'
    · have e : roundI a = a / 65536 := by unfold roundI nearI; rw [if_neg (by omega), if_neg (by omega)]
      rw [e]
      clear e
      have t : (a % 65536 == 32768) = false := beq_eq_false_iff_ne.2 (by omega)
      go_enter Try.func16, Try.ntmps16
      go_wp2
      go_ret
      exact ⟨rfl, rfl⟩
    · have t : a % 65536 = 32768 := by omega
      rcases Int.emod_two_eq (a / 65536) with g | g
      · have e : roundI a = a / 65536 := by unfold roundI nearI; rw [if_neg (by omega), if_pos t, if_neg (by omega)]
        rw [e]
        clear e
        go_enter Try.func16, Try.ntmps16
        go_wp2
        go_ret
        exact ⟨rfl, rfl⟩
      · have e : roundI a = a / 65536 + 1 := by unfold roundI nearI; rw [if_neg (by omega), if_pos t, if_pos g]
        rw [e]
        clear e
        go_enter Try.func16, Try.ntmps16
        go_wp2
        go_ret
        exact ⟨rfl, rfl⟩

set_option maxHeartbeats 400000 in
theorem of_any (n : Int) (w : World) :
    Calls Try.prog 18 #[.int .i64 n] w fun e w' => e = .returned (.int .i32 (s32 (n * 65536))) ∧ w' = w := by
  have q := bnd_in (a := n) (b := -2147483648) (c := 2147483647) (by decide)
  go_enter Try.func18, Try.ntmps18
  go_wp2_with (first | (go_at_call 23; refine (to32_any _ _).mono ?_; rintro e w' ⟨rfl, rfl⟩) | (go_at_call 27; refine (shift_any _ _ q.1 q.2 (by omega) (by omega) _).mono ?_; rintro e w' ⟨rfl, rfl⟩))
  go_ret
  exact ⟨ret_int (shift16 n), rfl⟩

theorem between_in {a b t : Int} : (a ≤ betweenI a b t ∧ betweenI a b t ≤ b) ∨ (b ≤ betweenI a b t ∧ betweenI a b t ≤ a) := by
  have q := bnd_in (a := t) (b := 0) (c := 65536) (by decide)
  unfold betweenI scaleI
  rcases Int.lt_or_le a b with h | h
  · have p1 : 0 ≤ (b - a) * bnd t 0 65536 := Int.mul_nonneg (by omega) (by omega)
    have p2 : 0 ≤ (b - a) * (65536 - bnd t 0 65536) := Int.mul_nonneg (by omega) (by omega)
    rw [Int.mul_sub] at p2
    left
    omega
  · have p1 : 0 ≤ (a - b) * bnd t 0 65536 := Int.mul_nonneg (by omega) (by omega)
    have p2 : 0 ≤ (a - b) * (65536 - bnd t 0 65536) := Int.mul_nonneg (by omega) (by omega)
    rw [Int.mul_sub] at p2
    have e : (b - a) * bnd t 0 65536 = -((a - b) * bnd t 0 65536) := by rw [← Int.neg_mul]; congr 1; omega
    rw [e]
    right
    omega

set_option maxHeartbeats 400000 in
theorem between_any (a b t : Int) (a1 : -2147483648 ≤ a) (a2 : a ≤ 2147483647) (b1 : -2147483648 ≤ b) (b2 : b ≤ 2147483647) (w : World) :
    Calls Try.prog 19 #[.int .i32 a, .int .i32 b, .int .i32 t] w fun e w' => e = .returned (.int .i32 (betweenI a b t)) ∧ w' = w := by
  have q := bnd_in (a := t) (b := 0) (c := 65536) (by decide)
  have h := mul_bd (a := b - a) (b := bnd t 0 65536) (A := 4294967296) (B := 65536) (by omega) (by omega) (by omega) (by omega)
  have z := between_in (a := a) (b := b) (t := t)
  unfold betweenI at z
  have e := clampI_eq_le (a := t) (b := 0) (c := 65536) (by decide)
  go_enter Try.func19, Try.ntmps19
  go_wp2_with (first | (go_at_call 28; refine (clamp_any _ _ _ _).mono ?_; rintro e w' ⟨rfl, rfl⟩) | (go_at_call 24; refine (scale_any _ _ (by omega) (by omega) _).mono ?_; rintro e w' ⟨rfl, rfl⟩))
  go_ret
  exact ⟨rfl, rfl⟩

end Go.Proofs.Ytjngnelpkjjecaa
