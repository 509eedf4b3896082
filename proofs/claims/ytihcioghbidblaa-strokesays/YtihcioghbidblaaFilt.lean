/-
  Contracts: each call of package filt that lays no memory (Low, Rate, Dead, Trip) returns what a plain function of whole numbers gives, and leaves memory as it was. For every input of the parameters' kinds.
-/
import Derived.Test.YtihcioghbidblaaSat
namespace Go.Proofs.Ytihcioghbidblaa
open Go.RowKit

/-- a step of a filter: the way by a power of two, rounded toward 0, but not none of a way that there is -/
def stepI (d p : Int) : Int := if 0 < d then (if d < p then 1 else d / p) else if d < 0 then (if -d < p then -1 else -(-d / p)) else 0

theorem step_pos1 {d p : Int} (h : 0 < d) (h' : d < p) : stepI d p = 1 := by unfold stepI; rw [if_pos h, if_pos h']
theorem step_pos2 {d p : Int} (h : 0 < d) (h' : p ≤ d) : stepI d p = d / p := by unfold stepI; rw [if_pos h, if_neg (by omega)]
theorem step_neg1 {d p : Int} (h : d < 0) (h' : -d < p) : stepI d p = -1 := by unfold stepI; rw [if_neg (by omega), if_pos h, if_pos h']
theorem step_neg2 {d p : Int} (h : d < 0) (h' : p ≤ -d) : stepI d p = -(-d / p) := by unfold stepI; rw [if_neg (by omega), if_pos h, if_neg (by omega)]
theorem step_zero {p : Int} : stepI 0 p = 0 := rfl
theorem step_odd (d p : Int) : stepI (-d) p = - stepI d p := by
  unfold stepI
  rcases Int.lt_trichotomy d 0 with h | h | h
  · rw [if_pos (show 0 < -d by omega), if_neg (show ¬ 0 < d by omega), if_pos h]
    split <;> omega
  · subst h; rfl
  · rw [if_neg (show ¬ 0 < -d by omega), if_pos (show -d < 0 by omega), if_pos h, Int.neg_neg]
    split <;> omega
/-- a step up the way: one at least, the whole way at most -/
theorem step_up {d p : Int} (hp : 1 ≤ p) (h : 0 < d) : 1 ≤ stepI d p ∧ stepI d p ≤ d := by
  rcases Int.lt_or_le d p with h1 | h1
  · rw [step_pos1 h h1]; omega
  · rw [step_pos2 h h1]
    exact ⟨(Int.le_ediv_iff_mul_le (by omega)).2 (by omega), Int.ediv_le_self _ (by omega)⟩
/-- of two ways up the longer one's step is no shorter, and by no more than it is longer -/
theorem step_up2 {d d' p : Int} (hp : 1 ≤ p) (h : 0 < d) (hd : d ≤ d') : stepI d p ≤ stepI d' p ∧ stepI d' p - stepI d p ≤ d' - d := by
  have key : 1 ≤ d → d / p ≤ d' / p ∧ d' / p - d / p ≤ d' - d := by
    intro _
    refine ⟨Int.ediv_le_ediv (by omega) hd, ?_⟩
    have h1 : d' ≤ d + (d' - d) * p := by
      have := Int.mul_le_mul_of_nonneg_left hp (show 0 ≤ d' - d by omega)
      omega
    have h2 := Int.ediv_le_ediv (show 0 < p by omega) h1
    rw [Int.add_mul_ediv_right _ _ (by omega)] at h2
    omega
  obtain ⟨k1, k2⟩ := key (by omega)
  rcases Int.lt_or_le d p with h1 | h1
  · rw [step_pos1 h h1]
    have z : d / p = 0 := Int.ediv_eq_zero_of_lt (by omega) h1
    rcases Int.lt_or_le d' p with h2 | h2
    · rw [step_pos1 (by omega) h2]; omega
    · rw [step_pos2 (by omega) h2]
      have := (Int.le_ediv_iff_mul_le (c := p) (by omega)).2 (show 1 * p ≤ d' by omega)
      omega
  · rw [step_pos2 h h1, step_pos2 (by omega) (by omega)]
    exact ⟨k1, k2⟩
/-- the same of whatever two ways -/
theorem step_two {d d' p : Int} (hp : 1 ≤ p) (hd : d ≤ d') : stepI d p ≤ stepI d' p ∧ stepI d' p - stepI d p ≤ d' - d := by
  rcases Int.lt_trichotomy d 0 with h | h | h
  · have o := step_odd d p
    have u := step_up (d := -d) hp (by omega)
    rcases Int.lt_trichotomy d' 0 with h' | h' | h'
    · have o' := step_odd d' p
      have := step_up2 (d := -d') (d' := -d) hp (by omega) (by omega)
      omega
    · subst h'
      rw [step_zero]
      omega
    · have u' := step_up (d := d') hp (by omega)
      omega
  · subst h
    rw [step_zero]
    rcases Int.lt_or_le 0 d' with h' | h'
    · have u' := step_up (d := d') hp (by omega)
      omega
    · have : d' = 0 := by omega
      subst this
      rw [step_zero]; omega
  · exact step_up2 hp h hd

theorem pow2_pos (k : Nat) : (1 : Int) ≤ 2 ^ k := Int.pow_pos (by decide)
theorem pow2_le30 {k : Nat} (h : k ≤ 30) : (2 : Int) ^ k ≤ 1073741824 := by
  have h1 : (2 : Nat) ^ k ≤ 2 ^ 30 := Nat.pow_le_pow_right (by decide) h
  have h2 : ((2 ^ k : Nat) : Int) ≤ ((2 ^ 30 : Nat) : Int) := Int.ofNat_le.2 h1
  simpa using h2

theorem step_t {d p : Int} (hp : 1 ≤ p) : stepI d p = if d.tdiv p = 0 then (if 0 < d then 1 else if d < 0 then -1 else 0) else d.tdiv p := by
  rcases Int.lt_trichotomy d 0 with h | h | h
  · have e : d.tdiv p = -(-d / p) := by
      rw [← Int.tdiv_eq_ediv_of_nonneg (show 0 ≤ -d by omega), Int.neg_tdiv, Int.neg_neg]
    rw [e]
    rcases Int.lt_or_le (-d) p with h1 | h1
    · rw [step_neg1 h h1, Int.ediv_eq_zero_of_lt (by omega) h1, if_pos (by omega), if_neg (by omega), if_pos h]
    · have k := (Int.le_ediv_iff_mul_le (c := p) (by omega)).2 (show 1 * p ≤ -d by omega)
      rw [step_neg2 h h1, if_neg (by omega)]
  · subst h
    rw [step_zero, Int.zero_tdiv, if_pos rfl]
    rfl
  · rw [Int.tdiv_eq_ediv_of_nonneg (by omega)]
    rcases Int.lt_or_le d p with h1 | h1
    · rw [step_pos1 h h1, Int.ediv_eq_zero_of_lt (by omega) h1, if_pos rfl, if_pos h]
    · have k := (Int.le_ediv_iff_mul_le (c := p) (by omega)).2 (show 1 * p ≤ d by omega)
      rw [step_pos2 h h1, if_neg (by omega)]

/-- a step lies between none and the whole way -/
theorem step_in {d p : Int} (hp : 1 ≤ p) : d < 0 ∧ d ≤ stepI d p ∧ stepI d p ≤ -1 ∨ d = 0 ∧ stepI d p = 0 ∨ 0 < d ∧ 1 ≤ stepI d p ∧ stepI d p ≤ d := by
  rcases Int.lt_trichotomy d 0 with h | h | h
  · have := step_up (d := -d) hp (by omega)
    rw [step_odd] at this
    exact Or.inl ⟨h, by omega, by omega⟩
  · subst h; exact Or.inr (Or.inl ⟨rfl, rfl⟩)
  · have := step_up (d := d) hp h
    exact Or.inr (Or.inr ⟨h, this⟩)

set_option maxHeartbeats 800000 in
theorem fstep_any (d : Int) (n : Nat) (d1 : -4294967296 ≤ d) (d2 : d ≤ 4294967296) (hn : n ≤ 30) (w : World) :
    Calls Try.prog 59 #[.int .i64 d, .int .i64 n] w fun e w' => e = .returned (.int .i64 (stepI d (2 ^ n))) ∧ w' = w := by
  have p1 := pow2_pos n
  have p2 := pow2_le30 hn
  rw [step_t p1]
  go_enter Try.func59, Try.ntmps59
  go_wp2
  all_goals (go_ret; exact ⟨ret_int (by simp_all; try omega), rfl⟩)

/-- where a filter goes from y, fed x -/
def lowI (y x : Int) (n : Nat) : Int := y + stepI (x - y) (2 ^ n)

set_option maxHeartbeats 800000 in
theorem low_any (y x : Int) (n : Nat) (y1 : -2147483648 ≤ y) (y2 : y ≤ 2147483647) (x1 : -2147483648 ≤ x) (x2 : x ≤ 2147483647) (hn : n ≤ 30) (w : World) :
    Calls Try.prog 44 #[.int .i32 y, .int .i32 x, .int .i64 n] w fun e w' => e = .returned (.tuple #[.int .i32 (lowI y x n), .int .i64 0]) ∧ w' = w := by
  have p := step_in (d := x - y) (pow2_pos n)
  have b : -2147483648 ≤ y + stepI (x - y) (2 ^ n) ∧ y + stepI (x - y) (2 ^ n) ≤ 2147483647 := by omega
  have c : -4294967296 ≤ stepI (x - y) (2 ^ n) ∧ stepI (x - y) (2 ^ n) ≤ 4294967296 := by omega
  unfold lowI
  obtain ⟨b1, b2⟩ := b
  obtain ⟨c1, c2⟩ := c
  clear p
  go_enter Try.func44, Try.ntmps44
  go_wp2_with (go_at_call 59; refine (fstep_any _ _ (by omega) (by omega) hn _).mono ?_; rintro e w' ⟨rfl, rfl⟩)
  go_ret2
  exact ⟨rfl, rfl⟩

set_option maxHeartbeats 800000 in
theorem low_bad (y x n : Int) (hn : n < 0 ∨ 30 < n) (w : World) :
    Calls Try.prog 44 #[.int .i32 y, .int .i32 x, .int .i64 n] w fun e w' => e = .returned (.tuple #[.int .i32 0, .int .i64 1]) ∧ w' = w := by
  rcases hn with h | h
  · go_enter Try.func44, Try.ntmps44
    go_wp2
    go_ret2
    exact ⟨rfl, rfl⟩
  · go_enter Try.func44, Try.ntmps44
    have h' : ¬ n < 0 := by omega
    go_wp2
    go_ret2
    exact ⟨rfl, rfl⟩

/-- without its sign, saturated -/
def wide (m : Int) : Int := s32 (absI m)
theorem wide_in {m : Int} (m1 : -2147483648 ≤ m) (m2 : m ≤ 2147483647) : 0 ≤ wide m ∧ wide m ≤ 2147483647 ∧ (m = -2147483648 ∧ wide m = 2147483647 ∨ -2147483648 < m ∧ wide m = absI m) := by
  unfold wide s32
  rcases Int.lt_or_le m 0 with h | h
  · have e : absI m = -m := by unfold absI; rw [if_pos h]
    rw [e]
    rcases Int.lt_or_le (-2147483648) m with h1 | h1
    · rw [bnd_mid (by omega) (by omega)]; omega
    · rw [bnd_high (by omega) (by omega)]; omega
  · have e : absI m = m := by unfold absI; rw [if_neg (by omega)]
    rw [e, bnd_mid (by omega) (by omega)]; omega
def rateI (y x m : Int) : Int := bnd x (s32 (y - wide m)) (s32 (y + wide m))
def deadI (x m : Int) : Int := if wide m < x then x - wide m else if x < -wide m then x + wide m else 0

theorem s32_in (n : Int) : -2147483648 ≤ s32 n ∧ s32 n ≤ 2147483647 ∧ (n < -2147483648 ∧ s32 n = -2147483648 ∨ 2147483647 < n ∧ s32 n = 2147483647 ∨ -2147483648 ≤ n ∧ n ≤ 2147483647 ∧ s32 n = n) := by
  unfold s32
  rcases Int.lt_or_le n (-2147483648) with h1 | h1
  · rw [bnd_low h1]; omega
  · rcases Int.lt_or_le 2147483647 n with h2 | h2
    · rw [bnd_high h1 h2]; omega
    · rw [bnd_mid h1 h2]; omega

theorem rate_clamp {y x m : Int} (m1 : -2147483648 ≤ m) (m2 : m ≤ 2147483647) : clampI x (s32 (y - wide m)) (s32 (y + wide m)) = rateI y x m := by
  have a := wide_in m1 m2
  have b := s32_in (y - wide m)
  have c := s32_in (y + wide m)
  unfold clampI rateI
  rw [if_neg (by omega)]

set_option maxHeartbeats 800000 in
theorem rate_any (y x m : Int) (y1 : -2147483648 ≤ y) (y2 : y ≤ 2147483647) (m1 : -2147483648 ≤ m) (m2 : m ≤ 2147483647) (w : World) :
    Calls Try.prog 41 #[.int .i32 y, .int .i32 x, .int .i32 m] w fun e w' => e = .returned (.int .i32 (rateI y x m)) ∧ w' = w := by
  have a := wide_in m1 m2
  have c := (abs_any m m1 m2 w)
  change Calls Try.prog 56 #[.int .i32 m] w fun e w' => e = .returned (.int .i32 (wide m)) ∧ w' = w at c
  rw [← rate_clamp m1 m2]
  obtain ⟨a1, a2, _⟩ := a
  generalize wide m = u at a1 a2 c ⊢
  go_enter Try.func41, Try.ntmps41
  go_wp2_with (first | (go_at_call 56; refine c.mono ?_; rintro e w' ⟨rfl, rfl⟩) | (go_at_call 43; refine (sub_any _ _ (by omega) (by omega) (by omega) (by omega) _).mono ?_; rintro e w' ⟨rfl, rfl⟩) | (go_at_call 52; refine (add_any _ _ (by omega) (by omega) (by omega) (by omega) _).mono ?_; rintro e w' ⟨rfl, rfl⟩) | (go_at_call 51; refine (clamp_any _ _ _ _).mono ?_; rintro e w' ⟨rfl, rfl⟩))
  go_ret
  exact ⟨rfl, rfl⟩

/-- on, or not, behind x: of two bounds the greater one is the upper one -/
def tripB (on : Bool) (x a b : Int) : Bool := if on then decide ((if a < b then a else b) ≤ x) else decide ((if a < b then b else a) < x)

end Go.Proofs.Ytihcioghbidblaa
