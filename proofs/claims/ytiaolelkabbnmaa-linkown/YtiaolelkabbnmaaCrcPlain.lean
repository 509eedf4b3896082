/-
  The sum's plain mathematics: one doubling is linear over bits and loses nothing; a bit turned over in a text turns the sum over by a power of the divisor's root; these powers differ within 32760; their bits are odd in number.
-/
namespace Go.Proofs.Ytiaolelkabbnmaa

def st (c : Nat) : Nat := (2 * c) % 65536 ^^^ (if c.testBit 15 then 4129 else 0)

theorem st_lt (c : Nat) : st c < 65536 := by
  refine Nat.xor_lt_two_pow (n := 16) (Nat.mod_lt _ (by decide)) ?_
  split <;> decide

theorem st_xor (a b : Nat) : st (a ^^^ b) = st a ^^^ st b := by
  have h2 : (2 * (a ^^^ b)) % 65536 = (2 * a) % 65536 ^^^ (2 * b) % 65536 := by
    have := Nat.xor_mod_two_pow (a := 2 * a) (b := 2 * b) (n := 16)
    have h := Nat.shiftLeft_xor_distrib (a := a) (b := b) (i := 1)
    simp only [Nat.shiftLeft_eq, Nat.pow_one] at h
    rw [show (65536 : Nat) = 2 ^ 16 from rfl, ← this, Nat.mul_comm 2, h, Nat.mul_comm 2, Nat.mul_comm 2]
  have h3 : (if (a ^^^ b).testBit 15 then 4129 else 0) = (if a.testBit 15 then 4129 else 0) ^^^ (if b.testBit 15 then 4129 else 0) := by
    rw [Nat.testBit_xor]
    cases a.testBit 15 <;> cases b.testBit 15 <;> rfl
  unfold st
  rw [h2, h3]
  ac_rfl

theorem st_zero : st 0 = 0 := by decide

theorem testBit_two_mul (c i : Nat) : (2 * c).testBit i = (decide (0 < i) && c.testBit (i - 1)) := by
  cases i with
  | zero => simp
  | succ i => simp [Nat.testBit_succ]

theorem st_bit (c i : Nat) (hi : i < 16) : (st c).testBit i = ((decide (0 < i) && c.testBit (i - 1)) ^^ (c.testBit 15 && (4129 : Nat).testBit i)) := by
  unfold st
  rw [Nat.testBit_xor, show (65536 : Nat) = 2 ^ 16 from rfl, Nat.testBit_mod_two_pow, testBit_two_mul]
  cases c.testBit 15 <;> simp [hi]

theorem st_null (c : Nat) (hc : c < 65536) (h : st c = 0) : c = 0 := by
  have h0 := st_bit c 0 (by decide)
  rw [h] at h0
  have h15 : c.testBit 15 = false := by
    cases hb : c.testBit 15
    · rfl
    · rw [hb] at h0; simp at h0
  unfold st at h
  rw [h15] at h
  have h' : (2 * c) % 65536 = 0 := by simpa using h
  have hlt : c < 32768 := by
    rcases Nat.lt_or_ge c 32768 with g | g
    · exact g
    · exfalso
      have : c.testBit 15 = true := by
        rw [Nat.testBit_eq_decide_div_mod_eq]
        have : c / 2 ^ 15 = 1 := by omega
        rw [this]; rfl
      rw [this] at h15; cases h15
  omega

def stN : Nat → Nat → Nat
  | 0, c => c
  | n + 1, c => stN n (st c)

theorem stN_add (m n c : Nat) : stN (m + n) c = stN m (stN n c) := by
  induction n generalizing c with
  | zero => rfl
  | succ n ih => exact ih (st c)

theorem stN_lt (n c : Nat) (hc : c < 65536) : stN n c < 65536 := by
  induction n generalizing c with
  | zero => exact hc
  | succ n ih => exact ih _ (st_lt c)

theorem stN_xor (n a b : Nat) : stN n (a ^^^ b) = stN n a ^^^ stN n b := by
  induction n generalizing a b with
  | zero => rfl
  | succ n ih =>
    show stN n (st (a ^^^ b)) = _
    rw [st_xor, ih]; rfl

theorem stN_zero (n : Nat) : stN n 0 = 0 := by
  induction n with
  | zero => rfl
  | succ n ih => show stN n (st 0) = 0; rw [st_zero, ih]

theorem stN_null (n c : Nat) (hc : c < 65536) (h : stN n c = 0) : c = 0 := by
  induction n generalizing c with
  | zero => exact h
  | succ n ih => exact st_null c hc (ih _ (st_lt c) h)

/-- the sum of the first n of the bytes f, from 65535 on -/
def sumN (f : Nat → Nat) : Nat → Nat
  | 0 => 65535
  | k + 1 => stN 8 (sumN f k ^^^ (f k * 256))

theorem sumN_lt (f : Nat → Nat) (n : Nat) : sumN f n < 65536 := by
  cases n with
  | zero => show 65535 < 65536; decide
  | succ n => exact st_lt _

theorem sumN_congr (f g : Nat → Nat) (n : Nat) (h : ∀ k, k < n → f k = g k) : sumN f n = sumN g n := by
  induction n with
  | zero => rfl
  | succ n ih =>
    show stN 8 _ = stN 8 _
    rw [ih fun k hk => h k (by omega), h n (by omega)]

theorem stN8_small (q : Nat) (hq : q < 256) : stN 8 q = q * 256 := by
  have key : ∀ q : Fin 256, stN 8 q.val = q.val * 256 := by decide +kernel
  exact key ⟨q, hq⟩

theorem mul256_xor (p q : Nat) (hq : q < 256) : p * 256 ^^^ q = p * 256 + q := by
  have h := Nat.two_pow_add_eq_or_of_lt (i := 8) hq p
  rw [show p * 256 = 2 ^ 8 * p by omega, h]
  refine Nat.eq_of_testBit_eq fun i => ?_
  rw [Nat.testBit_xor, Nat.testBit_or, Nat.testBit_two_pow_mul]
  rcases Nat.lt_or_ge i 8 with g | g
  · have : ¬ 8 ≤ i := by omega
    simp [this]
  · have : q.testBit i = false := Nat.testBit_lt_two_pow (Nat.lt_of_lt_of_le hq (Nat.pow_le_pow_right (n := 2) (by decide) g))
    simp [this]

theorem sumN_two (f : Nat → Nat) (hf : ∀ k, f k < 256) (n : Nat) : sumN f (n + 2) = stN 16 (sumN f n ^^^ (f n * 256 + f (n + 1))) := by
  show stN 8 (stN 8 (sumN f n ^^^ (f n * 256)) ^^^ (f (n + 1) * 256)) = _
  rw [← stN8_small _ (hf (n + 1)), ← stN_xor, ← stN_add, Nat.xor_assoc, mul256_xor _ _ (hf (n + 1))]

theorem xor_eq_zero' {a b : Nat} (h : a ^^^ b = 0) : a = b := by
  have : a ^^^ (a ^^^ b) = a ^^^ 0 := by rw [h]
  rw [← Nat.xor_assoc, Nat.xor_self, Nat.zero_xor, Nat.xor_zero] at this
  exact this.symm

theorem sumN_right (f : Nat → Nat) (hf : ∀ k, f k < 256) (n : Nat) : sumN f (n + 2) = 0 ↔ sumN f n = f n * 256 + f (n + 1) := by
  have h0 := hf n
  have h1 := hf (n + 1)
  rw [sumN_two f hf n]
  constructor
  · intro h
    exact xor_eq_zero' (stN_null 16 _ (Nat.xor_lt_two_pow (n := 16) (sumN_lt f n) (by omega)) h)
  · intro h
    rw [h, Nat.xor_self, stN_zero]

/-- a bit turned over -/
def flipF (f : Nat → Nat) (j : Nat) : Nat → Nat := fun i => if i = j / 8 then f i ^^^ (128 >>> (j % 8)) else f i

theorem flipF_lt (f : Nat → Nat) (hf : ∀ k, f k < 256) (j : Nat) : ∀ k, flipF f j k < 256 := by
  intro k
  unfold flipF
  split
  · refine Nat.xor_lt_two_pow (n := 8) (hf k) ?_
    have : 128 >>> (j % 8) ≤ 128 := by rw [Nat.shiftRight_eq_div_pow]; exact Nat.div_le_self _ _
    omega
  · exact hf k

theorem xor_mul256 (a b : Nat) : (a ^^^ b) * 256 = a * 256 ^^^ b * 256 := by
  have h := Nat.shiftLeft_xor_distrib (a := a) (b := b) (i := 8)
  simpa [Nat.shiftLeft_eq] using h

theorem bit_of_byte (r : Nat) (hr : r < 8) : stN 8 ((128 >>> r) * 256) = stN (8 - r) 32768 := by
  have key : ∀ r : Fin 8, stN 8 ((128 >>> r.val) * 256) = stN (8 - r.val) 32768 := by decide
  exact key ⟨r, hr⟩

/-- what a bit, turned over, does to the sum -/
def T (N j : Nat) : Nat := stN (N - j) 32768

theorem T_lt (N j : Nat) : T N j < 65536 := stN_lt _ _ (by decide)

theorem sumN_flip (f : Nat → Nat) (n j : Nat) (hj : j < 8 * n) : sumN (flipF f j) n = sumN f n ^^^ T (8 * n) j := by
  induction n with
  | zero => omega
  | succ n ih =>
    rcases Nat.lt_or_ge j (8 * n) with g | g
    · have hne : flipF f j n = f n := by unfold flipF; rw [if_neg (by omega)]
      show stN 8 (sumN (flipF f j) n ^^^ (flipF f j n * 256)) = stN 8 (sumN f n ^^^ (f n * 256)) ^^^ stN (8 * (n + 1) - j) 32768
      rw [ih g, hne, show 8 * (n + 1) - j = 8 + (8 * n - j) by omega, stN_add, ← stN_xor]
      congr 1
      show (sumN f n ^^^ T (8 * n) j) ^^^ (f n * 256) = (sumN f n ^^^ (f n * 256)) ^^^ T (8 * n) j
      ac_rfl
    · have he : flipF f j n = f n ^^^ (128 >>> (j % 8)) := by unfold flipF; rw [if_pos (by omega)]
      have hc : sumN (flipF f j) n = sumN f n := sumN_congr _ _ _ fun k hk => by unfold flipF; rw [if_neg (by omega)]
      show stN 8 (sumN (flipF f j) n ^^^ (flipF f j n * 256)) = stN 8 (sumN f n ^^^ (f n * 256)) ^^^ stN (8 * (n + 1) - j) 32768
      rw [hc, he, xor_mul256, ← Nat.xor_assoc, stN_xor, bit_of_byte _ (Nat.mod_lt _ (by decide)), show 8 * (n + 1) - j = 8 - j % 8 by omega]

/-- linear: of three -/
theorem sumN_three (f g h d : Nat → Nat) (n : Nat) (hd : ∀ k, k < n → d k = f k ^^^ g k ^^^ h k) : sumN d n = sumN f n ^^^ sumN g n ^^^ sumN h n := by
  induction n with
  | zero => show 65535 = 65535 ^^^ 65535 ^^^ 65535; decide
  | succ n ih =>
    show stN 8 _ = stN 8 _ ^^^ stN 8 _ ^^^ stN 8 _
    rw [ih fun k hk => hd k (by omega), hd n (by omega), ← stN_xor, ← stN_xor, xor_mul256, xor_mul256]
    congr 1
    ac_rfl

/-! bursts -/

theorem stN_one (i : Nat) (hi : i < 16) : stN i (1 <<< (15 - i)) = 32768 := by
  have key : ∀ i : Fin 16, stN i.val (1 <<< (15 - i.val)) = 32768 := by decide
  exact key ⟨i, hi⟩

theorem T_burst (N k i : Nat) (hi : i < 16) (hk : k + i ≤ N) : T N (k + i) = stN (N - k) (1 <<< (15 - i)) := by
  show stN (N - (k + i)) 32768 = _
  rw [← stN_one i hi, ← stN_add]
  congr 1
  omega

/-- the bits of 'by' up to the i-th, the first one at the top -/
def rev (b : Nat) : Nat → Nat
  | 0 => 0
  | i + 1 => if b.testBit i then rev b i ^^^ 1 <<< (15 - i) else rev b i

theorem rev_bit (b i : Nat) (hi : i ≤ 16) (j : Nat) (hj : j < 16) : (rev b i).testBit (15 - j) = (decide (j < i) && b.testBit j) := by
  induction i with
  | zero => simp [rev]
  | succ i ih =>
    have h1 : (1 <<< (15 - i)).testBit (15 - j) = decide (j = i) := by
      rw [Nat.one_shiftLeft, Nat.testBit_two_pow]
      simp only [decide_eq_decide]
      omega
    have ih := ih (by omega)
    simp only [rev]
    split
    · rename_i hb
      rw [Nat.testBit_xor, ih, h1]
      by_cases e : j = i
      · subst e; simp [hb]
      · have : (j < i + 1) = (j < i) := by rw [eq_iff_iff]; omega
        simp [e, this]
    · rename_i hb
      rw [ih]
      by_cases e : j = i
      · subst e; simp at hb; simp [hb]
      · have : (j < i + 1) = (j < i) := by rw [eq_iff_iff]; omega
        simp [this]

theorem rev_lt (b i : Nat) : rev b i < 65536 := by
  induction i with
  | zero => show 0 < _; decide
  | succ i ih =>
    simp only [rev]
    split
    · refine Nat.xor_lt_two_pow (n := 16) ih ?_
      rw [Nat.one_shiftLeft]
      exact Nat.pow_lt_pow_right (by decide) (by omega)
    · exact ih

theorem rev_null (b : Nat) (hb : b < 65536) (h : rev b 16 = 0) : b = 0 := by
  refine Nat.eq_of_testBit_eq fun j => ?_
  rw [Nat.zero_testBit]
  rcases Nat.lt_or_ge j 16 with g | g
  · have := rev_bit b 16 (by decide) j g
    rw [h] at this
    simpa [g] using this.symm
  · exact Nat.testBit_lt_two_pow (Nat.lt_of_lt_of_le hb (Nat.pow_le_pow_right (n := 2) (by decide) g))

/-! two bits -/

/-- k steps from c on: the last one, if none of them is 32768 -/
def goOn : Nat → Nat → Option Nat
  | 0, c => some c
  | k + 1, c => match st c with
    | 0 => none
    | n + 1 => if n + 1 = 32768 then none else goOn k (n + 1)

theorem goOn_some (k c d : Nat) (h : goOn k c = some d) : stN k c = d ∧ ∀ m, 0 < m → m ≤ k → stN m c ≠ 32768 := by
  induction k generalizing c with
  | zero => exact ⟨by simpa [goOn, stN] using h, fun m h1 h2 => by omega⟩
  | succ k ih =>
    simp only [goOn] at h
    split at h
    · cases h
    · rename_i n hn
      split at h
      · cases h
      · rename_i hne
        rw [← Nat.succ_eq_add_one, ← hn] at h
        have ⟨h1, h2⟩ := ih _ h
        refine ⟨h1, fun m h3 h4 => ?_⟩
        cases m with
        | zero => omega
        | succ m =>
          cases m with
          | zero => show st c ≠ 32768; rw [hn]; exact hne
          | succ m => exact h2 (m + 1) (by omega) (by omega)

def goFar : Nat → Nat → Option Nat
  | 0, c => some c
  | k + 1, c => match goOn 180 c with
    | none => none
    | some 0 => none
    | some (n + 1) => goFar k (n + 1)

theorem goFar_some (k c d : Nat) (h : goFar k c = some d) : ∀ m, 0 < m → m ≤ 180 * k → stN m c ≠ 32768 := by
  induction k generalizing c with
  | zero => intro m h1 h2; omega
  | succ k ih =>
    simp only [goFar] at h
    split at h
    · cases h
    · cases h
    · rename_i n hn
      have ⟨h1, h2⟩ := goOn_some _ _ _ hn
      have h3 := ih _ h
      intro m h4 h5
      rcases Nat.lt_or_ge 180 m with g | g
      · rw [show m = (m - 180) + 180 by omega, stN_add, h1]
        exact h3 _ (by omega) (by omega)
      · exact h2 m h4 g

theorem goFar_isSome : (goFar 182 32768).isSome = true := by decide +kernel

theorem order (m : Nat) (h0 : 0 < m) (h1 : m ≤ 32760) : stN m 32768 ≠ 32768 := by
  obtain ⟨d, hd⟩ := Option.isSome_iff_exists.mp goFar_isSome
  exact goFar_some 182 _ d hd m h0 h1

theorem T_two_lt (N a b : Nat) (hN : N ≤ 32760) (hb : b < N) (h : a < b) : T N a ^^^ T N b ≠ 0 := by
  intro e
  have h1 : T N a = stN (N - b) (stN (b - a) 32768) := by
    rw [← stN_add]
    show stN (N - a) _ = _
    congr 1
    omega
  rw [h1] at e
  change stN (N - b) _ ^^^ stN (N - b) 32768 = 0 at e
  rw [← stN_xor] at e
  have h2 := stN_null _ _ (Nat.xor_lt_two_pow (n := 16) (stN_lt _ _ (by decide)) (by decide)) e
  exact order (b - a) (by omega) (by omega) (xor_eq_zero' h2)

theorem T_two (N a b : Nat) (hN : N ≤ 32760) (ha : a < N) (hb : b < N) (h : a ≠ b) : T N a ^^^ T N b ≠ 0 := by
  rcases Nat.lt_or_gt_of_ne h with g | g
  · exact T_two_lt N a b hN hb g
  · rw [Nat.xor_comm]; exact T_two_lt N b a hN ha g

/-! odd numbers of bits -/

def parN : Nat → Nat → Bool
  | 0, _ => false
  | n + 1, c => c.testBit n ^^ parN n c

def par (c : Nat) : Bool := parN 16 c

theorem xor_pairs : ∀ a b c d : Bool, ((a ^^ b) ^^ (c ^^ d)) = ((a ^^ c) ^^ (b ^^ d)) := by decide

theorem parN_xor (n a b : Nat) : parN n (a ^^^ b) = (parN n a ^^ parN n b) := by
  induction n with
  | zero => rfl
  | succ n ih =>
    show ((a ^^^ b).testBit n ^^ parN n (a ^^^ b)) = _
    rw [ih, Nat.testBit_xor]
    exact xor_pairs _ _ _ _

theorem par_xor (a b : Nat) : par (a ^^^ b) = (par a ^^ par b) := parN_xor 16 a b

theorem par_st (c : Nat) : par (st c) = par c := by
  simp only [par, parN]
  simp only [st_bit c _ (show 0 < 16 by decide), st_bit c _ (show 1 < 16 by decide), st_bit c _ (show 2 < 16 by decide), st_bit c _ (show 3 < 16 by decide), st_bit c _ (show 4 < 16 by decide), st_bit c _ (show 5 < 16 by decide), st_bit c _ (show 6 < 16 by decide), st_bit c _ (show 7 < 16 by decide), st_bit c _ (show 8 < 16 by decide), st_bit c _ (show 9 < 16 by decide), st_bit c _ (show 10 < 16 by decide), st_bit c _ (show 11 < 16 by decide), st_bit c _ (show 12 < 16 by decide), st_bit c _ (show 13 < 16 by decide), st_bit c _ (show 14 < 16 by decide), st_bit c _ (show 15 < 16 by decide)]
  have g0 : (4129 : Nat).testBit 0 = true := by decide
  have g1 : (4129 : Nat).testBit 1 = false := by decide
  have g2 : (4129 : Nat).testBit 2 = false := by decide
  have g3 : (4129 : Nat).testBit 3 = false := by decide
  have g4 : (4129 : Nat).testBit 4 = false := by decide
  have g5 : (4129 : Nat).testBit 5 = true := by decide
  have g6 : (4129 : Nat).testBit 6 = false := by decide
  have g7 : (4129 : Nat).testBit 7 = false := by decide
  have g8 : (4129 : Nat).testBit 8 = false := by decide
  have g9 : (4129 : Nat).testBit 9 = false := by decide
  have g10 : (4129 : Nat).testBit 10 = false := by decide
  have g11 : (4129 : Nat).testBit 11 = false := by decide
  have g12 : (4129 : Nat).testBit 12 = true := by decide
  have g13 : (4129 : Nat).testBit 13 = false := by decide
  have g14 : (4129 : Nat).testBit 14 = false := by decide
  have g15 : (4129 : Nat).testBit 15 = false := by decide
  simp only [g0, g1, g2, g3, g4, g5, g6, g7, g8, g9, g10, g11, g12, g13, g14, g15, Nat.reduceSub, Nat.lt_irrefl, decide_false, Bool.false_and, Bool.and_true, Bool.and_false, Bool.xor_false, Bool.false_xor, Nat.zero_lt_succ, decide_true, Bool.true_and]
  cases c.testBit 15 <;> simp

theorem par_stN (n c : Nat) : par (stN n c) = par c := by
  induction n generalizing c with
  | zero => rfl
  | succ n ih => show par (stN n (st c)) = _; rw [ih, par_st]

theorem par_T (N j : Nat) : par (T N j) = true := by
  show par (stN _ _) = _
  rw [par_stN]; decide

end Go.Proofs.Ytiaolelkabbnmaa
