/-
  Numbers in digits as plain mathematics: which texts are numbers as the document has them, what they say, and that they are written back as they were.
-/
import Derived.Test.YtkklinjamcfppaaDoorRows
import Derived.Lib.ItoaMem
import Derived.Lib.AtoiAllCases
import Derived.Lib.IndexLaws
import Derived.Lib.IndexMore
namespace Go.Proofs.YtkklinjamcfppaaDoor
set_option linter.unusedVariables false

def isDg (c : UInt8) : Bool := decide (48 ≤ c.toNat) && decide (c.toNat ≤ 57)
theorem isDg_iff (c : UInt8) : isDg c = true ↔ 48 ≤ c.toNat ∧ c.toNat ≤ 57 := by unfold isDg; simp
/-- what digits say behind others that say a -/
def vlN : Nat → List UInt8 → Nat
  | a, [] => a
  | a, c :: r => vlN (a * 10 + (c.toNat - 48)) r
theorem vlN_append (a : Nat) (l m : List UInt8) : vlN a (l ++ m) = vlN (vlN a l) m := by
  induction l generalizing a with
  | nil => rfl
  | cons c r ih => exact ih _
/-- a number as the document has it: digits, no nought ahead of another one -/
def canL (l : List UInt8) : Prop := l ≠ [] ∧ (∀ c ∈ l, isDg c = true) ∧ (l.length = 1 ∨ l.head? ≠ some 48)
def canB (l : List UInt8) : Bool := !l.isEmpty && l.all isDg && (decide (l.length = 1) || decide (l.head? ≠ some 48)) && decide (l.length ≤ 10)
theorem canB_iff (l : List UInt8) : canB l = true ↔ canL l ∧ l.length ≤ 10 := by
  unfold canB canL
  simp only [Bool.and_eq_true, Bool.or_eq_true, decide_eq_true_eq, Bool.not_eq_true', List.all_eq_true, List.isEmpty_eq_false_iff]
  constructor
  · rintro ⟨⟨⟨h1, h2⟩, h3⟩, h4⟩
    exact ⟨⟨h1, h2, h3⟩, h4⟩
  · rintro ⟨⟨h1, h2, h3⟩, h4⟩
    exact ⟨⟨⟨h1, h2⟩, h3⟩, h4⟩
theorem dg_of (d : Nat) (h : d < 10) : (UInt8.ofNat (48 + d)).toNat = 48 + d := by
  rw [UInt8.toNat_ofNat']
  omega
theorem dec_can (u : Nat) : canL (Lib.decDigits u) ∧ vlN 0 (Lib.decDigits u) = u ∧ (10 ≤ u → 2 ≤ (Lib.decDigits u).length) ∧ (1 ≤ u → (Lib.decDigits u).head? ≠ some 48) := by
  induction u using Nat.strongRecOn with
  | _ u ih =>
    by_cases h : u < 10
    · rw [Lib.decDigits_one h]
      have e := dg_of u h
      refine ⟨⟨by simp, fun c hc => ?_, Or.inl rfl⟩, ?_, fun k => by omega, fun k => ?_⟩
      · simp only [List.mem_singleton] at hc
        subst hc
        rw [isDg_iff, e]
        omega
      · show 0 * 10 + ((UInt8.ofNat (48 + u)).toNat - 48) = u
        rw [e]; omega
      · simp only [List.head?_cons, ne_eq, Option.some.injEq]
        intro k2
        rw [k2] at e
        have : (48 : UInt8).toNat = 48 := rfl
        omega
    · obtain ⟨⟨i1, i2, i3⟩, i4, i5, i6⟩ := ih (u / 10) (by omega)
      have e := dg_of (u % 10) (by omega)
      have e0 : Lib.decDigits u = Lib.decDigits (u / 10) ++ [UInt8.ofNat (48 + u % 10)] := by rw [Lib.decDigits, dif_neg h]
      have hd : (Lib.decDigits u).head? = (Lib.decDigits (u / 10)).head? := by
        rw [e0]
        cases hq : Lib.decDigits (u / 10) with
        | nil => exact absurd hq i1
        | cons c r => rfl
      have i6' := i6 (by omega)
      refine ⟨⟨by rw [e0]; simp, fun c hc => ?_, Or.inr (by rw [hd]; exact i6')⟩, ?_, fun _ => ?_, fun _ => by rw [hd]; exact i6'⟩
      · rw [e0, List.mem_append] at hc
        rcases hc with hc | hc
        · exact i2 c hc
        · simp only [List.mem_singleton] at hc
          subst hc
          rw [isDg_iff, e]
          omega
      · rw [e0, vlN_append, i4]
        show u / 10 * 10 + ((UInt8.ofNat (48 + u % 10)).toNat - 48) = u
        rw [e]; omega
      · rw [e0, List.length_append]
        have : 1 ≤ (Lib.decDigits (u / 10)).length := by
          cases hq : Lib.decDigits (u / 10) with
          | nil => exact absurd hq i1
          | cons c r => simp
        simp; omega
theorem u8_ext {a b : UInt8} (h : a.toNat = b.toNat) : a = b := UInt8.toNat_inj.1 h
theorem vlN_pos {l : List UInt8} (h : canL l) (hh : l.head? ≠ some 48) : 1 ≤ vlN 0 l := by
  obtain ⟨h1, h2, _⟩ := h
  cases l with
  | nil => exact absurd rfl h1
  | cons c r =>
    have hc := (isDg_iff c).1 (h2 c (by simp))
    have hne : c.toNat ≠ 48 := fun k => hh (by rw [List.head?_cons]; congr 1; exact u8_ext k)
    have key : ∀ (r : List UInt8) (a : Nat), 1 ≤ a → 1 ≤ vlN a r := by
      intro r
      induction r with
      | nil => intro a ha; exact ha
      | cons d r ih => intro a ha; exact ih _ (by omega)
    exact key r _ (by omega)
/-- what is a number is written back as it was -/
theorem can_back (n : Nat) : ∀ l : List UInt8, l.length = n → canL l → Lib.decDigits (vlN 0 l) = l := by
  induction n with
  | zero =>
    intro l hl h
    exact absurd (List.eq_nil_of_length_eq_zero hl) h.1
  | succ n ih =>
    intro l hl h
    by_cases h1 : n = 0
    · subst h1
      obtain ⟨c, rfl⟩ : ∃ c, l = [c] := by
        cases l with
        | nil => simp at hl
        | cons c r => cases r with
          | nil => exact ⟨c, rfl⟩
          | cons d r => simp at hl
      have hc := (isDg_iff c).1 (h.2.1 c (by simp))
      show Lib.decDigits (0 * 10 + (c.toNat - 48)) = [c]
      rw [Lib.decDigits_one (by omega)]
      congr 1
      apply u8_ext
      rw [UInt8.toNat_ofNat']
      omega
    · obtain ⟨h2, h3, h4⟩ := h
      have h5 : l.head? ≠ some 48 := by
        rcases h4 with h4 | h4
        · omega
        · exact h4
      obtain ⟨m, c, rfl⟩ : ∃ m c, l = m ++ [c] := ⟨l.dropLast, l.getLast h2, (List.dropLast_concat_getLast h2).symm⟩
      have hm : m.length = n := by simp at hl; omega
      have hmne : m ≠ [] := fun k => by rw [k] at hm; simp at hm; omega
      have hmh : m.head? ≠ some 48 := by
        cases m with
        | nil => exact absurd rfl hmne
        | cons d r => simpa using h5
      have hmc : canL m := ⟨hmne, fun d hd => h3 d (by simp [hd]), Or.inr hmh⟩
      have hc := (isDg_iff c).1 (h3 c (by simp))
      have hp := vlN_pos hmc hmh
      have hr := ih m hm hmc
      rw [vlN_append]
      show Lib.decDigits (vlN 0 m * 10 + (c.toNat - 48)) = m ++ [c]
      have hb : ¬ vlN 0 m * 10 + (c.toNat - 48) < 10 := by omega
      rw [Lib.decDigits, dif_neg hb, show (vlN 0 m * 10 + (c.toNat - 48)) / 10 = vlN 0 m by omega, show (vlN 0 m * 10 + (c.toNat - 48)) % 10 = c.toNat - 48 by omega, hr]
      congr 2
      apply u8_ext
      rw [UInt8.toNat_ofNat']
      omega
theorem vlN_lt (l : List UInt8) (h : ∀ c ∈ l, isDg c = true) : ∀ a, vlN a l < (a + 1) * 10 ^ l.length := by
  induction l with
  | nil => intro a; show a < _; simp
  | cons c r ih =>
    intro a
    have hc := (isDg_iff c).1 (h c (by simp))
    have := ih (fun d hd => h d (by simp [hd])) (a * 10 + (c.toNat - 48))
    show vlN (a * 10 + (c.toNat - 48)) r < _
    refine Nat.lt_of_lt_of_le this ?_
    rw [List.length_cons, Nat.pow_succ, Nat.mul_comm (10 ^ r.length) 10, ← Nat.mul_assoc]
    exact Nat.mul_le_mul_right _ (by omega)
theorem parse_dg (l : List UInt8) (h : ∀ c ∈ l, isDg c = true) : ∀ a, (a + 1) * 10 ^ l.length ≤ 10000000000 → Lib.parseUint10 a l = .ok (vlN a l) := by
  induction l with
  | nil => intro a _; rfl
  | cons c r ih =>
    intro a ha
    have hc := (isDg_iff c).1 (h c (by simp))
    rw [List.length_cons, Nat.pow_succ, Nat.mul_comm (10 ^ r.length) 10, ← Nat.mul_assoc] at ha
    have hp : 1 ≤ 10 ^ r.length := Nat.one_le_pow _ _ (by decide)
    have hle : (a + 1) * 10 ≤ (a + 1) * 10 * 10 ^ r.length := Nat.le_mul_of_pos_right _ hp
    unfold Lib.parseUint10
    rw [if_pos hc, if_neg (by omega), if_neg (by omega)]
    exact ih (fun d hd => h d (by simp [hd])) _ (Nat.le_trans (Nat.mul_le_mul_right _ (by omega)) ha)
/-- Atoi of a number as the document has it -/
theorem atoi_can {l : List UInt8} (h : canB l = true) : Lib.atoiAll l = .ok (vlN 0 l : Int) ∧ vlN 0 l < 10000000000 := by
  obtain ⟨⟨h1, h2, h3⟩, h4⟩ := (canB_iff l).1 h
  have hp : (0 + 1) * 10 ^ l.length ≤ 10000000000 := by
    rw [Nat.zero_add, Nat.one_mul]
    exact Nat.le_trans (Nat.pow_le_pow_right (by decide) h4) (by decide)
  have hv := vlN_lt l h2 0
  have hq := parse_dg l h2 0 hp
  refine ⟨?_, by omega⟩
  cases l with
  | nil => exact absurd rfl h1
  | cons c r =>
    have hc := (isDg_iff c).1 (h2 c (by simp))
    rw [Lib.atoiAll_plain c r (by omega) (by omega)]
    unfold Lib.parseMag
    rw [if_neg (by simp), hq]
    show (if 9223372036854775808 ≤ vlN 0 (c :: r) then Lib.NumEnd.range else .ok ((vlN 0 (c :: r) : Nat) : Int)) = _
    rw [if_neg (by omega)]
theorem itoa_can {l : List UInt8} (h : canB l = true) : Lib.itoa (vlN 0 l : Int) = l := by
  rw [Lib.itoa_nonneg]
  exact can_back l.length l rfl ((canB_iff l).1 h).1
/-- what is read and written back as it was is such a number -/
theorem can_of {l : List UInt8} {v : Int} (h0 : 0 ≤ v) (hl : l.length ≤ 10) (he : Lib.itoa v = l) : canB l = true := by
  obtain ⟨u, rfl⟩ : ∃ u : Nat, v = u := ⟨v.toNat, by omega⟩
  rw [Lib.itoa_nonneg] at he
  subst he
  exact (canB_iff _).2 ⟨(dec_can u).1, hl⟩
theorem dec_len {u : Nat} (h : u < 10000000000) : (Lib.decDigits u).length ≤ 10 := by
  rw [Lib.decDigits_length]
  by_cases h0 : u < 10
  · rw [Lib.nDigits_small h0]; omega
  · have key : ∀ (k u : Nat), u < 10 ^ k → 1 ≤ k → Lib.nDigits u ≤ k := by
      intro k
      induction k with
      | zero => intro u _ h; omega
      | succ k ih =>
        intro u hu _
        by_cases h1 : u < 10
        · rw [Lib.nDigits_small h1]; omega
        · rw [Lib.nDigits_big h1]
          have hk : 1 ≤ k := by
            rcases Nat.eq_zero_or_pos k with q | q
            · subst q; simp at hu; omega
            · exact q
          have := ih (u / 10) (by rw [Nat.pow_succ] at hu; omega) hk
          omega
    exact key 10 u (by simpa using h) (by decide)
theorem can_dec {u : Nat} (h : u < 10000000000) : canB (Lib.decDigits u) = true ∧ vlN 0 (Lib.decDigits u) = u := ⟨(canB_iff _).2 ⟨(dec_can u).1, dec_len h⟩, (dec_can u).2.1⟩

/-- round the first byte b: what is ahead, what is behind -/
def cutB (b : UInt8) : List UInt8 → Option (List UInt8 × List UInt8)
  | [] => none
  | c :: r => if c = b then some ([], r) else (cutB b r).map (fun p => (c :: p.1, p.2))
theorem cutB_some {b : UInt8} {s x y : List UInt8} (h : cutB b s = some (x, y)) : s = x ++ b :: y ∧ ∀ c ∈ x, c ≠ b := by
  induction s generalizing x with
  | nil => cases h
  | cons c r ih =>
    unfold cutB at h
    split at h
    · rename_i e
      cases h
      exact ⟨by rw [e]; rfl, fun d hd => by simp at hd⟩
    · rename_i e
      rw [Option.map_eq_some_iff] at h
      obtain ⟨⟨x', y'⟩, h1, h2⟩ := h
      cases h2
      obtain ⟨i1, i2⟩ := ih h1
      refine ⟨by rw [i1]; rfl, fun d hd => ?_⟩
      rcases List.mem_cons.1 hd with rfl | hd
      · exact e
      · exact i2 d hd
theorem cutB_of {b : UInt8} {x y : List UInt8} (h : ∀ c ∈ x, c ≠ b) : cutB b (x ++ b :: y) = some (x, y) := by
  induction x with
  | nil => show (if b = b then some ([], y) else _) = _; rw [if_pos rfl]
  | cons c r ih =>
    show (if c = b then some ([], r ++ b :: y) else (cutB b (r ++ b :: y)).map (fun p => (c :: p.1, p.2))) = _
    rw [if_neg (h c (by simp)), ih (fun d hd => h d (by simp [hd]))]
    rfl
theorem cutB_none {b : UInt8} {s : List UInt8} (h : cutB b s = none) : ∀ c ∈ s, c ≠ b := by
  induction s with
  | nil => intro c hc; simp at hc
  | cons d r ih =>
    unfold cutB at h
    split at h
    · cases h
    · rename_i e
      rw [Option.map_eq_none_iff] at h
      intro c hc
      rcases List.mem_cons.1 hc with rfl | hc
      · exact e
      · exact ih h c hc
theorem index_at {b : UInt8} {x y : List UInt8} (h : ∀ c ∈ x, c ≠ b) : Lib.index (x ++ b :: y) [b] = x.length := by
  induction x with
  | nil => unfold Lib.index; simp
  | cons c r ih =>
    have hi := ih (fun d hd => h d (by simp [hd]))
    have hc := h c (by simp)
    show (if ([b] : List UInt8).isPrefixOf (c :: (r ++ b :: y)) then (0 : Int) else if Lib.index (r ++ b :: y) [b] == -1 then -1 else Lib.index (r ++ b :: y) [b] + 1) = _
    rw [hi, if_neg (by simp; exact fun k => hc k.symm), if_neg (by simp <;> omega)]
    simp
theorem index_not {b : UInt8} {s : List UInt8} (h : ∀ c ∈ s, c ≠ b) : Lib.index s [b] = -1 := by
  induction s with
  | nil => unfold Lib.index; simp
  | cons c r ih =>
    have hi := ih (fun d hd => h d (by simp [hd]))
    have hc := h c (by simp)
    show (if ([b] : List UInt8).isPrefixOf (c :: r) then (0 : Int) else if Lib.index r [b] == -1 then -1 else Lib.index r [b] + 1) = _
    rw [hi, if_neg (by simp; exact fun k => hc k.symm)]
    rfl
/-- what strings.Cut tells -/
theorem cut_some {b : UInt8} {s x y : List UInt8} (h : cutB b s = some (x, y)) : Lib.cut s [b] = (x, y, true) := by
  obtain ⟨rfl, h2⟩ := cutB_some h
  unfold Lib.cut
  rw [index_at h2, if_pos (by omega)]
  simp
theorem cut_none {b : UInt8} {s : List UInt8} (h : cutB b s = none) : Lib.cut s [b] = (s, [], false) := by
  unfold Lib.cut
  rw [index_not (cutB_none h), if_neg (by omega)]

end Go.Proofs.YtkklinjamcfppaaDoor
