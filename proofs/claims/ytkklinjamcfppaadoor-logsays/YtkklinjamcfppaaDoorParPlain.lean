/-
  A log read from its text as plain mathematics: line by line; what is read is written as just that text, and what is written is read.
-/
import Derived.Test.YtkklinjamcfppaaDoorNumPlain
import Derived.Test.YtkklinjamcfppaaDoorLogText
namespace Go.Proofs.YtkklinjamcfppaaDoor
set_option linter.unusedVariables false

/-- a number, and what is behind its end -/
def fdP (b : UInt8) (s : List UInt8) : Option (Int × List UInt8) :=
  match cutB b s with
  | some (x, y) => if canB x = true then some ((vlN 0 x : Int), y) else none
  | none => none
theorem fdP_some {b : UInt8} {s : List UInt8} {v : Int} {y : List UInt8} (h : fdP b s = some (v, y)) : ∃ x, cutB b s = some (x, y) ∧ canB x = true ∧ v = (vlN 0 x : Int) := by
  unfold fdP at h
  split at h
  · rename_i x y' hc
    split at h
    · rename_i hx
      cases h
      exact ⟨x, hc, hx, rfl⟩
    · cases h
  · cases h
theorem fdP_text {b : UInt8} {s : List UInt8} {v : Int} {y : List UInt8} (h : fdP b s = some (v, y)) : s = Lib.itoa v ++ b :: y ∧ 0 ≤ v ∧ v ≤ 9999999999 := by
  obtain ⟨x, hc, hx, rfl⟩ := fdP_some h
  have := (atoi_can hx).2
  rw [itoa_can hx]
  exact ⟨(cutB_some hc).1, by omega, by omega⟩
theorem itoa_dg {v : Int} (h0 : 0 ≤ v) (h1 : v ≤ 9999999999) : ∃ u : Nat, v = u ∧ Lib.itoa v = Lib.decDigits u ∧ canB (Lib.decDigits u) = true ∧ vlN 0 (Lib.decDigits u) = u := by
  obtain ⟨u, rfl⟩ : ∃ u : Nat, v = u := ⟨v.toNat, by omega⟩
  obtain ⟨h2, h3⟩ := can_dec (u := u) (by omega)
  exact ⟨u, rfl, Lib.itoa_nonneg u, h2, h3⟩
theorem fdP_of {b : UInt8} {v : Int} {y : List UInt8} (hb : isDg b = false) (h0 : 0 ≤ v) (h1 : v ≤ 9999999999) : fdP b (Lib.itoa v ++ b :: y) = some (v, y) := by
  obtain ⟨u, rfl, h2, h3, h4⟩ := itoa_dg h0 h1
  rw [h2]
  unfold fdP
  rw [cutB_of (fun c hc k => by
    subst k
    have := ((canB_iff _).1 h3).1.2.1 c hc
    rw [this] at hb
    cases hb)]
  show (if canB (Lib.decDigits u) = true then some (((vlN 0 (Lib.decDigits u) : Nat) : Int), y) else none) = _
  rw [if_pos h3, h4]
/-- the first line, and what is behind it -/
def enP (s : List UInt8) : Option (En × List UInt8) :=
  match fdP 58 s with
  | none => none
  | some (f, r1) => match fdP 58 r1 with
    | none => none
    | some (l, r2) => match fdP 120 r2 with
      | none => none
      | some (c, r3) => match fdP 10 r3 with
        | none => none
        | some (m, r4) => some (⟨f, l, c, m⟩, r4)
/-- its numbers have at most ten digits -/
def TenE (x : En) : Prop := (0 ≤ x.f ∧ x.f ≤ 9999999999) ∧ (0 ≤ x.l ∧ x.l ≤ 9999999999) ∧ (0 ≤ x.c ∧ x.c ≤ 9999999999) ∧ (0 ≤ x.m ∧ x.m ≤ 9999999999)
theorem enP_text {s r : List UInt8} {x : En} (h : enP s = some (x, r)) : s = lnL x ++ r ∧ TenE x := by
  unfold enP at h
  split at h
  · cases h
  · rename_i f r1 h1
    split at h
    · cases h
    · rename_i l r2 h2
      split at h
      · cases h
      · rename_i c r3 h3
        split at h
        · cases h
        · rename_i m r4 h4
          cases h
          obtain ⟨e1, k1⟩ := fdP_text h1
          obtain ⟨e2, k2⟩ := fdP_text h2
          obtain ⟨e3, k3⟩ := fdP_text h3
          obtain ⟨e4, k4⟩ := fdP_text h4
          refine ⟨?_, k1, k2, k3, k4⟩
          rw [e1, e2, e3, e4]
          unfold lnL
          simp
theorem enP_of {x : En} {r : List UInt8} (h : TenE x) : enP (lnL x ++ r) = some (x, r) := by
  obtain ⟨⟨a0, a1⟩, ⟨b0, b1⟩, ⟨c0, c1⟩, ⟨d0, d1⟩⟩ := h
  have e : lnL x ++ r = Lib.itoa x.f ++ 58 :: (Lib.itoa x.l ++ 58 :: (Lib.itoa x.c ++ 120 :: (Lib.itoa x.m ++ 10 :: r))) := by
    unfold lnL
    simp
  unfold enP
  rw [e, fdP_of (by decide) a0 a1]
  simp only
  rw [fdP_of (by decide) b0 b1]
  simp only
  rw [fdP_of (by decide) c0 c1]
  simp only
  rw [fdP_of (by decide) d0 d1]
theorem lnL_pos (x : En) : 1 ≤ (lnL x).length := by
  unfold lnL
  simp only [List.length_append, List.length_cons]
  omega
/-- all lines: fuel -/
def esP : Nat → List UInt8 → Option (List En)
  | 0, _ => some []
  | k + 1, s => match s with
    | [] => some []
    | _ :: _ => match enP s with
      | none => none
      | some (x, r) => (esP k r).map (x :: ·)
def rdP (s : List UInt8) : Option (List En) := esP s.length s
theorem esP_more : ∀ (n k : Nat) (s : List UInt8), s.length ≤ n → s.length ≤ k → esP n s = esP k s := by
  intro n
  induction n with
  | zero =>
    intro k s h1 h2
    have : s = [] := List.eq_nil_of_length_eq_zero (by omega)
    subst this
    cases k <;> rfl
  | succ n ih =>
    intro k s h1 h2
    cases s with
    | nil => cases k <;> rfl
    | cons c t =>
      cases k with
      | zero => simp at h2
      | succ k =>
        show (match enP (c :: t) with | none => none | some (x, r) => (esP n r).map (x :: ·)) = (match enP (c :: t) with | none => none | some (x, r) => (esP k r).map (x :: ·))
        cases he : enP (c :: t) with
        | none => rfl
        | some p =>
          obtain ⟨x, r⟩ := p
          have hr : r.length < (c :: t).length := by
            have := (enP_text he).1
            rw [this, List.length_append]
            have := lnL_pos x
            omega
          show (esP n r).map _ = (esP k r).map _
          rw [ih k r (by omega) (by omega)]
theorem rdP_nil : rdP [] = some [] := rfl
theorem rdP_bad {s : List UInt8} (hs : s ≠ []) (h : enP s = none) : rdP s = none := by
  cases s with
  | nil => exact absurd rfl hs
  | cons c t =>
    show (match enP (c :: t) with | none => none | some (x, r) => (esP t.length r).map (x :: ·)) = none
    rw [h]
theorem enP_less {s r : List UInt8} {x : En} (h : enP s = some (x, r)) : r.length < s.length := by
  have := (enP_text h).1
  rw [this, List.length_append]
  have := lnL_pos x
  omega
theorem rdP_go {s r : List UInt8} {x : En} (h : enP s = some (x, r)) : rdP s = (rdP r).map (x :: ·) := by
  have hl := enP_less h
  cases s with
  | nil => simp at hl
  | cons c t =>
    show (match enP (c :: t) with | none => none | some (x, r) => (esP t.length r).map (x :: ·)) = _
    rw [h]
    show (esP t.length r).map _ = (esP r.length r).map _
    rw [esP_more t.length r.length r (by simp at hl; omega) (Nat.le_refl _)]
/-- the text of entries that stand in a list -/
def txs : List En → List UInt8
  | [] => []
  | x :: r => lnL x ++ txs r
theorem rdP_text : ∀ (n : Nat) (s : List UInt8) (xs : List En), s.length ≤ n → rdP s = some xs → s = txs xs ∧ ∀ x ∈ xs, TenE x := by
  intro n
  induction n with
  | zero =>
    intro s xs hn h
    have : s = [] := List.eq_nil_of_length_eq_zero (by omega)
    subst this
    rw [rdP_nil] at h
    cases h
    exact ⟨rfl, fun x hx => by simp at hx⟩
  | succ n ih =>
    intro s xs hn h
    by_cases hs : s = []
    · subst hs
      rw [rdP_nil] at h
      cases h
      exact ⟨rfl, fun x hx => by simp at hx⟩
    · cases he : enP s with
      | none =>
        rw [rdP_bad hs he] at h
        cases h
      | some p =>
        obtain ⟨x, r⟩ := p
        rw [rdP_go he, Option.map_eq_some_iff] at h
        obtain ⟨ys, h1, rfl⟩ := h
        have hl := enP_less he
        obtain ⟨i1, i2⟩ := ih r ys (by omega) h1
        obtain ⟨e1, e2⟩ := enP_text he
        refine ⟨by rw [e1, i1]; rfl, fun y hy => ?_⟩
        rcases List.mem_cons.1 hy with rfl | hy
        · exact e2
        · exact i2 y hy
theorem rdP_of : ∀ (xs : List En), (∀ x ∈ xs, TenE x) → rdP (txs xs) = some xs := by
  intro xs
  induction xs with
  | nil => intro _; rfl
  | cons x r ih =>
    intro h
    show rdP (lnL x ++ txs r) = _
    rw [rdP_go (enP_of (h x (by simp))), ih (fun y hy => h y (by simp [hy]))]
    rfl
/-- the entries of a list by their place -/
def atE (xs : List En) (k : Nat) : En := xs.getD k ⟨0, 0, 0, 0⟩
theorem atE_append (xs ys : List En) {k : Nat} (h : k < xs.length) : atE (xs ++ ys) k = atE xs k := by
  unfold atE
  rw [List.getD_eq_getElem?_getD, List.getD_eq_getElem?_getD, List.getElem?_append_left h]
theorem atE_last (xs : List En) (x : En) : atE (xs ++ [x]) xs.length = x := by
  unfold atE
  rw [List.getD_eq_getElem?_getD, List.getElem?_append_right (Nat.le_refl _), Nat.sub_self]
  rfl
theorem txs_append (xs ys : List En) : txs (xs ++ ys) = txs xs ++ txs ys := by
  induction xs with
  | nil => rfl
  | cons x r ih =>
    show lnL x ++ txs (r ++ ys) = lnL x ++ txs r ++ txs ys
    rw [ih, List.append_assoc]
theorem txL_congr {l m : Nat → En} {n : Nat} (h : ∀ k, k < n → l k = m k) : txL l n = txL m n := by
  induction n with
  | zero => rfl
  | succ n ih =>
    show txL l n ++ lnL (l n) = txL m n ++ lnL (m n)
    rw [ih (fun k hk => h k (by omega)), h n (by omega)]
/-- what Text writes of entries that stand in a list -/
theorem txL_list (l : Nat → En) (n : Nat) : txL l n = txs ((List.range n).map l) := by
  induction n with
  | zero => rfl
  | succ n ih =>
    rw [List.range_succ, List.map_append, txs_append, ← ih]
    show txL l n ++ lnL (l n) = txL l n ++ (lnL (l n) ++ [])
    rw [List.append_nil]
theorem atE_list (l : Nat → En) {n k : Nat} (h : k < n) : atE ((List.range n).map l) k = l k := by
  unfold atE
  rw [List.getD_eq_getElem?_getD, List.getElem?_map, List.getElem?_range h]
  rfl
theorem txs_at (xs : List En) : txs xs = txL (atE xs) xs.length := by
  rw [txL_list]
  congr 1
  apply List.ext_getElem?
  intro k
  by_cases h : k < xs.length
  · rw [List.getElem?_map, List.getElem?_range h]
    simp only [Option.map_some, atE, List.getD_eq_getElem?_getD, List.getElem?_eq_getElem h, Option.getD_some]
  · rw [List.getElem?_eq_none (by omega), List.getElem?_eq_none (by simp; omega)]

end Go.Proofs.YtkklinjamcfppaaDoor
