/-
  The document's own way to read a log's text, as plain mathematics: split into lines, a line into its parts; it reads what the other way reads.
-/
import Derived.Test.YtkklinjamcfppaaDoorParPlain
import Derived.Test.YtkklinjamcfppaaDoorLogNum
import Derived.Lib.SplitLaws
import Derived.Lib.Split
namespace Go.Proofs.YtkklinjamcfppaaDoor
set_option linter.unusedVariables false

/-- cut at the first k of b at most -/
def cutN (b : UInt8) : Nat → List UInt8 → List (List UInt8)
  | 0, s => [s]
  | k + 1, s => match cutB b s with
    | none => [s]
    | some (x, y) => x :: cutN b k y
theorem cutN_cons {b : UInt8} {s x y : List UInt8} (k : Nat) (h : cutB b s = some (x, y)) : cutN b (k + 1) s = x :: cutN b k y := by rw [cutN, h]
theorem cutN_one {b : UInt8} {s : List UInt8} (k : Nat) (h : cutB b s = none) : cutN b k s = [s] := by
  cases k with
  | zero => rfl
  | succ k => rw [cutN, h]
theorem cutN_split (b : UInt8) : ∀ (k : Nat) (s : List UInt8), Lib.splitK [b] 0 k s = cutN b k s := by
  intro k
  induction k with
  | zero => intro s; rfl
  | succ k ih =>
    intro s
    unfold Lib.splitK cutN
    cases h : cutB b s with
    | none =>
      rw [index_not (cutB_none h)]
      rfl
    | some p =>
      obtain ⟨x, y⟩ := p
      obtain ⟨rfl, h2⟩ := cutB_some h
      rw [index_at h2, if_neg (by simp <;> omega)]
      show List.take (((x.length : Nat) : Int).toNat + 0) _ :: Lib.splitK [b] 0 k (List.drop (((x.length : Nat) : Int).toNat + 1) _) = x :: cutN b k y
      rw [← ih]
      congr 1
      · simp
      · congr 1
        simp [List.drop_append]
theorem cutN_more (b : UInt8) : ∀ (k j : Nat) (s : List UInt8), s.length ≤ k → s.length ≤ j → cutN b k s = cutN b j s := by
  intro k
  induction k with
  | zero =>
    intro j s h1 h2
    have : s = [] := List.eq_nil_of_length_eq_zero (by omega)
    subst this
    cases j <;> rfl
  | succ k ih =>
    intro j s h1 h2
    cases j with
    | zero =>
      have : s = [] := List.eq_nil_of_length_eq_zero (by omega)
      subst this
      rfl
    | succ j =>
      unfold cutN
      cases h : cutB b s with
      | none => rfl
      | some p =>
        obtain ⟨x, y⟩ := p
        have := (cutB_some h).1
        rw [this, List.length_append, List.length_cons] at h1 h2
        show x :: cutN b k y = x :: cutN b j y
        rw [ih j y (by omega) (by omega)]
/-- what the library's splitB makes, as texts -/
theorem splitB_tx (b : UInt8) (k : Nat) (s : List UInt8) : Lib.splitB (tx [b]) 0 k (tx s) = (cutN b k s).map tx := by
  have h := Lib.splitB_data (tx [b]) 0 k (tx s)
  rw [tx_data, tx_data, cutN_split] at h
  rw [← h, List.map_map]
  have : (tx ∘ fun x : ByteArray => x.data.toList) = id := by
    funext x
    exact tx_list x
  rw [this, List.map_id]
theorem cutN_len (b : UInt8) : ∀ (k : Nat) (s : List UInt8), (∀ x ∈ cutN b k s, x.length ≤ s.length) ∧ (cutN b k s).length ≤ k + 1 ∧ 1 ≤ (cutN b k s).length := by
  intro k
  induction k with
  | zero =>
    intro s
    refine ⟨fun x hx => ?_, Nat.le_refl _, Nat.le_refl _⟩
    simp [cutN] at hx
    rw [hx]; exact Nat.le_refl _
  | succ k ih =>
    intro s
    unfold cutN
    cases h : cutB b s with
    | none => exact ⟨fun x hx => by simp at hx; rw [hx]; exact Nat.le_refl _, by simp, by simp⟩
    | some p =>
      obtain ⟨x, y⟩ := p
      have e := (cutB_some h).1
      have hl : s.length = x.length + (y.length + 1) := by rw [e, List.length_append, List.length_cons]
      obtain ⟨i1, i2, i3⟩ := ih y
      refine ⟨fun z hz => ?_, by simp; omega, by simp⟩
      rcases List.mem_cons.1 hz with rfl | hz
      · omega
      · have := i1 z hz
        omega

/-- what is ahead of the first b and what is behind it; all, and nothing -/
def cutX (b : UInt8) (s : List UInt8) : List UInt8 × List UInt8 := match cutB b s with
  | some p => p
  | none => (s, [])
/-- what a line tells -/
def lnP (s : List UInt8) : Option En := match cutN 58 2 s with
  | [p0, p1, p2] => if canB p0 = true ∧ canB p1 = true ∧ canB (cutX 120 p2).1 = true ∧ canB (cutX 120 p2).2 = true then some ⟨(vlN 0 p0 : Int), (vlN 0 p1 : Int), (vlN 0 (cutX 120 p2).1 : Int), (vlN 0 (cutX 120 p2).2 : Int)⟩ else none
  | _ => none
/-- a line without its end -/
def lnI (x : En) : List UInt8 := Lib.itoa x.f ++ (58 :: (Lib.itoa x.l ++ (58 :: (Lib.itoa x.c ++ (120 :: Lib.itoa x.m)))))
theorem lnL_lnI (x : En) (r : List UInt8) : lnL x ++ r = lnI x ++ 10 :: r := by
  unfold lnL lnI
  simp
theorem itoa_no {v : Int} (h : 0 ≤ v ∧ v ≤ 9999999999) (b : UInt8) (hb : isDg b = false) : ∀ c ∈ Lib.itoa v, c ≠ b := fun c hc k => by
  obtain ⟨u, rfl, h2, h3, h4⟩ := itoa_dg h.1 h.2
  rw [h2] at hc
  subst k
  have := ((canB_iff _).1 h3).1.2.1 c hc
  rw [this] at hb
  cases hb
theorem lnI_no {x : En} (h : TenE x) : ∀ c ∈ lnI x, c ≠ 10 := by
  obtain ⟨a, b, c, d⟩ := h
  intro y hy
  unfold lnI at hy
  simp only [List.mem_append, List.mem_cons] at hy
  rcases hy with hy | rfl | hy | rfl | hy | rfl | hy
  · exact itoa_no a 10 (by decide) y hy
  · decide
  · exact itoa_no b 10 (by decide) y hy
  · decide
  · exact itoa_no c 10 (by decide) y hy
  · decide
  · exact itoa_no d 10 (by decide) y hy
theorem itoa_back {v : Int} (h : 0 ≤ v ∧ v ≤ 9999999999) : canB (Lib.itoa v) = true ∧ ((vlN 0 (Lib.itoa v) : Nat) : Int) = v := by
  obtain ⟨u, rfl, h2, h3, h4⟩ := itoa_dg h.1 h.2
  rw [h2]
  exact ⟨h3, by rw [h4]⟩
theorem lnP_of {x : En} (h : TenE x) : lnP (lnI x) = some x := by
  obtain ⟨a, b, c, d⟩ := h
  have e : cutN 58 2 (lnI x) = [Lib.itoa x.f, Lib.itoa x.l, Lib.itoa x.c ++ 120 :: Lib.itoa x.m] := by
    unfold lnI cutN
    rw [cutB_of (itoa_no a 58 (by decide))]
    show Lib.itoa x.f :: cutN 58 1 _ = _
    unfold cutN
    rw [cutB_of (itoa_no b 58 (by decide))]
    rfl
  have e2 : cutX 120 (Lib.itoa x.c ++ 120 :: Lib.itoa x.m) = (Lib.itoa x.c, Lib.itoa x.m) := by
    unfold cutX
    rw [cutB_of (itoa_no c 120 (by decide))]
  unfold lnP
  rw [e]
  simp only [e2]
  rw [if_pos ⟨(itoa_back a).1, (itoa_back b).1, (itoa_back c).1, (itoa_back d).1⟩, (itoa_back a).2, (itoa_back b).2, (itoa_back c).2, (itoa_back d).2]
theorem can_itoa {l : List UInt8} (h : canB l = true) : Lib.itoa ((vlN 0 l : Nat) : Int) = l ∧ (0 ≤ ((vlN 0 l : Nat) : Int) ∧ ((vlN 0 l : Nat) : Int) ≤ 9999999999) := by
  have := (atoi_can h).2
  exact ⟨itoa_can h, by omega, by omega⟩
theorem lnP_text {s : List UInt8} {x : En} (h : lnP s = some x) : s = lnI x ∧ TenE x := by
  unfold lnP at h
  split at h
  · rename_i p0 p1 p2 hc
    split at h
    · rename_i hk
      obtain ⟨k0, k1, k2, k3⟩ := hk
      cases h
      obtain ⟨a0, a1⟩ := can_itoa k0
      obtain ⟨b0, b1⟩ := can_itoa k1
      obtain ⟨c0, c1⟩ := can_itoa k2
      obtain ⟨d0, d1⟩ := can_itoa k3
      refine ⟨?_, a1, b1, c1, d1⟩
      unfold lnI
      simp only
      rw [a0, b0, c0, d0]
      have e2 : p2 = (cutX 120 p2).1 ++ 120 :: (cutX 120 p2).2 := by
        unfold cutX at k3 ⊢
        cases hx : cutB 120 p2 with
        | none =>
          rw [hx] at k3
          simp only at k3
          cases k3
        | some p => exact (cutB_some hx).1
      rw [← e2]
      cases h1 : cutB 58 s with
      | none => rw [cutN_one _ h1] at hc; simp at hc
      | some p =>
        obtain ⟨x1, y1⟩ := p
        rw [cutN_cons _ h1] at hc
        cases h2 : cutB 58 y1 with
        | none => rw [cutN_one _ h2] at hc; simp at hc
        | some p =>
          obtain ⟨x2, y2⟩ := p
          rw [cutN_cons _ h2] at hc
          simp only [cutN, List.cons.injEq, and_true] at hc
          obtain ⟨rfl, rfl, rfl⟩ := hc
          rw [(cutB_some h1).1, (cutB_some h2).1]
    · cases h
  · cases h
/-- what lines tell -/
def lsP : List (List UInt8) → Option (List En)
  | [] => some []
  | s :: r => match lnP s with
    | none => none
    | some x => (lsP r).map (x :: ·)
/-- the document's way -/
def rrP (s : List UInt8) : Option (List En) := if (cutN 10 (s.count 10) s).getLast? = some [] then lsP (cutN 10 (s.count 10) s).dropLast else none
theorem rrP_nil : rrP [] = some [] := rfl
theorem cutN_ne (b : UInt8) (k : Nat) (s : List UInt8) : cutN b k s ≠ [] := fun h => by
  have := (cutN_len b k s).2.2
  rw [h] at this
  simp at this
theorem rrP_cons {s x y : List UInt8} (h : cutB 10 s = some (x, y)) : rrP s = (match lnP x with | none => none | some e => (rrP y).map (e :: ·)) := by
  obtain ⟨rfl, h2⟩ := cutB_some h
  have hc : (x ++ 10 :: y).count 10 = y.count 10 + 1 := by
    rw [List.count_append, List.count_cons_self, List.count_eq_zero.2 (fun k => h2 10 k rfl)]
    omega
  have e : cutN 10 ((x ++ 10 :: y).count 10) (x ++ 10 :: y) = x :: cutN 10 (y.count 10) y := by
    rw [hc]
    exact cutN_cons _ (cutB_of h2)
  unfold rrP
  rw [e]
  have hn := cutN_ne 10 (y.count 10) y
  obtain ⟨p, q, hpq⟩ : ∃ p q, cutN 10 (y.count 10) y = p :: q := by
    cases hq : cutN 10 (y.count 10) y with
    | nil => exact absurd hq hn
    | cons p q => exact ⟨p, q, rfl⟩
  rw [hpq, List.getLast?_cons_cons, List.dropLast_cons_cons]
  show (if (p :: q).getLast? = some [] then (match lnP x with | none => none | some e => (lsP (p :: q).dropLast).map (e :: ·)) else none) = _
  cases lnP x with
  | none => split <;> rfl
  | some e2 =>
    show (if (p :: q).getLast? = some [] then (lsP (p :: q).dropLast).map (e2 :: ·) else none) = (if (p :: q).getLast? = some [] then lsP (p :: q).dropLast else none).map (e2 :: ·)
    split <;> rfl
theorem rrP_bad {s : List UInt8} (hs : s ≠ []) (h : cutB 10 s = none) : rrP s = none := by
  have hc : s.count 10 = 0 := List.count_eq_zero.2 (fun k => cutB_none h 10 k rfl)
  unfold rrP
  rw [hc]
  show (if [s].getLast? = some [] then _ else none) = none
  rw [if_neg (by simpa using hs)]
/-- both ways read the same -/
theorem rrP_rdP : ∀ (n : Nat) (s : List UInt8), s.length ≤ n → rrP s = rdP s := by
  intro n
  induction n with
  | zero =>
    intro s h
    have : s = [] := List.eq_nil_of_length_eq_zero (by omega)
    subst this
    rfl
  | succ n ih =>
    intro s h
    by_cases hs : s = []
    · subst hs; rfl
    · cases hc : cutB 10 s with
      | none =>
        rw [rrP_bad hs hc]
        symm
        apply rdP_bad hs
        cases he : enP s with
        | none => rfl
        | some p =>
          obtain ⟨x, r⟩ := p
          obtain ⟨e1, e2⟩ := enP_text he
          rw [lnL_lnI] at e1
          have := cutB_of (b := 10) (y := r) (lnI_no e2)
          rw [← e1, hc] at this
          cases this
      | some p =>
        obtain ⟨x, y⟩ := p
        rw [rrP_cons hc]
        have e := (cutB_some hc).1
        cases hl : lnP x with
        | none =>
          symm
          apply rdP_bad hs
          cases he : enP s with
          | none => rfl
          | some p =>
            obtain ⟨z, r⟩ := p
            obtain ⟨e1, e2⟩ := enP_text he
            rw [lnL_lnI] at e1
            have := cutB_of (b := 10) (y := r) (lnI_no e2)
            rw [← e1, hc] at this
            cases this
            rw [lnP_of e2] at hl
            cases hl
        | some z =>
          obtain ⟨e1, e2⟩ := lnP_text hl
          have he : enP s = some (z, y) := by
            rw [e, e1, ← lnL_lnI]
            exact enP_of e2
          rw [rdP_go he, ← ih y (by rw [e, List.length_append, List.length_cons] at h; omega)]

end Go.Proofs.YtkklinjamcfppaaDoor
