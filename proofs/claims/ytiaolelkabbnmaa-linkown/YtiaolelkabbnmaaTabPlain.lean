/-
  Plain mathematics of tables: points that rise, the line between two of them, what a table tells at a number.
-/
import Derived.Test.YtiaolelkabbnmaaRows
import Derived.WalkKit
namespace Go.Proofs.Ytiaolelkabbnmaa

def Rises (l : Nat → Int) (n : Nat) : Prop := ∀ k : Nat, k + 1 < n → l k < l (k + 1)
def risesB (l : Nat → Int) (n : Nat) : Bool := (List.range (n - 1)).all fun k => decide (l k < l (k + 1))
theorem risesB_iff (l : Nat → Int) (n : Nat) : risesB l n = true ↔ Rises l n := by
  unfold risesB Rises
  rw [List.all_eq_true]
  constructor
  · intro h k hk
    have := h k (List.mem_range.2 (by omega))
    simpa using this
  · intro h k hk
    have hk' := List.mem_range.1 hk
    simpa using h k (by omega)
theorem risesB_no {l : Nat → Int} {n : Nat} (k : Nat) (hk : k + 1 < n) (h : l (k + 1) ≤ l k) : risesB l n = false := by
  rw [Bool.eq_false_iff]
  intro h'
  have := (risesB_iff l n).1 h' k hk
  omega
theorem rises_lt {l : Nat → Int} {n : Nat} (h : Rises l n) {i j : Nat} (hij : i < j) (hj : j < n) : l i < l j := by
  induction j with
  | zero => omega
  | succ j ih =>
    have s := h j hj
    by_cases e : i = j
    · subst e; exact s
    · have := ih (by omega) (by omega)
      omega
theorem rises_le {l : Nat → Int} {n : Nat} (h : Rises l n) {i j : Nat} (hij : i ≤ j) (hj : j < n) : l i ≤ l j := by
  by_cases e : i = j
  · subst e; omega
  · have := rises_lt h (show i < j by omega) hj
    omega

/-- what the line has risen by then -/
def risenI (far run rise : Int) : Int := far * rise / run
theorem risen_bd {far run rise : Int} (h0 : 0 ≤ far) (h1 : far ≤ run) (h2 : 0 < run) :
    (0 ≤ rise → 0 ≤ risenI far run rise ∧ risenI far run rise ≤ rise) ∧ (rise ≤ 0 → rise ≤ risenI far run rise ∧ risenI far run rise ≤ 0) := by
  unfold risenI
  constructor
  · intro h
    have p := Int.mul_nonneg h0 h
    have q : far * rise ≤ rise * run := by
      rw [Int.mul_comm rise run]
      exact Int.mul_le_mul_of_nonneg_right h1 h
    exact ⟨Int.ediv_nonneg p (by omega), Int.ediv_le_of_le_mul h2 q⟩
  · intro h
    have p : far * rise ≤ 0 := Int.mul_nonpos_of_nonneg_of_nonpos h0 h
    have q : rise * run ≤ far * rise := by
      have := Int.mul_nonneg (show 0 ≤ run - far by omega) (show 0 ≤ -rise by omega)
      rw [Int.sub_mul, Int.mul_neg, Int.mul_neg] at this
      have e := Int.mul_comm rise run
      omega
    refine ⟨(Int.le_ediv_iff_mul_le h2).2 q, ?_⟩
    have := Int.ediv_le_ediv h2 p
    simpa using this

/-- on the line from point k to the next one -/
def lineI (X Y : Nat → Int) (k : Nat) (x : Int) : Int := Y k + risenI (x - X k) (X (k + 1) - X k) (Y (k + 1) - Y k)
theorem line_bd {X Y : Nat → Int} {k : Nat} {x : Int} (h1 : X k ≤ x) (h2 : x ≤ X (k + 1)) (h3 : X k < X (k + 1)) :
    (Y k ≤ Y (k + 1) → Y k ≤ lineI X Y k x ∧ lineI X Y k x ≤ Y (k + 1)) ∧ (Y (k + 1) ≤ Y k → Y (k + 1) ≤ lineI X Y k x ∧ lineI X Y k x ≤ Y k) := by
  have d := risen_bd (far := x - X k) (run := X (k + 1) - X k) (rise := Y (k + 1) - Y k) (by omega) (by omega) (by omega)
  unfold lineI
  exact ⟨fun h => by have := d.1 (by omega); omega, fun h => by have := d.2 (by omega); omega⟩
/-- the last of the points up to k that is not above x, or 0 -/
def ptN (X : Nat → Int) (x : Int) : Nat → Nat
  | 0 => 0
  | k + 1 => if X (k + 1) ≤ x then k + 1 else ptN X x k
theorem ptN_eq {X : Nat → Int} {n : Nat} (h : Rises X n) {x : Int} {k : Nat} (h1 : X k ≤ x) (h2 : x < X (k + 1)) (m : Nat) (hm : k ≤ m) (hl : m < n) : ptN X x m = k := by
  induction m with
  | zero => simp only [ptN]; omega
  | succ m ih =>
    simp only [ptN]
    by_cases e : k = m + 1
    · subst e
      rw [if_pos h1]
    · have := rises_le h (show k + 1 ≤ m + 1 by omega) hl
      rw [if_neg (by omega)]
      exact ih (by omega) (by omega)
/-- between which two points a number is -/
theorem pt_ex {X : Nat → Int} {x : Int} (n : Nat) (h1 : X 0 ≤ x) (h2 : x < X n) : ∃ k, k < n ∧ X k ≤ x ∧ x < X (k + 1) := by
  induction n with
  | zero => omega
  | succ n ih =>
    by_cases h : x < X n
    · obtain ⟨k, a, b, c⟩ := ih h
      exact ⟨k, by omega, b, c⟩
    · exact ⟨n, by omega, by omega, h2⟩
/-- what a table of n points tells at x -/
def atI (X Y : Nat → Int) (n : Nat) (x : Int) : Int :=
  if x < X 0 then Y 0 else if X (n - 1) ≤ x then Y (n - 1) else lineI X Y (ptN X x (n - 1)) x
theorem atI_low {X Y : Nat → Int} {n : Nat} {x : Int} (h : x < X 0) : atI X Y n x = Y 0 := by unfold atI; rw [if_pos h]
theorem atI_high {X Y : Nat → Int} {n : Nat} {x : Int} (h : X 0 ≤ x) (h' : X (n - 1) ≤ x) : atI X Y n x = Y (n - 1) := by
  unfold atI; rw [if_neg (by omega), if_pos h']
theorem atI_mid {X Y : Nat → Int} {n : Nat} {x : Int} {k : Nat} (hr : Rises X n) (hk : k + 1 < n) (h1 : X k ≤ x) (h2 : x < X (k + 1)) : atI X Y n x = lineI X Y k x := by
  have a := rises_le hr (Nat.zero_le k) (by omega)
  have b := rises_le hr (show k + 1 ≤ n - 1 by omega) (by omega)
  unfold atI
  rw [if_neg (by omega), if_neg (by omega), ptN_eq hr h1 h2 _ (by omega) (by omega)]
/-- at a point it is that point -/
theorem atI_knot {X Y : Nat → Int} {n : Nat} (hr : Rises X n) {k : Nat} (hk : k < n) : atI X Y n (X k) = Y k := by
  by_cases e : k + 1 < n
  · rw [atI_mid hr e (Int.le_refl _) (hr k e)]
    unfold lineI risenI
    simp
  · have e' : k = n - 1 := by omega
    have := rises_le hr (Nat.zero_le k) hk
    rw [atI_high this (by rw [e']; exact Int.le_refl _), e']
theorem atI_first {X Y : Nat → Int} {n : Nat} {x : Int} (hr : Rises X n) (hn : 0 < n) (h : x ≤ X 0) : atI X Y n x = Y 0 := by
  rcases Int.lt_or_le x (X 0) with g | g
  · exact atI_low g
  · have e : x = X 0 := by omega
    rw [e, atI_knot hr hn]
theorem atI_last {X Y : Nat → Int} {m : Nat} {x : Int} (hr : Rises X (m + 1)) (h : X m ≤ x) : atI X Y (m + 1) x = Y m := by
  have := rises_le hr (Nat.zero_le m) (by omega)
  exact atI_high (n := m + 1) (by omega) h
theorem line_end {X Y : Nat → Int} {k : Nat} (h : X k < X (k + 1)) : lineI X Y k (X (k + 1)) = Y (k + 1) := by
  unfold lineI risenI
  rw [Int.mul_ediv_cancel_left _ (show X (k + 1) - X k ≠ 0 by omega)]
  omega
/-- between two points it is between theirs -/
theorem atI_in {X Y : Nat → Int} {n : Nat} {x : Int} {k : Nat} (hr : Rises X n) (hk : k + 1 < n) (h1 : X k ≤ x) (h2 : x ≤ X (k + 1)) :
    (Y k ≤ Y (k + 1) → Y k ≤ atI X Y n x ∧ atI X Y n x ≤ Y (k + 1)) ∧ (Y (k + 1) ≤ Y k → Y (k + 1) ≤ atI X Y n x ∧ atI X Y n x ≤ Y k) := by
  have h3 := hr k hk
  rcases Int.lt_or_le x (X (k + 1)) with h | h
  · rw [atI_mid hr hk h1 h]
    exact line_bd h1 h2 h3
  · have e : x = X (k + 1) := by omega
    rw [e, atI_knot hr hk]
    exact ⟨fun g => ⟨g, Int.le_refl _⟩, fun g => ⟨Int.le_refl _, g⟩⟩
/-- ahead of the first point, behind the last one, or between two -/
theorem at_cases {X : Nat → Int} {n : Nat} (hn : 0 < n) (x : Int) :
    x < X 0 ∨ (X 0 ≤ x ∧ X (n - 1) ≤ x) ∨ ∃ k, k + 1 < n ∧ X k ≤ x ∧ x < X (k + 1) := by
  by_cases h : x < X 0
  · exact .inl h
  · by_cases h' : X (n - 1) ≤ x
    · exact .inr (.inl ⟨by omega, h'⟩)
    · obtain ⟨k, a, b, c⟩ := pt_ex (X := X) (x := x) (n - 1) (by omega) (by omega)
      exact .inr (.inr ⟨k, by omega, b, c⟩)

theorem risen_mono {f f' run rise : Int} (h : f ≤ f') (hr : 0 < run) (h0 : 0 ≤ rise) : risenI f run rise ≤ risenI f' run rise :=
  Int.ediv_le_ediv hr (Int.mul_le_mul_of_nonneg_right h h0)
theorem risen_lt {f run rise : Int} (h : f < run) (hr : 0 < run) (h0 : 0 < rise) : risenI f run rise < rise := by
  unfold risenI
  apply Int.ediv_lt_of_lt_mul hr
  rw [Int.mul_comm rise run]
  exact Int.mul_lt_mul_of_pos_right h h0
theorem risen_back {f run rise : Int} (hr : 0 < run) (h0 : 0 < rise) : risenI (risenI f run rise) rise run ≤ f := by
  unfold risenI
  have h := Int.ediv_mul_le (f * rise) (show run ≠ 0 by omega)
  have h' := Int.ediv_le_ediv h0 h
  rwa [Int.mul_ediv_cancel _ (show rise ≠ 0 by omega)] at h'
/-- a table whose Y rise is within its ends -/
theorem atI_within {X Y : Nat → Int} {m : Nat} (hr : Rises X (m + 1)) (hy : Rises Y (m + 1)) (x : Int) : Y 0 ≤ atI X Y (m + 1) x ∧ atI X Y (m + 1) x ≤ Y m := by
  have e := rises_le hy (Nat.zero_le m) (by omega)
  rcases at_cases (X := X) (n := m + 1) (by omega) x with h | ⟨h, h'⟩ | ⟨k, hk, h, h'⟩
  · rw [atI_low h]; omega
  · rw [atI_high h h']; simp only [Nat.add_sub_cancel]; omega
  · have a := (atI_in (Y := Y) hr hk h (by omega)).1 (by have := hy k hk; omega)
    have b := rises_le hy (Nat.zero_le k) (by omega)
    have c := rises_le hy (show k + 1 ≤ m by omega) (by omega)
    omega
theorem atI_mono {X Y : Nat → Int} {m : Nat} (hr : Rises X (m + 1)) (hy : Rises Y (m + 1)) {x z : Int} (hxz : x ≤ z) : atI X Y (m + 1) x ≤ atI X Y (m + 1) z := by
  have wz := atI_within hr hy z
  rcases at_cases (X := X) (n := m + 1) (by omega) x with h | ⟨h, h'⟩ | ⟨k, hk, h, h'⟩
  · rw [atI_low h]; omega
  · have h2 : X m ≤ x := by simpa using h'
    rw [atI_last hr h2, atI_last hr (show X m ≤ z by omega)]
    omega
  · rcases at_cases (X := X) (n := m + 1) (by omega) z with g | ⟨g, g'⟩ | ⟨j, hj, g, g'⟩
    · have := rises_le hr (Nat.zero_le k) (by omega)
      omega
    · have g2 : X m ≤ z := by simpa using g'
      rw [atI_last hr g2]
      exact (atI_within hr hy x).2
    · by_cases e : j = k
      · subst e
        rw [atI_mid hr hk h h', atI_mid hr hk g g']
        unfold lineI
        have s := hr j hk
        have t := hy j hk
        have := risen_mono (f := x - X j) (f' := z - X j) (run := X (j + 1) - X j) (rise := Y (j + 1) - Y j) (by omega) (by omega) (by omega)
        omega
      · have lt : k < j := by
          rcases Nat.lt_or_ge k j with q | q
          · exact q
          · have := rises_le hr (show j + 1 ≤ k by omega) (by omega)
            omega
        have a := (atI_in (Y := Y) hr hk h (by omega)).1 (by have := hy k hk; omega)
        have b := (atI_in (Y := Y) hr hj g (by omega)).1 (by have := hy j hj; omega)
        have c := rises_le hy (show k + 1 ≤ j by omega) (by omega)
        omega
/-- there and back it is no farther, and no nearer than the first point -/
theorem atI_back {X Y : Nat → Int} {m : Nat} (hr : Rises X (m + 1)) (hy : Rises Y (m + 1)) (x : Int) :
    X 0 ≤ atI Y X (m + 1) (atI X Y (m + 1) x) ∧ (x ≤ X 0 → atI Y X (m + 1) (atI X Y (m + 1) x) = X 0) ∧ (X m ≤ x → atI Y X (m + 1) (atI X Y (m + 1) x) = X m) ∧ (X 0 ≤ x → x ≤ X m → atI Y X (m + 1) (atI X Y (m + 1) x) ≤ x) := by
  have e := rises_le hr (Nat.zero_le m) (by omega)
  refine ⟨(atI_within hy hr _).1, fun h => ?_, fun h => ?_, fun h h' => ?_⟩
  · rw [atI_first hr (by omega) h, atI_knot hy (by omega)]
  · rw [atI_last hr h, atI_knot hy (by omega)]
  · rcases at_cases (X := X) (n := m + 1) (by omega) x with g | ⟨g, g'⟩ | ⟨k, hk, g, g'⟩
    · omega
    · have g2 : X m ≤ x := by simpa using g'
      rw [atI_last hr g2, atI_knot hy (by omega)]
      omega
    · have s := hr k hk
      have t := hy k hk
      have l := risen_lt (f := x - X k) (run := X (k + 1) - X k) (rise := Y (k + 1) - Y k) (by omega) (by omega) (by omega)
      have a := (atI_in (Y := Y) hr hk g (by omega)).1 (by omega)
      have ev := atI_mid (Y := Y) hr hk g g'
      have el : lineI X Y k x = Y k + risenI (x - X k) (X (k + 1) - X k) (Y (k + 1) - Y k) := rfl
      rw [atI_mid hy hk a.1 (by omega)]
      have er : atI X Y (m + 1) x - Y k = risenI (x - X k) (X (k + 1) - X k) (Y (k + 1) - Y k) := by omega
      show X k + risenI (atI X Y (m + 1) x - Y k) (Y (k + 1) - Y k) (X (k + 1) - X k) ≤ x
      rw [er]
      have := risen_back (f := x - X k) (run := X (k + 1) - X k) (rise := Y (k + 1) - Y k) (by omega) (by omega)
      omega

end Go.Proofs.Ytiaolelkabbnmaa
