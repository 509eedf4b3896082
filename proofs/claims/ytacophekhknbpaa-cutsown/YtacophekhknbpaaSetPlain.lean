/-
  Sets of eight parts as numbers below 256, plain mathematics: the least sets of which something holds, in their order; two ways to find them are one; no more than seventy of them; what goes across all of them.
-/
namespace Go.Proofs.Ytacophekhknbpaa
set_option linter.unusedVariables false

/-- how many parts a set has -/
def pop (s : Nat) : Nat := (List.range 8).countP fun j => s.testBit j
/-- a set lies within another one -/
def sub (s t : Nat) : Prop := s &&& t = s
/-- a set with the j-th part taken away -/
def clr (s j : Nat) : Nat := s &&& (65535 - 2 ^ j)
/-- all sets without a part of s -/
def cpl (s : Nat) : Nat := 255 - s

theorem sub_iff {s t : Nat} : sub s t ↔ ∀ i, s.testBit i = true → t.testBit i = true := by
  unfold sub
  constructor
  · intro h i hi
    rw [← h, Nat.testBit_and, Bool.and_eq_true] at hi
    exact hi.2
  · intro h
    refine Nat.eq_of_testBit_eq fun i => ?_
    rw [Nat.testBit_and]
    cases e : s.testBit i
    · rfl
    · rw [h i e]
      rfl
theorem sub_refl (s : Nat) : sub s s := sub_iff.2 fun _ h => h
theorem sub_trans {a b c : Nat} (h : sub a b) (k : sub b c) : sub a c := sub_iff.2 fun i hi => sub_iff.1 k i (sub_iff.1 h i hi)
theorem bit_high {s i : Nat} (h : s < 256) (hi : 8 ≤ i) : s.testBit i = false := Nat.testBit_lt_two_pow (Nat.lt_of_lt_of_le h (by
  have : 2 ^ 8 ≤ 2 ^ i := Nat.pow_le_pow_right (by decide) hi
  simpa using this))
theorem set_ext {s t : Nat} (hs : s < 256) (ht : t < 256) (h : ∀ i, i < 8 → s.testBit i = t.testBit i) : s = t := by
  refine Nat.eq_of_testBit_eq fun i => ?_
  by_cases q : i < 8
  · exact h i q
  · rw [bit_high hs (by omega), bit_high ht (by omega)]
theorem allB {n : Nat} {p : Nat → Bool} (h : (List.range n).all p = true) {s : Nat} (hs : s < n) : p s = true := List.all_eq_true.1 h s (List.mem_range.2 hs)
theorem clr_bits : (List.range 256).all (fun s => (List.range 8).all fun j => (List.range 8).all fun i => (clr s j).testBit i == (s.testBit i && !(i == j))) = true := by decide +kernel
theorem clr_pop : (List.range 256).all (fun s => (List.range 8).all fun j => clr s j == s || decide (pop (clr s j) < pop s)) = true := by decide +kernel
theorem cpl_bits : (List.range 256).all (fun s => (List.range 8).all fun i => (cpl s).testBit i == !s.testBit i) = true := by decide +kernel
theorem pop_small : (List.range 256).all (fun s => decide (pop s ≤ 8)) = true := by decide +kernel
theorem clr_lt {s : Nat} (h : s < 256) (j : Nat) : clr s j < 256 := Nat.lt_of_le_of_lt Nat.and_le_left h
theorem clr_bit {s j i : Nat} (h : s < 256) (hj : j < 8) (hi : i < 8) : (clr s j).testBit i = (s.testBit i && !(i == j)) := by
  have := allB (allB (allB clr_bits h) hj) hi
  simpa using this
theorem clr_sub {s j : Nat} : sub (clr s j) s := by
  refine sub_iff.2 fun i hi => ?_
  unfold clr at hi
  rw [Nat.testBit_and, Bool.and_eq_true] at hi
  exact hi.1
theorem clr_less {s j : Nat} (h : s < 256) (hj : j < 8) (hne : clr s j ≠ s) : pop (clr s j) < pop s := by
  have := allB (allB clr_pop h) hj
  simp only [Bool.or_eq_true, beq_iff_eq, decide_eq_true_eq] at this
  exact this.resolve_left hne
theorem cpl_lt (s : Nat) : cpl s < 256 := by unfold cpl; omega
theorem cpl_bit {s i : Nat} (h : s < 256) (hi : i < 8) : (cpl s).testBit i = !s.testBit i := by
  have := allB (allB cpl_bits h) hi
  simpa using this
theorem cpl_cpl {s : Nat} (h : s < 256) : cpl (cpl s) = s := by unfold cpl; omega
theorem and_zero {s t : Nat} (hs : s < 256) (ht : t < 256) : s &&& t = 0 ↔ sub t (cpl s) := by
  rw [sub_iff]
  constructor
  · intro h i hi
    have hi8 : i < 8 := by
      rcases Nat.lt_or_ge i 8 with q | q
      · exact q
      · rw [bit_high ht q] at hi
        cases hi
    rw [cpl_bit hs hi8]
    have : (s &&& t).testBit i = false := by rw [h]; exact Nat.zero_testBit i
    rw [Nat.testBit_and, hi, Bool.and_true] at this
    rw [this]
    rfl
  · intro h
    refine Nat.eq_of_testBit_eq fun i => ?_
    rw [Nat.testBit_and, Nat.zero_testBit]
    by_cases q : i < 8
    · cases e : t.testBit i
      · exact Bool.and_false _
      · have := h i e
        rw [cpl_bit hs q] at this
        cases e2 : s.testBit i
        · rfl
        · rw [e2] at this
          cases this
    · rw [bit_high hs (by omega), Bool.false_and]

/-- with more parts it holds too -/
def Mono (F : Nat → Bool) : Prop := ∀ s t, s < 256 → t < 256 → sub s t → F s = true → F t = true
/-- of no set with one of the first j parts less it holds -/
def lsB (F : Nat → Bool) (s : Nat) : Nat → Bool
  | 0 => true
  | j + 1 => lsB F s j && !(decide (clr s j ≠ s) && F (clr s j))
/-- it holds of a set, and of none with one part less -/
def isL (F : Nat → Bool) (s : Nat) : Bool := F s && lsB F s 8

theorem lsB_iff {F : Nat → Bool} {s k : Nat} : lsB F s k = true ↔ ∀ j, j < k → clr s j ≠ s → F (clr s j) = false := by
  induction k with
  | zero => exact ⟨fun _ j hj => by omega, fun _ => rfl⟩
  | succ k ih =>
    have e : lsB F s (k + 1) = (lsB F s k && !(decide (clr s k ≠ s) && F (clr s k))) := rfl
    rw [e, Bool.and_eq_true, ih]
    constructor
    · rintro ⟨h1, h2⟩ j hj hne
      rcases (show j < k ∨ j = k by omega) with q | rfl
      · exact h1 j q hne
      · rw [decide_eq_true hne, Bool.true_and] at h2
        simpa using h2
    · intro h
      refine ⟨fun j hj => h j (by omega), ?_⟩
      by_cases q : clr s k ≠ s
      · rw [h k (by omega) q, Bool.and_false]
        rfl
      · rw [decide_eq_false q, Bool.false_and]
        rfl
theorem isL_iff {F : Nat → Bool} {s : Nat} : isL F s = true ↔ F s = true ∧ ∀ j, j < 8 → clr s j ≠ s → F (clr s j) = false := by
  unfold isL
  rw [Bool.and_eq_true, lsB_iff]
/-- within each set of which it holds there is a least one -/
theorem min_below {F : Nat → Bool} {s : Nat} (hs : s < 256) (h : F s = true) : ∃ t, t < 256 ∧ sub t s ∧ isL F t = true ∧ (t = s ∨ pop t < pop s) := by
  obtain ⟨k, hk⟩ : ∃ k, pop s ≤ k := ⟨_, Nat.le_refl _⟩
  induction k generalizing s with
  | zero =>
    refine ⟨s, hs, sub_refl s, isL_iff.2 ⟨h, fun j hj hne => ?_⟩, Or.inl rfl⟩
    have := clr_less hs hj hne
    omega
  | succ k ih =>
    by_cases q : ∀ j, j < 8 → clr s j ≠ s → F (clr s j) = false
    · exact ⟨s, hs, sub_refl s, isL_iff.2 ⟨h, q⟩, Or.inl rfl⟩
    · have q2 : ∃ j, j < 8 ∧ clr s j ≠ s ∧ F (clr s j) = true := by
        refine Classical.byContradiction fun hn => q fun j hj hne => ?_
        cases e : F (clr s j)
        · rfl
        · exact absurd ⟨j, hj, hne, e⟩ hn
      obtain ⟨j, hj, hne, hF⟩ := q2
      have hl := clr_less hs hj hne
      obtain ⟨t, t1, t2, t3, t4⟩ := ih (clr_lt hs j) hF (by omega)
      refine ⟨t, t1, sub_trans t2 clr_sub, t3, Or.inr ?_⟩
      rcases t4 with rfl | t4 <;> omega
/-- a least set has no other one within it of which it holds -/
theorem isL_min {F : Nat → Bool} (hM : Mono F) {s t : Nat} (hs : s < 256) (ht : t < 256) (h : isL F s = true) (hst : sub t s) (hF : F t = true) : t = s := by
  refine Classical.byContradiction fun hne => ?_
  have q : ∃ j, j < 8 ∧ s.testBit j = true ∧ t.testBit j = false := by
    refine Classical.byContradiction fun hn => hne (set_ext ht hs fun i hi => ?_)
    cases e : t.testBit i
    · cases e2 : s.testBit i
      · rfl
      · exact absurd ⟨i, hi, e2, e⟩ hn
    · exact (sub_iff.1 hst i e).symm
  obtain ⟨j, hj, h1, h2⟩ := q
  have hc : clr s j ≠ s := fun e => by
    have := clr_bit hs hj hj
    rw [e, h1] at this
    simp at this
  have hz := (isL_iff.1 h).2 j hj hc
  have hsub : sub t (clr s j) := sub_iff.2 fun i hi => by
    have hi8 : i < 8 := by
      rcases Nat.lt_or_ge i 8 with q | q
      · exact q
      · rw [bit_high ht q] at hi
        cases hi
    rw [clr_bit hs hj hi8, sub_iff.1 hst i hi]
    have : i ≠ j := fun e => by
      subst e
      rw [h2] at hi
      cases hi
    simp [this]
  rw [hM t (clr s j) ht (clr_lt hs j) hsub hF] at hz
  cases hz

/-- the sets in their order, up to those with m parts, and of these the ones below s -/
def pre (m s : Nat) : List Nat := ((List.range m).flatMap fun n => (List.range 256).filter fun x => pop x == n) ++ (List.range s).filter fun x => pop x == m
def order : List Nat := pre 9 0
theorem pre_yes {m s : Nat} (h : pop s = m) : pre m (s + 1) = pre m s ++ [s] := by
  unfold pre
  rw [List.range_succ (n := s), List.filter_append, List.append_assoc]
  simp [h]
theorem pre_no {m s : Nat} (h : ¬ pop s = m) : pre m (s + 1) = pre m s := by
  unfold pre
  rw [List.range_succ (n := s), List.filter_append]
  simp [h]
theorem pre_row (m : Nat) : pre m 256 = pre (m + 1) 0 := by
  unfold pre
  rw [List.range_succ (n := m), List.flatMap_append]
  simp
theorem order_len : order.length = 256 := by decide +kernel
theorem order_sorted : order.Pairwise (fun a b => a ≠ b ∧ pop a ≤ pop b) := by decide +kernel
theorem mem_order {s : Nat} : s ∈ order ↔ s < 256 := by
  unfold order pre
  simp only [List.range_zero, List.filter_nil, List.append_nil, List.mem_flatMap, List.mem_range, List.mem_filter, beq_iff_eq]
  constructor
  · rintro ⟨n, _, h, _⟩
    exact h
  · intro h
    have := allB pop_small h
    simp only [decide_eq_true_eq] at this
    exact ⟨pop s, by omega, h, rfl⟩
theorem pre_lt {m s x : Nat} (hs : s ≤ 256) (h : x ∈ pre m s) : x < 256 := by
  unfold pre at h
  simp only [List.mem_append, List.mem_flatMap, List.mem_range, List.mem_filter, beq_iff_eq] at h
  rcases h with ⟨n, _, h, _⟩ | ⟨h, _⟩
  · exact h
  · omega

/-- the least sets of which it holds -/
def leastL (F : Nat → Bool) : List Nat := order.filter (isL F)
/-- one set more, if it holds of it and no set so far lies within it -/
def stepL (F : Nat → Bool) (out : List Nat) (s : Nat) : List Nat := if F s && !(out.any fun t => t &&& s == t) then out ++ [s] else out
/-- the sets that the document's way finds -/
def setsL (F : Nat → Bool) (l : List Nat) : List Nat := l.foldl (stepL F) []
theorem mem_leastL {F : Nat → Bool} {s : Nat} : s ∈ leastL F ↔ s < 256 ∧ isL F s = true := by
  unfold leastL
  rw [List.mem_filter, mem_order]
theorem leastL_nodup (F : Nat → Bool) : (leastL F).Pairwise (fun a b => a ≠ b) := (order_sorted.imp fun h => h.1).filter _
theorem sets_least {F : Nat → Bool} (hM : Mono F) : setsL F order = leastL F := by
  have key : ∀ l pr : List Nat, order = pr ++ l → setsL F pr = pr.filter (isL F) → setsL F order = leastL F := by
    intro l
    induction l with
    | nil =>
      intro pr h1 h2
      rw [List.append_nil] at h1
      rw [← h1] at h2
      exact h2
    | cons s l ih =>
      intro pr h1 h2
      refine ih (pr ++ [s]) (by rw [h1, List.append_assoc]; rfl) ?_
      have hs : s < 256 := mem_order.1 (by rw [h1]; simp)
      have hsort := order_sorted
      rw [h1, List.pairwise_append] at hsort
      have e1 : setsL F (pr ++ [s]) = stepL F (setsL F pr) s := by
        unfold setsL
        rw [List.foldl_append]
        rfl
      rw [e1, h2, List.filter_append]
      unfold stepL
      cases e : isL F s
      · rw [if_neg ?_]
        · simp [e]
        · intro hh
          have hF : F s = true := by
            cases q : F s
            · rw [q] at hh
              cases hh
            · rfl
          have hn : ∀ t, t ∈ pr.filter (isL F) → ¬ sub t s := fun t ht hsub => by
            rw [hF, Bool.true_and] at hh
            have : ((pr.filter (isL F)).any fun t => t &&& s == t) = true := List.any_eq_true.2 ⟨t, ht, by simpa [sub] using hsub⟩
            rw [this] at hh
            cases hh
          obtain ⟨t, t1, t2, t3, t4⟩ := min_below hs hF
          rcases t4 with rfl | t4
          · rw [t3] at e
            cases e
          · have ht : t ∈ pr := by
              have hm := mem_order.2 t1
              rw [h1, List.mem_append] at hm
              rcases hm with hm | hm
              · exact hm
              · rcases List.mem_cons.1 hm with rfl | hm
                · omega
                · have := ((List.pairwise_cons.1 hsort.2.1).1 t hm).2
                  omega
            exact hn t (List.mem_filter.2 ⟨ht, t3⟩) t2
      · rw [if_pos ?_]
        · simp [e]
        · have hn : ((pr.filter (isL F)).any fun t => t &&& s == t) = false := ?_
          · rw [(isL_iff.1 e).1, hn]
            rfl
          refine Bool.eq_false_iff.2 fun hh => ?_
          obtain ⟨t, ht, hsub'⟩ := List.any_eq_true.1 hh
          have hsub : sub t s := by simpa [sub] using hsub'
          obtain ⟨ht1, ht2⟩ := List.mem_filter.1 ht
          have hq : t < 256 := mem_order.1 (by rw [h1]; exact List.mem_append_left _ ht1)
          have := isL_min hM hs hq e hsub (isL_iff.1 ht2).1
          exact (hsort.2.2 t ht1 s (by simp)).1 this
  exact key order [] rfl rfl
theorem leastL_congr {F G : Nat → Bool} (h : ∀ s, s < 256 → F s = G s) : leastL F = leastL G := by
  unfold leastL
  refine List.filter_congr fun s hs => ?_
  have hs := mem_order.1 hs
  have key : ∀ k, lsB F s k = lsB G s k := by
    intro k
    induction k with
    | zero => rfl
    | succ k ih =>
      show (lsB F s k && !(_ && F (clr s k))) = (lsB G s k && !(_ && G (clr s k)))
      rw [ih, h _ (clr_lt hs k)]
  unfold isL
  rw [h s hs, key]
theorem setsL_congr {F G : Nat → Bool} {l : List Nat} (hl : ∀ s, s ∈ l → F s = G s) : setsL F l = setsL G l := by
  unfold setsL
  generalize ([] : List Nat) = out
  induction l generalizing out with
  | nil => rfl
  | cons s l ih =>
    simp only [List.foldl_cons]
    rw [show stepL F out s = stepL G out s by unfold stepL; rw [hl s (by simp)]]
    exact ih (fun x hx => hl x (by simp [hx])) _
/-- no least set lies within another one -/
theorem leastL_anti {F : Nat → Bool} (hM : Mono F) {s t : Nat} (hs : s ∈ leastL F) (ht : t ∈ leastL F) (h : sub t s) : t = s :=
  isL_min hM (mem_leastL.1 hs).1 (mem_leastL.1 ht).1 (mem_leastL.1 hs).2 h (isL_iff.1 (mem_leastL.1 ht).2).1
/-- it holds of a set just if a least set lies within it -/
theorem holds_iff {F : Nat → Bool} (hM : Mono F) {s : Nat} (hs : s < 256) : F s = true ↔ ∃ t, t ∈ leastL F ∧ sub t s := by
  constructor
  · intro h
    obtain ⟨t, t1, t2, t3, _⟩ := min_below hs h
    exact ⟨t, mem_leastL.2 ⟨t1, t3⟩, t2⟩
  · rintro ⟨t, h1, h2⟩
    obtain ⟨h3, h4⟩ := mem_leastL.1 h1
    exact hM t s h3 hs h2 (isL_iff.1 h4).1

/-- a set has a part of each of these -/
def meets (l : List Nat) (s : Nat) : Bool := l.all fun x => decide (s &&& x ≠ 0)
theorem meets_mono {l : List Nat} : Mono (meets l) := by
  intro s t hs ht hsub h
  refine List.all_eq_true.2 fun x hx => ?_
  have h1 := List.all_eq_true.1 h x hx
  simp only [decide_eq_true_eq] at h1 ⊢
  intro h2
  refine h1 (Nat.eq_of_testBit_eq fun i => ?_)
  have h3 : (t &&& x).testBit i = false := by rw [h2]; exact Nat.zero_testBit i
  rw [Nat.testBit_and] at h3
  rw [Nat.testBit_and, Nat.zero_testBit]
  cases e : s.testBit i
  · rfl
  · rw [sub_iff.1 hsub i e] at h3
    exact h3
/-- what goes across all least sets: the sets whose other parts don't do -/
theorem meets_least {F : Nat → Bool} (hM : Mono F) {s : Nat} (hs : s < 256) : meets (leastL F) s = !F (cpl s) := by
  have h1 := holds_iff hM (cpl_lt s)
  cases e : F (cpl s)
  · refine List.all_eq_true.2 fun x hx => ?_
    simp only [decide_eq_true_eq]
    intro h
    have : F (cpl s) = true := h1.2 ⟨x, hx, (and_zero hs (mem_leastL.1 hx).1).1 h⟩
    rw [e] at this
    cases this
  · obtain ⟨t, h2, h3⟩ := h1.1 e
    cases e2 : meets (leastL F) s
    · rfl
    · have := List.all_eq_true.1 e2 t h2
      simp only [decide_eq_true_eq] at this
      exact absurd ((and_zero hs (mem_leastL.1 h2).1).2 h3) this

/-- seventy chains: each set lies in one, and of two sets of one chain one lies within the other -/
def chains : List (List Nat) := [[0, 1, 3, 7, 15, 31, 63, 127, 255], [2, 6, 14, 30, 62, 126, 254], [4, 5, 13, 29, 61, 125, 253], [8, 9, 11, 27, 59, 123, 251], [10, 26, 58, 122, 250], [12, 28, 60, 124, 252], [16, 17, 19, 23, 55, 119, 247], [18, 22, 54, 118, 246], [20, 21, 53, 117, 245], [24, 25, 57, 121, 249], [32, 33, 35, 39, 47, 111, 239], [34, 38, 46, 110, 238], [36, 37, 45, 109, 237], [40, 41, 43, 107, 235], [42, 106, 234], [44, 108, 236], [48, 49, 51, 115, 243], [50, 114, 242], [52, 116, 244], [56, 120, 248], [64, 65, 67, 71, 79, 95, 223], [66, 70, 78, 94, 222], [68, 69, 77, 93, 221], [72, 73, 75, 91, 219], [74, 90, 218], [76, 92, 220], [80, 81, 83, 87, 215], [82, 86, 214], [84, 85, 213], [88, 89, 217], [96, 97, 99, 103, 231], [98, 102, 230], [100, 101, 229], [104, 105, 233], [112, 113, 241], [128, 129, 131, 135, 143, 159, 191], [130, 134, 142, 158, 190], [132, 133, 141, 157, 189], [136, 137, 139, 155, 187], [138, 154, 186], [140, 156, 188], [144, 145, 147, 151, 183], [146, 150, 182], [148, 149, 181], [152, 153, 185], [160, 161, 163, 167, 175], [162, 166, 174], [164, 165, 173], [168, 169, 171], [170], [172], [176, 177, 179], [178], [180], [184], [192, 193, 195, 199, 207], [194, 198, 206], [196, 197, 205], [200, 201, 203], [202], [204], [208, 209, 211], [210], [212], [216], [224, 225, 227], [226], [228], [232], [240]]
theorem chains_len : chains.length = 70 := by decide +kernel
theorem chains_all : (List.range 256).all (fun s => chains.any fun c => c.contains s) = true := by decide +kernel
theorem chains_sub : chains.all (fun c => c.all fun s => c.all fun t => s &&& t == s || t &&& s == t) = true := by decide +kernel
theorem count_anti {l c : List Nat} (hc : c ∈ chains) (hn : l.Pairwise fun a b => a ≠ b) (ha : ∀ s t, s ∈ l → t ∈ l → sub t s → t = s) : (l.filter fun s => c.contains s).length ≤ 1 := by
  have hp : (l.filter fun s => c.contains s).Pairwise fun a b => a ≠ b := hn.filter _
  match e : l.filter fun s => c.contains s with
  | [] => simp
  | [_] => simp
  | a :: b :: r =>
    exfalso
    rw [e] at hp
    have hab := (List.pairwise_cons.1 hp).1 b (by simp)
    have ma : a ∈ l.filter fun s => c.contains s := by rw [e]; simp
    have mb : b ∈ l.filter fun s => c.contains s := by rw [e]; simp
    obtain ⟨a1, a2⟩ := List.mem_filter.1 ma
    obtain ⟨b1, b2⟩ := List.mem_filter.1 mb
    have h := List.all_eq_true.1 (List.all_eq_true.1 (List.all_eq_true.1 chains_sub c hc) a (by simpa using a2)) b (by simpa using b2)
    simp only [Bool.or_eq_true, beq_iff_eq] at h
    rcases h with h | h
    · exact hab (ha b a b1 a1 h)
    · exact hab (ha a b a1 b1 h).symm
theorem len_chains (l : List Nat) (C : List (List Nat)) (h : ∀ s, s ∈ l → ∃ c, c ∈ C ∧ c.contains s = true) (h1 : ∀ c, c ∈ C → (l.filter fun s => c.contains s).length ≤ 1) : l.length ≤ C.length := by
  induction C generalizing l with
  | nil =>
    cases l with
    | nil => simp
    | cons s l =>
      obtain ⟨c, hc, _⟩ := h s (by simp)
      cases hc
  | cons c C ih =>
    have e : l.length = (l.filter fun s => c.contains s).length + (l.filter fun s => !c.contains s).length := by
      clear ih h h1
      induction l with
      | nil => rfl
      | cons x l il =>
        rw [List.filter_cons, List.filter_cons]
        cases q : c.contains x
        · simp only [Bool.false_eq_true, if_false, Bool.not_false, if_true, List.length_cons]
          omega
        · simp only [if_true, Bool.not_true, Bool.false_eq_true, if_false, List.length_cons]
          omega
    have i1 := ih (l.filter fun s => !c.contains s) (fun s hs => by
      obtain ⟨a1, a2⟩ := List.mem_filter.1 hs
      obtain ⟨d, hd, hs2⟩ := h s a1
      rcases List.mem_cons.1 hd with rfl | hd
      · rw [hs2] at a2
        cases a2
      · exact ⟨d, hd, hs2⟩) (fun d hd => Nat.le_trans (by
        rw [List.filter_filter]
        refine List.Sublist.length_le ?_
        have : ∀ m : List Nat, List.Sublist (m.filter fun s => d.contains s && !c.contains s) (m.filter fun s => d.contains s) := by
          intro m
          induction m with
          | nil => exact List.Sublist.slnil
          | cons x m im =>
            rw [List.filter_cons, List.filter_cons]
            cases q : d.contains x
            · simpa using im
            · cases q2 : c.contains x
              · simpa using im.cons_cons x
              · simpa using im.cons x
        exact this l) (h1 d (by simp [hd])))
    have h2 := h1 c (by simp)
    rw [List.length_cons]
    omega
/-- no more than seventy least sets -/
theorem leastL_len {F : Nat → Bool} (hM : Mono F) : (leastL F).length ≤ 70 := by
  have := len_chains (leastL F) chains (fun s hs => by
    have h := allB chains_all (mem_leastL.1 hs).1
    obtain ⟨c, hc, h2⟩ := List.any_eq_true.1 h
    exact ⟨c, hc, h2⟩) (fun c hc => count_anti hc (leastL_nodup F) fun s t hs ht h => leastL_anti hM hs ht h)
  rw [chains_len] at this
  exact this
theorem leastL_le (F : Nat → Bool) : (leastL F).length ≤ 256 := by
  have := List.length_filter_le (isL F) order
  rw [order_len] at this
  exact this

end Go.Proofs.Ytacophekhknbpaa
