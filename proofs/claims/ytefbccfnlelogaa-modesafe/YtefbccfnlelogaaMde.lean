/-
  Contracts of package mode: Check, Ask, Ground, Tested.
-/
import Derived.Test.YtefbccfnlelogaaRows
import Derived.Test.YtefbccfnlelogaaBoxes
import Derived.Test.YtefbccfnlelogaaLay
import Derived.WalkKit
import Derived.WalkSpells
import Derived.WalkLawsBesides
import Derived.Handy
namespace Go.Proofs.Ytefbccfnlelogaa
open Go.RowKit
set_option linter.unusedVariables false

/-- what is wrong with a state -/
def mE (m : Int) (p g : Bool) : Int := if m = 1 then 0 else if m = 2 then (if p = true then 0 else 4) else if m = 3 then (if g = true then 0 else 4) else 1
theorem mE_cases (m : Int) (p g : Bool) : mE m p g = 1 ∨ mE m p g = 4 ∨ mE m p g = 0 := by
  unfold mE
  repeat' split
  all_goals simp
theorem mE_ok {m : Int} {p g : Bool} (h : mE m p g = 0) : m = 1 ∨ (m = 2 ∧ p = true) ∨ (m = 3 ∧ g = true) := by
  unfold mE at h
  by_cases h1 : m = 1
  · exact Or.inl h1
  · by_cases h2 : m = 2
    · subst h2
      cases p
      · simp at h
      · exact Or.inr (Or.inl ⟨rfl, rfl⟩)
    · by_cases h3 : m = 3
      · subst h3
        cases g
        · simp at h
        · exact Or.inr (Or.inr ⟨rfl, rfl⟩)
      · rw [if_neg h1, if_neg h2, if_neg h3] at h
        cases h
theorem Lay.to3 {w : World} {L : List (List Value)} {W : World} (h : Lay w L W) (i b : Nat) {a0 a1 a2 : Value} (v0 v1 v2 : Value) (e : b = w.heap.size + i) (hi : L[i]? = some [a0, a1, a2]) :
    ∃ w3, (((W.setCell ⟨b, 0, none⟩ v0).setCell ⟨b, 1, none⟩ v1).setCell ⟨b, 2, none⟩ v2) = w3 ∧ Lay w (L.set i [v0, v1, v2]) w3 :=
  ⟨_, rfl, ((h.set i b 0 [a0, a1, a2] v0 e hi (by simp)).again (j := 1) v1 e hi (by simp)).again (j := 2) v2 e hi (by simp)⟩

set_option maxHeartbeats 400000 in
theorem formIf_any (b : Bool) (w : World) : Calls Try.prog 16 #[.bool b] w fun e w' => e = .returned (.int .i64 (if b = true then 0 else 4)) ∧ w' = w := by
  cases b
  all_goals
    go_enter Try.func16, Try.ntmps16
    go_wp2_with fail
    go_ret
    exact ⟨rfl, rfl⟩

set_option maxHeartbeats 400000 in
theorem isMode_in (m : Int) (w : World) (h1 : 1 ≤ m) (h2 : m ≤ 3) : Calls Try.prog 14 #[.int .i64 m] w fun e w' => e = .returned (.bool true) ∧ w' = w := by
  obtain rfl | rfl | rfl : m = 1 ∨ m = 2 ∨ m = 3 := by omega
  all_goals
    go_enter Try.func14, Try.ntmps14
    go_wp2_with fail
    go_ret
    exact ⟨rfl, rfl⟩

set_option maxHeartbeats 400000 in
theorem isMode_out (m : Int) (w : World) (h : m < 1 ∨ 3 < m) : Calls Try.prog 14 #[.int .i64 m] w fun e w' => e = .returned (.bool false) ∧ w' = w := by
  have h1 : ¬ m = 1 := by omega
  have h2 : ¬ m = 2 := by omega
  have h3 : ¬ m = 3 := by omega
  clear h
  go_enter Try.func14, Try.ntmps14
  go_wp2_with fail
  go_ret
  exact ⟨by simp [h1, h2, h3], rfl⟩

set_option maxHeartbeats 4000000 in
theorem mcheck_any (m : Int) (p g : Bool) (w : World) : Calls Try.prog 12 #[.agg #[.int .i64 m, .bool p, .bool g]] w fun e w' => e = .returned (.int .i64 (mE m p g)) ∧ Below w.heap.size w w' := by
  unfold mE
  by_cases h1 : m = 1
  · subst h1
    simp only [if_true]
    go_enter Try.func12, Try.ntmps12
    go_wp2_with fail
    go_ret
    exact ⟨rfl, (lay1 _ _ _).bel⟩
  · by_cases h2 : m = 2
    · subst h2
      simp only [if_true, show ¬ (2 : Int) = 1 by decide, if_false]
      cases p
      all_goals
        go_enter Try.func12, Try.ntmps12
        go_wp2_with fail
        refine (formIf_any _ _).mono ?_
        rintro e w1 ⟨rfl, rfl⟩
        go_wp2_with fail
        go_ret
        exact ⟨rfl, (lay1 _ _ _).bel⟩
    · by_cases h3 : m = 3
      · subst h3
        simp only [if_true, show ¬ (3 : Int) = 1 by decide, show ¬ (3 : Int) = 2 by decide, if_false]
        cases g
        all_goals
          go_enter Try.func12, Try.ntmps12
          go_wp2_with fail
          refine (formIf_any _ _).mono ?_
          rintro e w1 ⟨rfl, rfl⟩
          go_wp2_with fail
          go_ret
          exact ⟨rfl, (lay1 _ _ _).bel⟩
      · rw [if_neg h1, if_neg h2, if_neg h3]
        go_enter Try.func12, Try.ntmps12
        go_wp2_with fail
        go_ret
        exact ⟨rfl, (lay1 _ _ _).bel⟩

set_option maxHeartbeats 4000000 in
theorem ask_bad (m : Int) (p g : Bool) (x E : Int) (w : World) (h : mE m p g = E) (hE : E = 1 ∨ E = 4) : Calls Try.prog 6 #[.agg #[.int .i64 m, .bool p, .bool g], .int .i64 x] w fun r w' => r = .returned (.tuple #[.agg #[.int .i64 0, .bool false, .bool false], .int .i64 E]) ∧ Below w.heap.size w w' := by
  obtain ⟨W0, hW0, B0', Z0'⟩ := lay2n w #[.int .i64 m, .bool p, .bool g] #[.int .i64 0, .bool false, .bool false] 23 23
  have HW : Hid (_) := hW0
  have B0 : Hid (_) := B0'
  have CK : Hid (_) := fun W => mcheck_any m p g W
  rw [h] at CK
  clear hW0 B0' Z0' h
  go_enter Try.func6, Try.ntmps6
  go_wp2_with fail
  rw [HW.out]
  clear HW
  refine (CK.out _).mono ?_
  rintro r w1 ⟨rfl, hb⟩
  have B1 : Hid (_) := B0.out.step hb
  clear hb B0 CK
  have kl := (B1.out.blk 1 (w.heap.size + 1) _ rfl rfl).lt
  have k0 := (B1.out.blk 1 (w.heap.size + 1) _ rfl rfl).cell 0 _ rfl
  have k1 := (B1.out.blk 1 (w.heap.size + 1) _ rfl rfl).cell 1 _ rfl
  have k2 := (B1.out.blk 1 (w.heap.size + 1) _ rfl rfl).cell 2 _ rfl
  have kf0 := (B1.out.blk 1 (w.heap.size + 1) _ rfl rfl).froz 0 _ rfl
  have kf1 := (B1.out.blk 1 (w.heap.size + 1) _ rfl rfl).froz 1 _ rfl
  have kf2 := (B1.out.blk 1 (w.heap.size + 1) _ rfl rfl).froz 2 _ rfl
  rcases hE with rfl | rfl
  all_goals
    go_wp2_with fail
    obtain ⟨w3, hw3, B3⟩ := B1.out.to3 1 (w.heap.size + 1) (.int .i64 0) (.bool false) (.bool false) rfl rfl
    rw [hw3]
    have yl := (B3.blk 1 (w.heap.size + 1) _ rfl rfl).lt
    have y0 := (B3.blk 1 (w.heap.size + 1) _ rfl rfl).cell 0 _ rfl
    have y1 := (B3.blk 1 (w.heap.size + 1) _ rfl rfl).cell 1 _ rfl
    have y2 := (B3.blk 1 (w.heap.size + 1) _ rfl rfl).cell 2 _ rfl
    refine bodyPost_ret (by simp [results, Try.results6, go_sem, y0, y1, y2]; try rfl) rfl ?_
    exact ⟨rfl, B3.bel⟩

set_option maxHeartbeats 4000000 in
theorem ask_arg (m : Int) (p g : Bool) (x : Int) (w : World) (h : mE m p g = 0) (hx : x < 1 ∨ 3 < x) : Calls Try.prog 6 #[.agg #[.int .i64 m, .bool p, .bool g], .int .i64 x] w fun r w' => r = .returned (.tuple #[.agg #[.int .i64 0, .bool false, .bool false], .int .i64 1]) ∧ Below w.heap.size w w' := by
  obtain ⟨W0, hW0, B0', Z0'⟩ := lay2n w #[.int .i64 m, .bool p, .bool g] #[.int .i64 0, .bool false, .bool false] 23 23
  have HW : Hid (_) := hW0
  have B0 : Hid (_) := B0'
  have CK : Hid (_) := fun W => mcheck_any m p g W
  rw [h] at CK
  clear hW0 B0' Z0' h
  go_enter Try.func6, Try.ntmps6
  go_wp2_with fail
  rw [HW.out]
  clear HW
  refine (CK.out _).mono ?_
  rintro r w1 ⟨rfl, hb⟩
  have B1 : Hid (_) := B0.out.step hb
  clear hb B0 CK
  go_wp2_with fail
  refine (isMode_out x _ hx).mono ?_
  rintro r w2 ⟨rfl, rfl⟩
  have kl := (B1.out.blk 1 (w.heap.size + 1) _ rfl rfl).lt
  have k0 := (B1.out.blk 1 (w.heap.size + 1) _ rfl rfl).cell 0 _ rfl
  have k1 := (B1.out.blk 1 (w.heap.size + 1) _ rfl rfl).cell 1 _ rfl
  have k2 := (B1.out.blk 1 (w.heap.size + 1) _ rfl rfl).cell 2 _ rfl
  have kf0 := (B1.out.blk 1 (w.heap.size + 1) _ rfl rfl).froz 0 _ rfl
  have kf1 := (B1.out.blk 1 (w.heap.size + 1) _ rfl rfl).froz 1 _ rfl
  have kf2 := (B1.out.blk 1 (w.heap.size + 1) _ rfl rfl).froz 2 _ rfl
  go_wp2_with fail
  obtain ⟨w3, hw3, B3⟩ := B1.out.to3 1 (w.heap.size + 1) (.int .i64 0) (.bool false) (.bool false) rfl rfl
  rw [hw3]
  have yl := (B3.blk 1 (w.heap.size + 1) _ rfl rfl).lt
  have y0 := (B3.blk 1 (w.heap.size + 1) _ rfl rfl).cell 0 _ rfl
  have y1 := (B3.blk 1 (w.heap.size + 1) _ rfl rfl).cell 1 _ rfl
  have y2 := (B3.blk 1 (w.heap.size + 1) _ rfl rfl).cell 2 _ rfl
  refine bodyPost_ret (by simp [results, Try.results6, go_sem, y0, y1, y2]; try rfl) rfl ?_
  exact ⟨rfl, B3.bel⟩

set_option maxHeartbeats 4000000 in
theorem ask_same (m : Int) (p g : Bool) (w : World) (h : mE m p g = 0) (h1 : 1 ≤ m) (h2 : m ≤ 3) : Calls Try.prog 6 #[.agg #[.int .i64 m, .bool p, .bool g], .int .i64 m] w fun r w' => r = .returned (.tuple #[.agg #[.int .i64 m, .bool p, .bool g], .int .i64 0]) ∧ Below w.heap.size w w' := by
  obtain ⟨W0, hW0, B0', Z0'⟩ := lay2n w #[.int .i64 m, .bool p, .bool g] #[.int .i64 0, .bool false, .bool false] 23 23
  have HW : Hid (_) := hW0
  have B0 : Hid (_) := B0'
  have CK : Hid (_) := fun W => mcheck_any m p g W
  rw [h] at CK
  clear hW0 B0' Z0' h
  go_enter Try.func6, Try.ntmps6
  go_wp2_with fail
  rw [HW.out]
  clear HW
  refine (CK.out _).mono ?_
  rintro r w1 ⟨rfl, hb⟩
  have B1 : Hid (_) := B0.out.step hb
  clear hb B0 CK
  go_wp2_with fail
  refine (isMode_in m _ h1 h2).mono ?_
  rintro r w2 ⟨rfl, rfl⟩
  have pl := (B1.out.blk 0 (w.heap.size) _ rfl rfl).lt
  have p0 := (B1.out.blk 0 (w.heap.size) _ rfl rfl).cell 0 _ rfl
  have p1 := (B1.out.blk 0 (w.heap.size) _ rfl rfl).cell 1 _ rfl
  have p2 := (B1.out.blk 0 (w.heap.size) _ rfl rfl).cell 2 _ rfl
  have kl := (B1.out.blk 1 (w.heap.size + 1) _ rfl rfl).lt
  have k0 := (B1.out.blk 1 (w.heap.size + 1) _ rfl rfl).cell 0 _ rfl
  have k1 := (B1.out.blk 1 (w.heap.size + 1) _ rfl rfl).cell 1 _ rfl
  have k2 := (B1.out.blk 1 (w.heap.size + 1) _ rfl rfl).cell 2 _ rfl
  have kf0 := (B1.out.blk 1 (w.heap.size + 1) _ rfl rfl).froz 0 _ rfl
  have kf1 := (B1.out.blk 1 (w.heap.size + 1) _ rfl rfl).froz 1 _ rfl
  have kf2 := (B1.out.blk 1 (w.heap.size + 1) _ rfl rfl).froz 2 _ rfl
  go_wp2_with fail
  obtain ⟨w3, hw3, B3⟩ := B1.out.to3 1 (w.heap.size + 1) (.int .i64 m) (.bool p) (.bool g) rfl rfl
  rw [hw3]
  have yl := (B3.blk 1 (w.heap.size + 1) _ rfl rfl).lt
  have y0 := (B3.blk 1 (w.heap.size + 1) _ rfl rfl).cell 0 _ rfl
  have y1 := (B3.blk 1 (w.heap.size + 1) _ rfl rfl).cell 1 _ rfl
  have y2 := (B3.blk 1 (w.heap.size + 1) _ rfl rfl).cell 2 _ rfl
  refine bodyPost_ret (by simp [results, Try.results6, go_sem, y0, y1, y2]; try rfl) rfl ?_
  exact ⟨rfl, B3.bel⟩

/-- may it be in another mode? -/
def mayM (m : Int) (p g : Bool) (x : Int) : Bool := if x = 2 then decide (m = 1) && p else g

set_option maxHeartbeats 4000000 in
theorem mayBe_any (m : Int) (p g : Bool) (x : Int) (w : World) : Calls Try.prog 15 #[.agg #[.int .i64 m, .bool p, .bool g], .int .i64 x] w fun e w' => e = .returned (.bool (mayM m p g x)) ∧ Below w.heap.size w w' := by
  unfold mayM
  by_cases h2 : x = 2
  · subst h2
    rw [if_pos rfl]
    by_cases h1 : m = 1
    · subst h1
      go_enter Try.func15, Try.ntmps15
      go_wp2_with fail
      go_ret
      exact ⟨rfl, (lay1 _ _ _).bel⟩
    · rw [decide_eq_false h1]
      go_enter Try.func15, Try.ntmps15
      go_wp2_with fail
      go_ret
      exact ⟨rfl, (lay1 _ _ _).bel⟩
  · rw [if_neg h2]
    go_enter Try.func15, Try.ntmps15
    go_wp2_with fail
    go_ret
    exact ⟨rfl, (lay1 _ _ _).bel⟩

set_option maxHeartbeats 4000000 in
theorem ask_no (m : Int) (p g : Bool) (x : Int) (w : World) (h : mE m p g = 0) (h1 : 1 ≤ x) (h2 : x ≤ 3) (hne : ¬ x = m) (hb : mayM m p g x = false) : Calls Try.prog 6 #[.agg #[.int .i64 m, .bool p, .bool g], .int .i64 x] w fun r w' => r = .returned (.tuple #[.agg #[.int .i64 0, .bool false, .bool false], .int .i64 8]) ∧ Below w.heap.size w w' := by
  obtain ⟨W0, hW0, B0', Z0'⟩ := lay2n w #[.int .i64 m, .bool p, .bool g] #[.int .i64 0, .bool false, .bool false] 23 23
  have HW : Hid (_) := hW0
  have B0 : Hid (_) := B0'
  have CK : Hid (_) := fun W => mcheck_any m p g W
  have CM : Hid (_) := fun W => mayBe_any m p g x W
  rw [h] at CK
  rw [hb] at CM
  clear hW0 B0' Z0' h hb
  go_enter Try.func6, Try.ntmps6
  go_wp2_with fail
  rw [HW.out]
  clear HW
  refine (CK.out _).mono ?_
  rintro r w1 ⟨rfl, hb⟩
  have B1 : Hid (_) := B0.out.step hb
  clear hb B0 CK
  go_wp2_with fail
  refine (isMode_in x _ h1 h2).mono ?_
  rintro r w2 ⟨rfl, rfl⟩
  have pl := (B1.out.blk 0 (w.heap.size) _ rfl rfl).lt
  have p0 := (B1.out.blk 0 (w.heap.size) _ rfl rfl).cell 0 _ rfl
  have p1 := (B1.out.blk 0 (w.heap.size) _ rfl rfl).cell 1 _ rfl
  have p2 := (B1.out.blk 0 (w.heap.size) _ rfl rfl).cell 2 _ rfl
  go_wp2_with fail
  refine (CM.out _).mono ?_
  rintro r w3 ⟨rfl, hb⟩
  have B2 : Hid (_) := B1.out.step hb
  clear pl p0 p1 p2
  clear hb B1 CM
  have kl := (B2.out.blk 1 (w.heap.size + 1) _ rfl rfl).lt
  have k0 := (B2.out.blk 1 (w.heap.size + 1) _ rfl rfl).cell 0 _ rfl
  have k1 := (B2.out.blk 1 (w.heap.size + 1) _ rfl rfl).cell 1 _ rfl
  have k2 := (B2.out.blk 1 (w.heap.size + 1) _ rfl rfl).cell 2 _ rfl
  have kf0 := (B2.out.blk 1 (w.heap.size + 1) _ rfl rfl).froz 0 _ rfl
  have kf1 := (B2.out.blk 1 (w.heap.size + 1) _ rfl rfl).froz 1 _ rfl
  have kf2 := (B2.out.blk 1 (w.heap.size + 1) _ rfl rfl).froz 2 _ rfl
  go_wp2_with fail
  obtain ⟨w4, hw4, B3⟩ := B2.out.to3 1 (w.heap.size + 1) (.int .i64 0) (.bool false) (.bool false) rfl rfl
  rw [hw4]
  have yl := (B3.blk 1 (w.heap.size + 1) _ rfl rfl).lt
  have y0 := (B3.blk 1 (w.heap.size + 1) _ rfl rfl).cell 0 _ rfl
  have y1 := (B3.blk 1 (w.heap.size + 1) _ rfl rfl).cell 1 _ rfl
  have y2 := (B3.blk 1 (w.heap.size + 1) _ rfl rfl).cell 2 _ rfl
  refine bodyPost_ret (by simp [results, Try.results6, go_sem, y0, y1, y2]; try rfl) rfl ?_
  exact ⟨rfl, B3.bel⟩

set_option maxHeartbeats 4000000 in
theorem ask_ok (m : Int) (p g : Bool) (x : Int) (w : World) (h : mE m p g = 0) (h1 : 1 ≤ x) (h2 : x ≤ 3) (hne : ¬ x = m) (hb : mayM m p g x = true) : Calls Try.prog 6 #[.agg #[.int .i64 m, .bool p, .bool g], .int .i64 x] w fun r w' => r = .returned (.tuple #[.agg #[.int .i64 x, .bool (p && decide (¬ x = 3)), .bool g], .int .i64 0]) ∧ Below w.heap.size w w' := by
  obtain ⟨W0, hW0, B0', Z0'⟩ := lay2n w #[.int .i64 m, .bool p, .bool g] #[.int .i64 0, .bool false, .bool false] 23 23
  have HW : Hid (_) := hW0
  have B0 : Hid (_) := B0'
  have CK : Hid (_) := fun W => mcheck_any m p g W
  have CM : Hid (_) := fun W => mayBe_any m p g x W
  rw [h] at CK
  rw [hb] at CM
  clear hW0 B0' Z0' h hb
  obtain ⟨P, hP⟩ : ∃ P, (p && decide (¬ x = 3)) = P := ⟨_, rfl⟩
  have h3 : p = false ∧ P = false ∨ p = true ∧ x = 3 ∧ P = false ∨ p = true ∧ ¬ x = 3 ∧ P = true := by
    by_cases q : x = 3 <;> cases p <;> simp [q] at hP <;> simp [q, ← hP]
  rw [hP]
  clear hP
  go_enter Try.func6, Try.ntmps6
  go_wp2_with fail
  rw [HW.out]
  clear HW
  refine (CK.out _).mono ?_
  rintro r w1 ⟨rfl, hb⟩
  have B1 : Hid (_) := B0.out.step hb
  clear hb B0 CK
  go_wp2_with fail
  refine (isMode_in x _ h1 h2).mono ?_
  rintro r w2 ⟨rfl, rfl⟩
  have pl := (B1.out.blk 0 (w.heap.size) _ rfl rfl).lt
  have p0 := (B1.out.blk 0 (w.heap.size) _ rfl rfl).cell 0 _ rfl
  have p1 := (B1.out.blk 0 (w.heap.size) _ rfl rfl).cell 1 _ rfl
  have p2 := (B1.out.blk 0 (w.heap.size) _ rfl rfl).cell 2 _ rfl
  go_wp2_with fail
  refine (CM.out _).mono ?_
  rintro r w3 ⟨rfl, hb⟩
  have B2 : Hid (_) := B1.out.step hb
  clear pl p0 p1 p2
  clear hb B1 CM
  have pl := (B2.out.blk 0 (w.heap.size) _ rfl rfl).lt
  have p0 := (B2.out.blk 0 (w.heap.size) _ rfl rfl).cell 0 _ rfl
  have p1 := (B2.out.blk 0 (w.heap.size) _ rfl rfl).cell 1 _ rfl
  have p2 := (B2.out.blk 0 (w.heap.size) _ rfl rfl).cell 2 _ rfl
  have pf0 := (B2.out.blk 0 (w.heap.size) _ rfl rfl).froz 0 _ rfl
  have pf1 := (B2.out.blk 0 (w.heap.size) _ rfl rfl).froz 1 _ rfl
  have pf2 := (B2.out.blk 0 (w.heap.size) _ rfl rfl).froz 2 _ rfl
  have kl := (B2.out.blk 1 (w.heap.size + 1) _ rfl rfl).lt
  have k0 := (B2.out.blk 1 (w.heap.size + 1) _ rfl rfl).cell 0 _ rfl
  have k1 := (B2.out.blk 1 (w.heap.size + 1) _ rfl rfl).cell 1 _ rfl
  have k2 := (B2.out.blk 1 (w.heap.size + 1) _ rfl rfl).cell 2 _ rfl
  have kf0 := (B2.out.blk 1 (w.heap.size + 1) _ rfl rfl).froz 0 _ rfl
  have kf1 := (B2.out.blk 1 (w.heap.size + 1) _ rfl rfl).froz 1 _ rfl
  have kf2 := (B2.out.blk 1 (w.heap.size + 1) _ rfl rfl).froz 2 _ rfl
  rcases h3 with ⟨rfl, rfl⟩ | ⟨rfl, rfl, rfl⟩ | ⟨rfl, h3, rfl⟩
  · go_wp2_with fail
    obtain ⟨w4, hw4, B3, _⟩ := B2.out.put1 0 (w.heap.size) 0 [.int .i64 m, .bool false, .bool g] (.int .i64 x) rfl rfl (by simp)
    rw [hw4]
    obtain ⟨w5, hw5, B4, _⟩ := B3.put1 0 (w.heap.size) 1 [.int .i64 x, .bool false, .bool g] (.bool false) rfl rfl (by simp)
    rw [hw5]
    obtain ⟨w6, hw6, B5⟩ := B4.to3 1 (w.heap.size + 1) (.int .i64 x) (.bool false) (.bool g) rfl rfl
    rw [hw6]
    have yl := (B5.blk 1 (w.heap.size + 1) _ rfl rfl).lt
    have y0 := (B5.blk 1 (w.heap.size + 1) _ rfl rfl).cell 0 _ rfl
    have y1 := (B5.blk 1 (w.heap.size + 1) _ rfl rfl).cell 1 _ rfl
    have y2 := (B5.blk 1 (w.heap.size + 1) _ rfl rfl).cell 2 _ rfl
    refine bodyPost_ret (by simp [results, Try.results6, go_sem, y0, y1, y2]; try rfl) rfl ?_
    exact ⟨rfl, B5.bel⟩
  · go_wp2_with fail
    obtain ⟨w4, hw4, B3, _⟩ := B2.out.put1 0 (w.heap.size) 0 [.int .i64 m, .bool true, .bool g] (.int .i64 3) rfl rfl (by simp)
    rw [hw4]
    obtain ⟨w5, hw5, B4, _⟩ := B3.put1 0 (w.heap.size) 1 [.int .i64 3, .bool true, .bool g] (.bool false) rfl rfl (by simp)
    rw [hw5]
    obtain ⟨w6, hw6, B5⟩ := B4.to3 1 (w.heap.size + 1) (.int .i64 3) (.bool false) (.bool g) rfl rfl
    rw [hw6]
    have yl := (B5.blk 1 (w.heap.size + 1) _ rfl rfl).lt
    have y0 := (B5.blk 1 (w.heap.size + 1) _ rfl rfl).cell 0 _ rfl
    have y1 := (B5.blk 1 (w.heap.size + 1) _ rfl rfl).cell 1 _ rfl
    have y2 := (B5.blk 1 (w.heap.size + 1) _ rfl rfl).cell 2 _ rfl
    refine bodyPost_ret (by simp [results, Try.results6, go_sem, y0, y1, y2]; try rfl) rfl ?_
    exact ⟨rfl, B5.bel⟩
  · obtain rfl | rfl : x = 1 ∨ x = 2 := by omega
    · skip
      go_wp2_with fail
      obtain ⟨w4, hw4, B3, _⟩ := B2.out.put1 0 (w.heap.size) 0 [.int .i64 m, .bool true, .bool g] (.int .i64 1) rfl rfl (by simp)
      rw [hw4]
      obtain ⟨w5, hw5, B4, _⟩ := B3.put1 0 (w.heap.size) 1 [.int .i64 1, .bool true, .bool g] (.bool true) rfl rfl (by simp)
      rw [hw5]
      obtain ⟨w6, hw6, B5⟩ := B4.to3 1 (w.heap.size + 1) (.int .i64 1) (.bool true) (.bool g) rfl rfl
      rw [hw6]
      have yl := (B5.blk 1 (w.heap.size + 1) _ rfl rfl).lt
      have y0 := (B5.blk 1 (w.heap.size + 1) _ rfl rfl).cell 0 _ rfl
      have y1 := (B5.blk 1 (w.heap.size + 1) _ rfl rfl).cell 1 _ rfl
      have y2 := (B5.blk 1 (w.heap.size + 1) _ rfl rfl).cell 2 _ rfl
      refine bodyPost_ret (by simp [results, Try.results6, go_sem, y0, y1, y2]; try rfl) rfl ?_
      exact ⟨rfl, B5.bel⟩
    · skip
      go_wp2_with fail
      obtain ⟨w4, hw4, B3, _⟩ := B2.out.put1 0 (w.heap.size) 0 [.int .i64 m, .bool true, .bool g] (.int .i64 2) rfl rfl (by simp)
      rw [hw4]
      obtain ⟨w5, hw5, B4, _⟩ := B3.put1 0 (w.heap.size) 1 [.int .i64 2, .bool true, .bool g] (.bool true) rfl rfl (by simp)
      rw [hw5]
      obtain ⟨w6, hw6, B5⟩ := B4.to3 1 (w.heap.size + 1) (.int .i64 2) (.bool true) (.bool g) rfl rfl
      rw [hw6]
      have yl := (B5.blk 1 (w.heap.size + 1) _ rfl rfl).lt
      have y0 := (B5.blk 1 (w.heap.size + 1) _ rfl rfl).cell 0 _ rfl
      have y1 := (B5.blk 1 (w.heap.size + 1) _ rfl rfl).cell 1 _ rfl
      have y2 := (B5.blk 1 (w.heap.size + 1) _ rfl rfl).cell 2 _ rfl
      refine bodyPost_ret (by simp [results, Try.results6, go_sem, y0, y1, y2]; try rfl) rfl ?_
      exact ⟨rfl, B5.bel⟩

set_option maxHeartbeats 4000000 in
theorem ground_bad (m : Int) (p g on : Bool) (E : Int) (w : World) (h : mE m p g = E) (hE : E = 1 ∨ E = 4) : Calls Try.prog 8 #[.agg #[.int .i64 m, .bool p, .bool g], .bool on] w fun r w' => r = .returned (.tuple #[.agg #[.int .i64 0, .bool false, .bool false], .int .i64 E]) ∧ Below w.heap.size w w' := by
  obtain ⟨W0, hW0, B0', Z0'⟩ := lay2n w #[.int .i64 m, .bool p, .bool g] #[.int .i64 0, .bool false, .bool false] 23 23
  have HW : Hid (_) := hW0
  have B0 : Hid (_) := B0'
  have CK : Hid (_) := fun W => mcheck_any m p g W
  rw [h] at CK
  clear hW0 B0' Z0' h
  go_enter Try.func8, Try.ntmps8
  go_wp2_with fail
  rw [HW.out]
  clear HW
  refine (CK.out _).mono ?_
  rintro r w1 ⟨rfl, hb⟩
  have B1 : Hid (_) := B0.out.step hb
  clear hb B0 CK
  have pl := (B1.out.blk 0 (w.heap.size) _ rfl rfl).lt
  have p0 := (B1.out.blk 0 (w.heap.size) _ rfl rfl).cell 0 _ rfl
  have p1 := (B1.out.blk 0 (w.heap.size) _ rfl rfl).cell 1 _ rfl
  have p2 := (B1.out.blk 0 (w.heap.size) _ rfl rfl).cell 2 _ rfl
  have pf0 := (B1.out.blk 0 (w.heap.size) _ rfl rfl).froz 0 _ rfl
  have pf1 := (B1.out.blk 0 (w.heap.size) _ rfl rfl).froz 1 _ rfl
  have pf2 := (B1.out.blk 0 (w.heap.size) _ rfl rfl).froz 2 _ rfl
  have kl := (B1.out.blk 1 (w.heap.size + 1) _ rfl rfl).lt
  have k0 := (B1.out.blk 1 (w.heap.size + 1) _ rfl rfl).cell 0 _ rfl
  have k1 := (B1.out.blk 1 (w.heap.size + 1) _ rfl rfl).cell 1 _ rfl
  have k2 := (B1.out.blk 1 (w.heap.size + 1) _ rfl rfl).cell 2 _ rfl
  have kf0 := (B1.out.blk 1 (w.heap.size + 1) _ rfl rfl).froz 0 _ rfl
  have kf1 := (B1.out.blk 1 (w.heap.size + 1) _ rfl rfl).froz 1 _ rfl
  have kf2 := (B1.out.blk 1 (w.heap.size + 1) _ rfl rfl).froz 2 _ rfl
  rcases hE with rfl | rfl
  all_goals
    go_wp2_with fail
    obtain ⟨w6, hw6, B5⟩ := B1.out.to3 1 (w.heap.size + 1) (.int .i64 0) (.bool false) (.bool false) rfl rfl
    rw [hw6]
    have yl := (B5.blk 1 (w.heap.size + 1) _ rfl rfl).lt
    have y0 := (B5.blk 1 (w.heap.size + 1) _ rfl rfl).cell 0 _ rfl
    have y1 := (B5.blk 1 (w.heap.size + 1) _ rfl rfl).cell 1 _ rfl
    have y2 := (B5.blk 1 (w.heap.size + 1) _ rfl rfl).cell 2 _ rfl
    refine bodyPost_ret (by simp [results, Try.results8, go_sem, y0, y1, y2]; try rfl) rfl ?_
    exact ⟨rfl, B5.bel⟩

set_option maxHeartbeats 4000000 in
theorem tested_bad (m : Int) (p g on : Bool) (E : Int) (w : World) (h : mE m p g = E) (hE : E = 1 ∨ E = 4) : Calls Try.prog 9 #[.agg #[.int .i64 m, .bool p, .bool g], .bool on] w fun r w' => r = .returned (.tuple #[.agg #[.int .i64 0, .bool false, .bool false], .int .i64 E]) ∧ Below w.heap.size w w' := by
  obtain ⟨W0, hW0, B0', Z0'⟩ := lay2n w #[.int .i64 m, .bool p, .bool g] #[.int .i64 0, .bool false, .bool false] 23 23
  have HW : Hid (_) := hW0
  have B0 : Hid (_) := B0'
  have CK : Hid (_) := fun W => mcheck_any m p g W
  rw [h] at CK
  clear hW0 B0' Z0' h
  go_enter Try.func9, Try.ntmps9
  go_wp2_with fail
  rw [HW.out]
  clear HW
  refine (CK.out _).mono ?_
  rintro r w1 ⟨rfl, hb⟩
  have B1 : Hid (_) := B0.out.step hb
  clear hb B0 CK
  have pl := (B1.out.blk 0 (w.heap.size) _ rfl rfl).lt
  have p0 := (B1.out.blk 0 (w.heap.size) _ rfl rfl).cell 0 _ rfl
  have p1 := (B1.out.blk 0 (w.heap.size) _ rfl rfl).cell 1 _ rfl
  have p2 := (B1.out.blk 0 (w.heap.size) _ rfl rfl).cell 2 _ rfl
  have pf0 := (B1.out.blk 0 (w.heap.size) _ rfl rfl).froz 0 _ rfl
  have pf1 := (B1.out.blk 0 (w.heap.size) _ rfl rfl).froz 1 _ rfl
  have pf2 := (B1.out.blk 0 (w.heap.size) _ rfl rfl).froz 2 _ rfl
  have kl := (B1.out.blk 1 (w.heap.size + 1) _ rfl rfl).lt
  have k0 := (B1.out.blk 1 (w.heap.size + 1) _ rfl rfl).cell 0 _ rfl
  have k1 := (B1.out.blk 1 (w.heap.size + 1) _ rfl rfl).cell 1 _ rfl
  have k2 := (B1.out.blk 1 (w.heap.size + 1) _ rfl rfl).cell 2 _ rfl
  have kf0 := (B1.out.blk 1 (w.heap.size + 1) _ rfl rfl).froz 0 _ rfl
  have kf1 := (B1.out.blk 1 (w.heap.size + 1) _ rfl rfl).froz 1 _ rfl
  have kf2 := (B1.out.blk 1 (w.heap.size + 1) _ rfl rfl).froz 2 _ rfl
  rcases hE with rfl | rfl
  all_goals
    go_wp2_with fail
    obtain ⟨w6, hw6, B5⟩ := B1.out.to3 1 (w.heap.size + 1) (.int .i64 0) (.bool false) (.bool false) rfl rfl
    rw [hw6]
    have yl := (B5.blk 1 (w.heap.size + 1) _ rfl rfl).lt
    have y0 := (B5.blk 1 (w.heap.size + 1) _ rfl rfl).cell 0 _ rfl
    have y1 := (B5.blk 1 (w.heap.size + 1) _ rfl rfl).cell 1 _ rfl
    have y2 := (B5.blk 1 (w.heap.size + 1) _ rfl rfl).cell 2 _ rfl
    refine bodyPost_ret (by simp [results, Try.results9, go_sem, y0, y1, y2]; try rfl) rfl ?_
    exact ⟨rfl, B5.bel⟩

set_option maxHeartbeats 4000000 in
theorem ground_ok (m : Int) (p g on : Bool) (M : Int) (w : World) (h : mE m p g = 0) (hM : m = 3 ∧ on = false ∧ M = 1 ∨ m = 3 ∧ on = true ∧ M = 3 ∨ ¬ m = 3 ∧ M = m) : Calls Try.prog 8 #[.agg #[.int .i64 m, .bool p, .bool g], .bool on] w fun r w' => r = .returned (.tuple #[.agg #[.int .i64 M, .bool p, .bool on], .int .i64 0]) ∧ Below w.heap.size w w' := by
  obtain ⟨W0, hW0, B0', Z0'⟩ := lay2n w #[.int .i64 m, .bool p, .bool g] #[.int .i64 0, .bool false, .bool false] 23 23
  have HW : Hid (_) := hW0
  have B0 : Hid (_) := B0'
  have CK : Hid (_) := fun W => mcheck_any m p g W
  rw [h] at CK
  clear hW0 B0' Z0' h
  go_enter Try.func8, Try.ntmps8
  go_wp2_with fail
  rw [HW.out]
  clear HW
  refine (CK.out _).mono ?_
  rintro r w1 ⟨rfl, hb⟩
  have B1 : Hid (_) := B0.out.step hb
  clear hb B0 CK
  have pl := (B1.out.blk 0 (w.heap.size) _ rfl rfl).lt
  have p0 := (B1.out.blk 0 (w.heap.size) _ rfl rfl).cell 0 _ rfl
  have p1 := (B1.out.blk 0 (w.heap.size) _ rfl rfl).cell 1 _ rfl
  have p2 := (B1.out.blk 0 (w.heap.size) _ rfl rfl).cell 2 _ rfl
  have pf0 := (B1.out.blk 0 (w.heap.size) _ rfl rfl).froz 0 _ rfl
  have pf1 := (B1.out.blk 0 (w.heap.size) _ rfl rfl).froz 1 _ rfl
  have pf2 := (B1.out.blk 0 (w.heap.size) _ rfl rfl).froz 2 _ rfl
  have kl := (B1.out.blk 1 (w.heap.size + 1) _ rfl rfl).lt
  have k0 := (B1.out.blk 1 (w.heap.size + 1) _ rfl rfl).cell 0 _ rfl
  have k1 := (B1.out.blk 1 (w.heap.size + 1) _ rfl rfl).cell 1 _ rfl
  have k2 := (B1.out.blk 1 (w.heap.size + 1) _ rfl rfl).cell 2 _ rfl
  have kf0 := (B1.out.blk 1 (w.heap.size + 1) _ rfl rfl).froz 0 _ rfl
  have kf1 := (B1.out.blk 1 (w.heap.size + 1) _ rfl rfl).froz 1 _ rfl
  have kf2 := (B1.out.blk 1 (w.heap.size + 1) _ rfl rfl).froz 2 _ rfl
  rcases hM with ⟨rfl, rfl, rfl⟩ | ⟨rfl, rfl, rfl⟩ | ⟨h3, rfl⟩
  · skip
    · skip
      go_wp2_with fail
      obtain ⟨w4, hw4, B3, _⟩ := B1.out.put1 0 (w.heap.size) 2 [.int .i64 3, .bool p, .bool g] (.bool false) rfl rfl (by simp)
      rw [hw4]
      obtain ⟨w5, hw5, B4, _⟩ := B3.put1 0 (w.heap.size) 0 [.int .i64 3, .bool p, .bool false] (.int .i64 1) rfl rfl (by simp)
      rw [hw5]
      obtain ⟨w6, hw6, B5⟩ := B4.to3 1 (w.heap.size + 1) (.int .i64 1) (.bool p) (.bool false) rfl rfl
      rw [hw6]
      have yl := (B5.blk 1 (w.heap.size + 1) _ rfl rfl).lt
      have y0 := (B5.blk 1 (w.heap.size + 1) _ rfl rfl).cell 0 _ rfl
      have y1 := (B5.blk 1 (w.heap.size + 1) _ rfl rfl).cell 1 _ rfl
      have y2 := (B5.blk 1 (w.heap.size + 1) _ rfl rfl).cell 2 _ rfl
      refine bodyPost_ret (by simp [results, Try.results8, go_sem, y0, y1, y2]; try rfl) rfl ?_
      exact ⟨rfl, B5.bel⟩
  · skip
    · skip
      go_wp2_with fail
      obtain ⟨w4, hw4, B3, _⟩ := B1.out.put1 0 (w.heap.size) 2 [.int .i64 3, .bool p, .bool g] (.bool true) rfl rfl (by simp)
      rw [hw4]
      obtain ⟨w6, hw6, B5⟩ := B3.to3 1 (w.heap.size + 1) (.int .i64 3) (.bool p) (.bool true) rfl rfl
      rw [hw6]
      have yl := (B5.blk 1 (w.heap.size + 1) _ rfl rfl).lt
      have y0 := (B5.blk 1 (w.heap.size + 1) _ rfl rfl).cell 0 _ rfl
      have y1 := (B5.blk 1 (w.heap.size + 1) _ rfl rfl).cell 1 _ rfl
      have y2 := (B5.blk 1 (w.heap.size + 1) _ rfl rfl).cell 2 _ rfl
      refine bodyPost_ret (by simp [results, Try.results8, go_sem, y0, y1, y2]; try rfl) rfl ?_
      exact ⟨rfl, B5.bel⟩
  · skip
    go_wp2_with fail
    obtain ⟨w4, hw4, B3, _⟩ := B1.out.put1 0 (w.heap.size) 2 [.int .i64 M, .bool p, .bool g] (.bool on) rfl rfl (by simp)
    rw [hw4]
    obtain ⟨w6, hw6, B5⟩ := B3.to3 1 (w.heap.size + 1) (.int .i64 M) (.bool p) (.bool on) rfl rfl
    rw [hw6]
    have yl := (B5.blk 1 (w.heap.size + 1) _ rfl rfl).lt
    have y0 := (B5.blk 1 (w.heap.size + 1) _ rfl rfl).cell 0 _ rfl
    have y1 := (B5.blk 1 (w.heap.size + 1) _ rfl rfl).cell 1 _ rfl
    have y2 := (B5.blk 1 (w.heap.size + 1) _ rfl rfl).cell 2 _ rfl
    refine bodyPost_ret (by simp [results, Try.results8, go_sem, y0, y1, y2]; try rfl) rfl ?_
    exact ⟨rfl, B5.bel⟩

set_option maxHeartbeats 4000000 in
theorem tested_no (m : Int) (p g on : Bool) (w : World) (h : mE m p g = 0) (hn : ¬ m = 1 ∨ m = 1 ∧ g = false) : Calls Try.prog 9 #[.agg #[.int .i64 m, .bool p, .bool g], .bool on] w fun r w' => r = .returned (.tuple #[.agg #[.int .i64 0, .bool false, .bool false], .int .i64 8]) ∧ Below w.heap.size w w' := by
  obtain ⟨W0, hW0, B0', Z0'⟩ := lay2n w #[.int .i64 m, .bool p, .bool g] #[.int .i64 0, .bool false, .bool false] 23 23
  have HW : Hid (_) := hW0
  have B0 : Hid (_) := B0'
  have CK : Hid (_) := fun W => mcheck_any m p g W
  rw [h] at CK
  clear hW0 B0' Z0' h
  go_enter Try.func9, Try.ntmps9
  go_wp2_with fail
  rw [HW.out]
  clear HW
  refine (CK.out _).mono ?_
  rintro r w1 ⟨rfl, hb⟩
  have B1 : Hid (_) := B0.out.step hb
  clear hb B0 CK
  have pl := (B1.out.blk 0 (w.heap.size) _ rfl rfl).lt
  have p0 := (B1.out.blk 0 (w.heap.size) _ rfl rfl).cell 0 _ rfl
  have p1 := (B1.out.blk 0 (w.heap.size) _ rfl rfl).cell 1 _ rfl
  have p2 := (B1.out.blk 0 (w.heap.size) _ rfl rfl).cell 2 _ rfl
  have pf0 := (B1.out.blk 0 (w.heap.size) _ rfl rfl).froz 0 _ rfl
  have pf1 := (B1.out.blk 0 (w.heap.size) _ rfl rfl).froz 1 _ rfl
  have pf2 := (B1.out.blk 0 (w.heap.size) _ rfl rfl).froz 2 _ rfl
  have kl := (B1.out.blk 1 (w.heap.size + 1) _ rfl rfl).lt
  have k0 := (B1.out.blk 1 (w.heap.size + 1) _ rfl rfl).cell 0 _ rfl
  have k1 := (B1.out.blk 1 (w.heap.size + 1) _ rfl rfl).cell 1 _ rfl
  have k2 := (B1.out.blk 1 (w.heap.size + 1) _ rfl rfl).cell 2 _ rfl
  have kf0 := (B1.out.blk 1 (w.heap.size + 1) _ rfl rfl).froz 0 _ rfl
  have kf1 := (B1.out.blk 1 (w.heap.size + 1) _ rfl rfl).froz 1 _ rfl
  have kf2 := (B1.out.blk 1 (w.heap.size + 1) _ rfl rfl).froz 2 _ rfl
  rcases hn with hn | ⟨rfl, rfl⟩
  all_goals
    go_wp2_with fail
    obtain ⟨w6, hw6, B5⟩ := B1.out.to3 1 (w.heap.size + 1) (.int .i64 0) (.bool false) (.bool false) rfl rfl
    rw [hw6]
    have yl := (B5.blk 1 (w.heap.size + 1) _ rfl rfl).lt
    have y0 := (B5.blk 1 (w.heap.size + 1) _ rfl rfl).cell 0 _ rfl
    have y1 := (B5.blk 1 (w.heap.size + 1) _ rfl rfl).cell 1 _ rfl
    have y2 := (B5.blk 1 (w.heap.size + 1) _ rfl rfl).cell 2 _ rfl
    refine bodyPost_ret (by simp [results, Try.results9, go_sem, y0, y1, y2]; try rfl) rfl ?_
    exact ⟨rfl, B5.bel⟩

set_option maxHeartbeats 4000000 in
theorem tested_ok (p on : Bool) (w : World) (h : mE 1 p true = 0) : Calls Try.prog 9 #[.agg #[.int .i64 1, .bool p, .bool true], .bool on] w fun r w' => r = .returned (.tuple #[.agg #[.int .i64 1, .bool on, .bool true], .int .i64 0]) ∧ Below w.heap.size w w' := by
  obtain ⟨W0, hW0, B0', Z0'⟩ := lay2n w #[.int .i64 1, .bool p, .bool true] #[.int .i64 0, .bool false, .bool false] 23 23
  have HW : Hid (_) := hW0
  have B0 : Hid (_) := B0'
  have CK : Hid (_) := fun W => mcheck_any 1 p true W
  rw [h] at CK
  clear hW0 B0' Z0' h
  go_enter Try.func9, Try.ntmps9
  go_wp2_with fail
  rw [HW.out]
  clear HW
  refine (CK.out _).mono ?_
  rintro r w1 ⟨rfl, hb⟩
  have B1 : Hid (_) := B0.out.step hb
  clear hb B0 CK
  have pl := (B1.out.blk 0 (w.heap.size) _ rfl rfl).lt
  have p0 := (B1.out.blk 0 (w.heap.size) _ rfl rfl).cell 0 _ rfl
  have p1 := (B1.out.blk 0 (w.heap.size) _ rfl rfl).cell 1 _ rfl
  have p2 := (B1.out.blk 0 (w.heap.size) _ rfl rfl).cell 2 _ rfl
  have pf0 := (B1.out.blk 0 (w.heap.size) _ rfl rfl).froz 0 _ rfl
  have pf1 := (B1.out.blk 0 (w.heap.size) _ rfl rfl).froz 1 _ rfl
  have pf2 := (B1.out.blk 0 (w.heap.size) _ rfl rfl).froz 2 _ rfl
  have kl := (B1.out.blk 1 (w.heap.size + 1) _ rfl rfl).lt
  have k0 := (B1.out.blk 1 (w.heap.size + 1) _ rfl rfl).cell 0 _ rfl
  have k1 := (B1.out.blk 1 (w.heap.size + 1) _ rfl rfl).cell 1 _ rfl
  have k2 := (B1.out.blk 1 (w.heap.size + 1) _ rfl rfl).cell 2 _ rfl
  have kf0 := (B1.out.blk 1 (w.heap.size + 1) _ rfl rfl).froz 0 _ rfl
  have kf1 := (B1.out.blk 1 (w.heap.size + 1) _ rfl rfl).froz 1 _ rfl
  have kf2 := (B1.out.blk 1 (w.heap.size + 1) _ rfl rfl).froz 2 _ rfl
  go_wp2_with fail
  obtain ⟨w4, hw4, B3, _⟩ := B1.out.put1 0 (w.heap.size) 1 [.int .i64 1, .bool p, .bool true] (.bool on) rfl rfl (by simp)
  rw [hw4]
  obtain ⟨w6, hw6, B5⟩ := B3.to3 1 (w.heap.size + 1) (.int .i64 1) (.bool on) (.bool true) rfl rfl
  rw [hw6]
  have yl := (B5.blk 1 (w.heap.size + 1) _ rfl rfl).lt
  have y0 := (B5.blk 1 (w.heap.size + 1) _ rfl rfl).cell 0 _ rfl
  have y1 := (B5.blk 1 (w.heap.size + 1) _ rfl rfl).cell 1 _ rfl
  have y2 := (B5.blk 1 (w.heap.size + 1) _ rfl rfl).cell 2 _ rfl
  refine bodyPost_ret (by simp [results, Try.results9, go_sem, y0, y1, y2]; try rfl) rfl ?_
  exact ⟨rfl, B5.bel⟩

end Go.Proofs.Ytefbccfnlelogaa
