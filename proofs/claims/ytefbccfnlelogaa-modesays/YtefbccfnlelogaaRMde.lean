/-
  Contracts of the document's ModeErr, Ask, OnGround, Tested; both sides answer alike.
-/
import Derived.Test.YtefbccfnlelogaaMde
namespace Go.Proofs.Ytefbccfnlelogaa
open Go.RowKit
set_option linter.unusedVariables false

set_option maxHeartbeats 4000000 in
theorem rmodeErr_any (m : Int) (p g : Bool) (w : World) : Calls Try.prog 5 #[.agg #[.int .i64 m, .bool p, .bool g]] w fun e w' => e = .returned (.int .i64 (mE m p g)) ∧ Below w.heap.size w w' := by
  unfold mE
  by_cases h1 : m = 1
  · subst h1
    simp only [if_true]
    go_enter Try.func5, Try.ntmps5
    go_wp2_with fail
    go_ret
    exact ⟨rfl, (lay1 _ _ _).bel⟩
  · by_cases h2 : m = 2
    · subst h2
      simp only [if_true, show ¬ (2 : Int) = 1 by decide, if_false]
      cases p
      all_goals
        go_enter Try.func5, Try.ntmps5
        go_wp2_with fail
        go_ret
        exact ⟨rfl, (lay1 _ _ _).bel⟩
    · by_cases h3 : m = 3
      · subst h3
        simp only [if_true, show ¬ (3 : Int) = 1 by decide, show ¬ (3 : Int) = 2 by decide, if_false]
        cases g
        all_goals
          go_enter Try.func5, Try.ntmps5
          go_wp2_with fail
          go_ret
          exact ⟨rfl, (lay1 _ _ _).bel⟩
      · rw [if_neg h1, if_neg h2, if_neg h3]
        go_enter Try.func5, Try.ntmps5
        go_wp2_with fail
        go_ret
        exact ⟨rfl, (lay1 _ _ _).bel⟩

set_option maxHeartbeats 4000000 in
theorem rask_bad (m : Int) (p g : Bool) (x E : Int) (w : World) (h : mE m p g = E) (hE : E = 1 ∨ E = 4) : Calls Try.prog 7 #[.agg #[.int .i64 m, .bool p, .bool g], .int .i64 x] w fun r w' => r = .returned (.tuple #[.agg #[.int .i64 0, .bool false, .bool false], .int .i64 E]) ∧ Below w.heap.size w w' := by
  obtain ⟨W0, hW0, B0', Z0'⟩ := lay2n w #[.int .i64 m, .bool p, .bool g] #[.int .i64 0, .bool false, .bool false] 23 23
  have HW : Hid (_) := hW0
  have B0 : Hid (_) := B0'
  have CK : Hid (_) := fun W => rmodeErr_any m p g W
  rw [h] at CK
  clear hW0 B0' Z0' h
  go_enter Try.func7, Try.ntmps7
  go_wp2_with fail
  rw [HW.out]
  clear HW
  refine (CK.out _).mono ?_
  rintro r w1 ⟨rfl, hb⟩
  have B1 : Hid (_) := B0.out.step hb
  clear hb B0 CK
  have pl := (B1.out.blk 0 (w.heap.size) _ rfl rfl).lt
  have p0 := (B1.out.blk 0 (w.heap.size) _ rfl rfl).cell 0 _ rfl
  have p1 := (B1.out.blk 0 (w.heap.size) _ rfl rfl).cell 1 _ rfl
  have p2 := (B1.out.blk 0 (w.heap.size) _ rfl rfl).cell 2 _ rfl
  have pf0 := (B1.out.blk 0 (w.heap.size) _ rfl rfl).froz 0 _ rfl
  have pf1 := (B1.out.blk 0 (w.heap.size) _ rfl rfl).froz 1 _ rfl
  have pf2 := (B1.out.blk 0 (w.heap.size) _ rfl rfl).froz 2 _ rfl
  have kl := (B1.out.blk 1 (w.heap.size + 1) _ rfl rfl).lt
  have k0 := (B1.out.blk 1 (w.heap.size + 1) _ rfl rfl).cell 0 _ rfl
  have k1 := (B1.out.blk 1 (w.heap.size + 1) _ rfl rfl).cell 1 _ rfl
  have k2 := (B1.out.blk 1 (w.heap.size + 1) _ rfl rfl).cell 2 _ rfl
  have kf0 := (B1.out.blk 1 (w.heap.size + 1) _ rfl rfl).froz 0 _ rfl
  have kf1 := (B1.out.blk 1 (w.heap.size + 1) _ rfl rfl).froz 1 _ rfl
  have kf2 := (B1.out.blk 1 (w.heap.size + 1) _ rfl rfl).froz 2 _ rfl
  rcases hE with rfl | rfl
  all_goals
    go_wp2_with fail
    obtain ⟨w6, hw6, B5⟩ := B1.out.to3 1 (w.heap.size + 1) (.int .i64 0) (.bool false) (.bool false) rfl rfl
    rw [hw6]
    have yl := (B5.blk 1 (w.heap.size + 1) _ rfl rfl).lt
    have y0 := (B5.blk 1 (w.heap.size + 1) _ rfl rfl).cell 0 _ rfl
    have y1 := (B5.blk 1 (w.heap.size + 1) _ rfl rfl).cell 1 _ rfl
    have y2 := (B5.blk 1 (w.heap.size + 1) _ rfl rfl).cell 2 _ rfl
    refine bodyPost_ret (by simp [results, Try.results7, go_sem, y0, y1, y2]; try rfl) rfl ?_
    exact ⟨rfl, B5.bel⟩

set_option maxHeartbeats 4000000 in
theorem rtested_bad (m : Int) (p g on : Bool) (E : Int) (w : World) (h : mE m p g = E) (hE : E = 1 ∨ E = 4) : Calls Try.prog 10 #[.agg #[.int .i64 m, .bool p, .bool g], .bool on] w fun r w' => r = .returned (.tuple #[.agg #[.int .i64 0, .bool false, .bool false], .int .i64 E]) ∧ Below w.heap.size w w' := by
  obtain ⟨W0, hW0, B0', Z0'⟩ := lay2n w #[.int .i64 m, .bool p, .bool g] #[.int .i64 0, .bool false, .bool false] 23 23
  have HW : Hid (_) := hW0
  have B0 : Hid (_) := B0'
  have CK : Hid (_) := fun W => rmodeErr_any m p g W
  rw [h] at CK
  clear hW0 B0' Z0' h
  go_enter Try.func10, Try.ntmps10
  go_wp2_with fail
  rw [HW.out]
  clear HW
  refine (CK.out _).mono ?_
  rintro r w1 ⟨rfl, hb⟩
  have B1 : Hid (_) := B0.out.step hb
  clear hb B0 CK
  have pl := (B1.out.blk 0 (w.heap.size) _ rfl rfl).lt
  have p0 := (B1.out.blk 0 (w.heap.size) _ rfl rfl).cell 0 _ rfl
  have p1 := (B1.out.blk 0 (w.heap.size) _ rfl rfl).cell 1 _ rfl
  have p2 := (B1.out.blk 0 (w.heap.size) _ rfl rfl).cell 2 _ rfl
  have pf0 := (B1.out.blk 0 (w.heap.size) _ rfl rfl).froz 0 _ rfl
  have pf1 := (B1.out.blk 0 (w.heap.size) _ rfl rfl).froz 1 _ rfl
  have pf2 := (B1.out.blk 0 (w.heap.size) _ rfl rfl).froz 2 _ rfl
  have kl := (B1.out.blk 1 (w.heap.size + 1) _ rfl rfl).lt
  have k0 := (B1.out.blk 1 (w.heap.size + 1) _ rfl rfl).cell 0 _ rfl
  have k1 := (B1.out.blk 1 (w.heap.size + 1) _ rfl rfl).cell 1 _ rfl
  have k2 := (B1.out.blk 1 (w.heap.size + 1) _ rfl rfl).cell 2 _ rfl
  have kf0 := (B1.out.blk 1 (w.heap.size + 1) _ rfl rfl).froz 0 _ rfl
  have kf1 := (B1.out.blk 1 (w.heap.size + 1) _ rfl rfl).froz 1 _ rfl
  have kf2 := (B1.out.blk 1 (w.heap.size + 1) _ rfl rfl).froz 2 _ rfl
  rcases hE with rfl | rfl
  all_goals
    go_wp2_with fail
    obtain ⟨w6, hw6, B5⟩ := B1.out.to3 1 (w.heap.size + 1) (.int .i64 0) (.bool false) (.bool false) rfl rfl
    rw [hw6]
    have yl := (B5.blk 1 (w.heap.size + 1) _ rfl rfl).lt
    have y0 := (B5.blk 1 (w.heap.size + 1) _ rfl rfl).cell 0 _ rfl
    have y1 := (B5.blk 1 (w.heap.size + 1) _ rfl rfl).cell 1 _ rfl
    have y2 := (B5.blk 1 (w.heap.size + 1) _ rfl rfl).cell 2 _ rfl
    refine bodyPost_ret (by simp [results, Try.results10, go_sem, y0, y1, y2]; try rfl) rfl ?_
    exact ⟨rfl, B5.bel⟩

set_option maxHeartbeats 4000000 in
theorem rask_arg (m : Int) (p g : Bool) (x : Int) (w : World) (h : mE m p g = 0) (hx : x < 1 ∨ ¬ x < 1 ∧ 3 < x) : Calls Try.prog 7 #[.agg #[.int .i64 m, .bool p, .bool g], .int .i64 x] w fun r w' => r = .returned (.tuple #[.agg #[.int .i64 0, .bool false, .bool false], .int .i64 1]) ∧ Below w.heap.size w w' := by
  obtain ⟨W0, hW0, B0', Z0'⟩ := lay2n w #[.int .i64 m, .bool p, .bool g] #[.int .i64 0, .bool false, .bool false] 23 23
  have HW : Hid (_) := hW0
  have B0 : Hid (_) := B0'
  have CK : Hid (_) := fun W => rmodeErr_any m p g W
  rw [h] at CK
  clear hW0 B0' Z0' h
  go_enter Try.func7, Try.ntmps7
  go_wp2_with fail
  rw [HW.out]
  clear HW
  refine (CK.out _).mono ?_
  rintro r w1 ⟨rfl, hb⟩
  have B1 : Hid (_) := B0.out.step hb
  clear hb B0 CK
  have pl := (B1.out.blk 0 (w.heap.size) _ rfl rfl).lt
  have p0 := (B1.out.blk 0 (w.heap.size) _ rfl rfl).cell 0 _ rfl
  have p1 := (B1.out.blk 0 (w.heap.size) _ rfl rfl).cell 1 _ rfl
  have p2 := (B1.out.blk 0 (w.heap.size) _ rfl rfl).cell 2 _ rfl
  have pf0 := (B1.out.blk 0 (w.heap.size) _ rfl rfl).froz 0 _ rfl
  have pf1 := (B1.out.blk 0 (w.heap.size) _ rfl rfl).froz 1 _ rfl
  have pf2 := (B1.out.blk 0 (w.heap.size) _ rfl rfl).froz 2 _ rfl
  have kl := (B1.out.blk 1 (w.heap.size + 1) _ rfl rfl).lt
  have k0 := (B1.out.blk 1 (w.heap.size + 1) _ rfl rfl).cell 0 _ rfl
  have k1 := (B1.out.blk 1 (w.heap.size + 1) _ rfl rfl).cell 1 _ rfl
  have k2 := (B1.out.blk 1 (w.heap.size + 1) _ rfl rfl).cell 2 _ rfl
  have kf0 := (B1.out.blk 1 (w.heap.size + 1) _ rfl rfl).froz 0 _ rfl
  have kf1 := (B1.out.blk 1 (w.heap.size + 1) _ rfl rfl).froz 1 _ rfl
  have kf2 := (B1.out.blk 1 (w.heap.size + 1) _ rfl rfl).froz 2 _ rfl
  rcases hx with hx | ⟨hx, hx2⟩
  all_goals
    go_wp2_with fail
    obtain ⟨w6, hw6, B5⟩ := B1.out.to3 1 (w.heap.size + 1) (.int .i64 0) (.bool false) (.bool false) rfl rfl
    rw [hw6]
    have yl := (B5.blk 1 (w.heap.size + 1) _ rfl rfl).lt
    have y0 := (B5.blk 1 (w.heap.size + 1) _ rfl rfl).cell 0 _ rfl
    have y1 := (B5.blk 1 (w.heap.size + 1) _ rfl rfl).cell 1 _ rfl
    have y2 := (B5.blk 1 (w.heap.size + 1) _ rfl rfl).cell 2 _ rfl
    refine bodyPost_ret (by simp [results, Try.results7, go_sem, y0, y1, y2]; try rfl) rfl ?_
    exact ⟨rfl, B5.bel⟩

set_option maxHeartbeats 4000000 in
theorem rask_same (m : Int) (p g : Bool) (w : World) (h : mE m p g = 0) (h1 : ¬ m < 1) (h2 : ¬ 3 < m) : Calls Try.prog 7 #[.agg #[.int .i64 m, .bool p, .bool g], .int .i64 m] w fun r w' => r = .returned (.tuple #[.agg #[.int .i64 m, .bool p, .bool g], .int .i64 0]) ∧ Below w.heap.size w w' := by
  obtain ⟨W0, hW0, B0', Z0'⟩ := lay2n w #[.int .i64 m, .bool p, .bool g] #[.int .i64 0, .bool false, .bool false] 23 23
  have HW : Hid (_) := hW0
  have B0 : Hid (_) := B0'
  have CK : Hid (_) := fun W => rmodeErr_any m p g W
  rw [h] at CK
  clear hW0 B0' Z0' h
  go_enter Try.func7, Try.ntmps7
  go_wp2_with fail
  rw [HW.out]
  clear HW
  refine (CK.out _).mono ?_
  rintro r w1 ⟨rfl, hb⟩
  have B1 : Hid (_) := B0.out.step hb
  clear hb B0 CK
  have pl := (B1.out.blk 0 (w.heap.size) _ rfl rfl).lt
  have p0 := (B1.out.blk 0 (w.heap.size) _ rfl rfl).cell 0 _ rfl
  have p1 := (B1.out.blk 0 (w.heap.size) _ rfl rfl).cell 1 _ rfl
  have p2 := (B1.out.blk 0 (w.heap.size) _ rfl rfl).cell 2 _ rfl
  have pf0 := (B1.out.blk 0 (w.heap.size) _ rfl rfl).froz 0 _ rfl
  have pf1 := (B1.out.blk 0 (w.heap.size) _ rfl rfl).froz 1 _ rfl
  have pf2 := (B1.out.blk 0 (w.heap.size) _ rfl rfl).froz 2 _ rfl
  have kl := (B1.out.blk 1 (w.heap.size + 1) _ rfl rfl).lt
  have k0 := (B1.out.blk 1 (w.heap.size + 1) _ rfl rfl).cell 0 _ rfl
  have k1 := (B1.out.blk 1 (w.heap.size + 1) _ rfl rfl).cell 1 _ rfl
  have k2 := (B1.out.blk 1 (w.heap.size + 1) _ rfl rfl).cell 2 _ rfl
  have kf0 := (B1.out.blk 1 (w.heap.size + 1) _ rfl rfl).froz 0 _ rfl
  have kf1 := (B1.out.blk 1 (w.heap.size + 1) _ rfl rfl).froz 1 _ rfl
  have kf2 := (B1.out.blk 1 (w.heap.size + 1) _ rfl rfl).froz 2 _ rfl
  go_wp2_with fail
  obtain ⟨w6, hw6, B5⟩ := B1.out.to3 1 (w.heap.size + 1) (.int .i64 m) (.bool p) (.bool g) rfl rfl
  rw [hw6]
  have yl := (B5.blk 1 (w.heap.size + 1) _ rfl rfl).lt
  have y0 := (B5.blk 1 (w.heap.size + 1) _ rfl rfl).cell 0 _ rfl
  have y1 := (B5.blk 1 (w.heap.size + 1) _ rfl rfl).cell 1 _ rfl
  have y2 := (B5.blk 1 (w.heap.size + 1) _ rfl rfl).cell 2 _ rfl
  refine bodyPost_ret (by simp [results, Try.results7, go_sem, y0, y1, y2]; try rfl) rfl ?_
  exact ⟨rfl, B5.bel⟩

set_option maxHeartbeats 4000000 in
theorem rask_no (m : Int) (p g : Bool) (x : Int) (w : World) (h : mE m p g = 0) (hx : ¬ x = m ∧ (x = 2 ∧ (¬ m = 1 ∨ m = 1 ∧ p = false) ∨ x = 1 ∧ g = false ∨ x = 3 ∧ g = false)) : Calls Try.prog 7 #[.agg #[.int .i64 m, .bool p, .bool g], .int .i64 x] w fun r w' => r = .returned (.tuple #[.agg #[.int .i64 0, .bool false, .bool false], .int .i64 8]) ∧ Below w.heap.size w w' := by
  obtain ⟨W0, hW0, B0', Z0'⟩ := lay2n w #[.int .i64 m, .bool p, .bool g] #[.int .i64 0, .bool false, .bool false] 23 23
  have HW : Hid (_) := hW0
  have B0 : Hid (_) := B0'
  have CK : Hid (_) := fun W => rmodeErr_any m p g W
  rw [h] at CK
  clear hW0 B0' Z0' h
  go_enter Try.func7, Try.ntmps7
  go_wp2_with fail
  rw [HW.out]
  clear HW
  refine (CK.out _).mono ?_
  rintro r w1 ⟨rfl, hb⟩
  have B1 : Hid (_) := B0.out.step hb
  clear hb B0 CK
  have pl := (B1.out.blk 0 (w.heap.size) _ rfl rfl).lt
  have p0 := (B1.out.blk 0 (w.heap.size) _ rfl rfl).cell 0 _ rfl
  have p1 := (B1.out.blk 0 (w.heap.size) _ rfl rfl).cell 1 _ rfl
  have p2 := (B1.out.blk 0 (w.heap.size) _ rfl rfl).cell 2 _ rfl
  have pf0 := (B1.out.blk 0 (w.heap.size) _ rfl rfl).froz 0 _ rfl
  have pf1 := (B1.out.blk 0 (w.heap.size) _ rfl rfl).froz 1 _ rfl
  have pf2 := (B1.out.blk 0 (w.heap.size) _ rfl rfl).froz 2 _ rfl
  have kl := (B1.out.blk 1 (w.heap.size + 1) _ rfl rfl).lt
  have k0 := (B1.out.blk 1 (w.heap.size + 1) _ rfl rfl).cell 0 _ rfl
  have k1 := (B1.out.blk 1 (w.heap.size + 1) _ rfl rfl).cell 1 _ rfl
  have k2 := (B1.out.blk 1 (w.heap.size + 1) _ rfl rfl).cell 2 _ rfl
  have kf0 := (B1.out.blk 1 (w.heap.size + 1) _ rfl rfl).froz 0 _ rfl
  have kf1 := (B1.out.blk 1 (w.heap.size + 1) _ rfl rfl).froz 1 _ rfl
  have kf2 := (B1.out.blk 1 (w.heap.size + 1) _ rfl rfl).froz 2 _ rfl
  obtain ⟨hne, hx⟩ := hx
  rcases hx with ⟨rfl, hx | ⟨rfl, rfl⟩⟩ | ⟨rfl, rfl⟩ | ⟨rfl, rfl⟩
  all_goals
    go_wp2_with fail
    obtain ⟨w6, hw6, B5⟩ := B1.out.to3 1 (w.heap.size + 1) (.int .i64 0) (.bool false) (.bool false) rfl rfl
    rw [hw6]
    have yl := (B5.blk 1 (w.heap.size + 1) _ rfl rfl).lt
    have y0 := (B5.blk 1 (w.heap.size + 1) _ rfl rfl).cell 0 _ rfl
    have y1 := (B5.blk 1 (w.heap.size + 1) _ rfl rfl).cell 1 _ rfl
    have y2 := (B5.blk 1 (w.heap.size + 1) _ rfl rfl).cell 2 _ rfl
    refine bodyPost_ret (by simp [results, Try.results7, go_sem, y0, y1, y2]; try rfl) rfl ?_
    exact ⟨rfl, B5.bel⟩

set_option maxHeartbeats 4000000 in
theorem rask_ok (m : Int) (p g : Bool) (x : Int) (P : Bool) (w : World) (h : mE m p g = 0) (hx : ¬ x = m ∧ (x = 2 ∧ m = 1 ∧ p = true ∧ P = true ∨ x = 1 ∧ g = true ∧ P = p ∨ x = 3 ∧ g = true ∧ P = false)) : Calls Try.prog 7 #[.agg #[.int .i64 m, .bool p, .bool g], .int .i64 x] w fun r w' => r = .returned (.tuple #[.agg #[.int .i64 x, .bool P, .bool g], .int .i64 0]) ∧ Below w.heap.size w w' := by
  obtain ⟨W0, hW0, B0', Z0'⟩ := lay2n w #[.int .i64 m, .bool p, .bool g] #[.int .i64 0, .bool false, .bool false] 23 23
  have HW : Hid (_) := hW0
  have B0 : Hid (_) := B0'
  have CK : Hid (_) := fun W => rmodeErr_any m p g W
  rw [h] at CK
  clear hW0 B0' Z0' h
  go_enter Try.func7, Try.ntmps7
  go_wp2_with fail
  rw [HW.out]
  clear HW
  refine (CK.out _).mono ?_
  rintro r w1 ⟨rfl, hb⟩
  have B1 : Hid (_) := B0.out.step hb
  clear hb B0 CK
  have pl := (B1.out.blk 0 (w.heap.size) _ rfl rfl).lt
  have p0 := (B1.out.blk 0 (w.heap.size) _ rfl rfl).cell 0 _ rfl
  have p1 := (B1.out.blk 0 (w.heap.size) _ rfl rfl).cell 1 _ rfl
  have p2 := (B1.out.blk 0 (w.heap.size) _ rfl rfl).cell 2 _ rfl
  have pf0 := (B1.out.blk 0 (w.heap.size) _ rfl rfl).froz 0 _ rfl
  have pf1 := (B1.out.blk 0 (w.heap.size) _ rfl rfl).froz 1 _ rfl
  have pf2 := (B1.out.blk 0 (w.heap.size) _ rfl rfl).froz 2 _ rfl
  have kl := (B1.out.blk 1 (w.heap.size + 1) _ rfl rfl).lt
  have k0 := (B1.out.blk 1 (w.heap.size + 1) _ rfl rfl).cell 0 _ rfl
  have k1 := (B1.out.blk 1 (w.heap.size + 1) _ rfl rfl).cell 1 _ rfl
  have k2 := (B1.out.blk 1 (w.heap.size + 1) _ rfl rfl).cell 2 _ rfl
  have kf0 := (B1.out.blk 1 (w.heap.size + 1) _ rfl rfl).froz 0 _ rfl
  have kf1 := (B1.out.blk 1 (w.heap.size + 1) _ rfl rfl).froz 1 _ rfl
  have kf2 := (B1.out.blk 1 (w.heap.size + 1) _ rfl rfl).froz 2 _ rfl
  obtain ⟨hne, hx⟩ := hx
  rcases hx with ⟨rfl, rfl, rfl, rfl⟩ | ⟨rfl, rfl, rfl⟩ | ⟨rfl, rfl, rfl⟩
  · go_wp2_with fail
    obtain ⟨w6, hw6, B5⟩ := B1.out.to3 1 (w.heap.size + 1) (.int .i64 2) (.bool true) (.bool g) rfl rfl
    rw [hw6]
    have yl := (B5.blk 1 (w.heap.size + 1) _ rfl rfl).lt
    have y0 := (B5.blk 1 (w.heap.size + 1) _ rfl rfl).cell 0 _ rfl
    have y1 := (B5.blk 1 (w.heap.size + 1) _ rfl rfl).cell 1 _ rfl
    have y2 := (B5.blk 1 (w.heap.size + 1) _ rfl rfl).cell 2 _ rfl
    refine bodyPost_ret (by simp [results, Try.results7, go_sem, y0, y1, y2]; try rfl) rfl ?_
    exact ⟨rfl, B5.bel⟩
  · cases P
    all_goals
      go_wp2_with fail
      obtain ⟨w6, hw6, B5⟩ := B1.out.to3 1 (w.heap.size + 1) (.int .i64 1) (.bool _) (.bool true) rfl rfl
      rw [hw6]
      have yl := (B5.blk 1 (w.heap.size + 1) _ rfl rfl).lt
      have y0 := (B5.blk 1 (w.heap.size + 1) _ rfl rfl).cell 0 _ rfl
      have y1 := (B5.blk 1 (w.heap.size + 1) _ rfl rfl).cell 1 _ rfl
      have y2 := (B5.blk 1 (w.heap.size + 1) _ rfl rfl).cell 2 _ rfl
      refine bodyPost_ret (by simp [results, Try.results7, go_sem, y0, y1, y2]; try rfl) rfl ?_
      exact ⟨rfl, B5.bel⟩
  · cases p
    all_goals
      go_wp2_with fail
      obtain ⟨w6, hw6, B5⟩ := B1.out.to3 1 (w.heap.size + 1) (.int .i64 3) (.bool false) (.bool true) rfl rfl
      rw [hw6]
      have yl := (B5.blk 1 (w.heap.size + 1) _ rfl rfl).lt
      have y0 := (B5.blk 1 (w.heap.size + 1) _ rfl rfl).cell 0 _ rfl
      have y1 := (B5.blk 1 (w.heap.size + 1) _ rfl rfl).cell 1 _ rfl
      have y2 := (B5.blk 1 (w.heap.size + 1) _ rfl rfl).cell 2 _ rfl
      refine bodyPost_ret (by simp [results, Try.results7, go_sem, y0, y1, y2]; try rfl) rfl ?_
      exact ⟨rfl, B5.bel⟩

set_option maxHeartbeats 4000000 in
theorem rtested_no (m : Int) (p g on : Bool) (w : World) (h : mE m p g = 0) (hn : ¬ m = 1 ∨ m = 1 ∧ g = false) : Calls Try.prog 10 #[.agg #[.int .i64 m, .bool p, .bool g], .bool on] w fun r w' => r = .returned (.tuple #[.agg #[.int .i64 0, .bool false, .bool false], .int .i64 8]) ∧ Below w.heap.size w w' := by
  obtain ⟨W0, hW0, B0', Z0'⟩ := lay2n w #[.int .i64 m, .bool p, .bool g] #[.int .i64 0, .bool false, .bool false] 23 23
  have HW : Hid (_) := hW0
  have B0 : Hid (_) := B0'
  have CK : Hid (_) := fun W => rmodeErr_any m p g W
  rw [h] at CK
  clear hW0 B0' Z0' h
  go_enter Try.func10, Try.ntmps10
  go_wp2_with fail
  rw [HW.out]
  clear HW
  refine (CK.out _).mono ?_
  rintro r w1 ⟨rfl, hb⟩
  have B1 : Hid (_) := B0.out.step hb
  clear hb B0 CK
  have pl := (B1.out.blk 0 (w.heap.size) _ rfl rfl).lt
  have p0 := (B1.out.blk 0 (w.heap.size) _ rfl rfl).cell 0 _ rfl
  have p1 := (B1.out.blk 0 (w.heap.size) _ rfl rfl).cell 1 _ rfl
  have p2 := (B1.out.blk 0 (w.heap.size) _ rfl rfl).cell 2 _ rfl
  have pf0 := (B1.out.blk 0 (w.heap.size) _ rfl rfl).froz 0 _ rfl
  have pf1 := (B1.out.blk 0 (w.heap.size) _ rfl rfl).froz 1 _ rfl
  have pf2 := (B1.out.blk 0 (w.heap.size) _ rfl rfl).froz 2 _ rfl
  have kl := (B1.out.blk 1 (w.heap.size + 1) _ rfl rfl).lt
  have k0 := (B1.out.blk 1 (w.heap.size + 1) _ rfl rfl).cell 0 _ rfl
  have k1 := (B1.out.blk 1 (w.heap.size + 1) _ rfl rfl).cell 1 _ rfl
  have k2 := (B1.out.blk 1 (w.heap.size + 1) _ rfl rfl).cell 2 _ rfl
  have kf0 := (B1.out.blk 1 (w.heap.size + 1) _ rfl rfl).froz 0 _ rfl
  have kf1 := (B1.out.blk 1 (w.heap.size + 1) _ rfl rfl).froz 1 _ rfl
  have kf2 := (B1.out.blk 1 (w.heap.size + 1) _ rfl rfl).froz 2 _ rfl
  rcases hn with hn | ⟨rfl, rfl⟩
  all_goals
    go_wp2_with fail
    obtain ⟨w6, hw6, B5⟩ := B1.out.to3 1 (w.heap.size + 1) (.int .i64 0) (.bool false) (.bool false) rfl rfl
    rw [hw6]
    have yl := (B5.blk 1 (w.heap.size + 1) _ rfl rfl).lt
    have y0 := (B5.blk 1 (w.heap.size + 1) _ rfl rfl).cell 0 _ rfl
    have y1 := (B5.blk 1 (w.heap.size + 1) _ rfl rfl).cell 1 _ rfl
    have y2 := (B5.blk 1 (w.heap.size + 1) _ rfl rfl).cell 2 _ rfl
    refine bodyPost_ret (by simp [results, Try.results10, go_sem, y0, y1, y2]; try rfl) rfl ?_
    exact ⟨rfl, B5.bel⟩

set_option maxHeartbeats 4000000 in
theorem rtested_ok (p on : Bool) (w : World) (h : mE 1 p true = 0) : Calls Try.prog 10 #[.agg #[.int .i64 1, .bool p, .bool true], .bool on] w fun r w' => r = .returned (.tuple #[.agg #[.int .i64 1, .bool on, .bool true], .int .i64 0]) ∧ Below w.heap.size w w' := by
  obtain ⟨W0, hW0, B0', Z0'⟩ := lay2n w #[.int .i64 1, .bool p, .bool true] #[.int .i64 0, .bool false, .bool false] 23 23
  have HW : Hid (_) := hW0
  have B0 : Hid (_) := B0'
  have CK : Hid (_) := fun W => rmodeErr_any 1 p true W
  rw [h] at CK
  clear hW0 B0' Z0' h
  go_enter Try.func10, Try.ntmps10
  go_wp2_with fail
  rw [HW.out]
  clear HW
  refine (CK.out _).mono ?_
  rintro r w1 ⟨rfl, hb⟩
  have B1 : Hid (_) := B0.out.step hb
  clear hb B0 CK
  have pl := (B1.out.blk 0 (w.heap.size) _ rfl rfl).lt
  have p0 := (B1.out.blk 0 (w.heap.size) _ rfl rfl).cell 0 _ rfl
  have p1 := (B1.out.blk 0 (w.heap.size) _ rfl rfl).cell 1 _ rfl
  have p2 := (B1.out.blk 0 (w.heap.size) _ rfl rfl).cell 2 _ rfl
  have pf0 := (B1.out.blk 0 (w.heap.size) _ rfl rfl).froz 0 _ rfl
  have pf1 := (B1.out.blk 0 (w.heap.size) _ rfl rfl).froz 1 _ rfl
  have pf2 := (B1.out.blk 0 (w.heap.size) _ rfl rfl).froz 2 _ rfl
  have kl := (B1.out.blk 1 (w.heap.size + 1) _ rfl rfl).lt
  have k0 := (B1.out.blk 1 (w.heap.size + 1) _ rfl rfl).cell 0 _ rfl
  have k1 := (B1.out.blk 1 (w.heap.size + 1) _ rfl rfl).cell 1 _ rfl
  have k2 := (B1.out.blk 1 (w.heap.size + 1) _ rfl rfl).cell 2 _ rfl
  have kf0 := (B1.out.blk 1 (w.heap.size + 1) _ rfl rfl).froz 0 _ rfl
  have kf1 := (B1.out.blk 1 (w.heap.size + 1) _ rfl rfl).froz 1 _ rfl
  have kf2 := (B1.out.blk 1 (w.heap.size + 1) _ rfl rfl).froz 2 _ rfl
  go_wp2_with fail
  obtain ⟨w4, hw4, B3, _⟩ := B1.out.put1 0 (w.heap.size) 1 [.int .i64 1, .bool p, .bool true] (.bool on) rfl rfl (by simp)
  rw [hw4]
  obtain ⟨w6, hw6, B5⟩ := B3.to3 1 (w.heap.size + 1) (.int .i64 1) (.bool on) (.bool true) rfl rfl
  rw [hw6]
  have yl := (B5.blk 1 (w.heap.size + 1) _ rfl rfl).lt
  have y0 := (B5.blk 1 (w.heap.size + 1) _ rfl rfl).cell 0 _ rfl
  have y1 := (B5.blk 1 (w.heap.size + 1) _ rfl rfl).cell 1 _ rfl
  have y2 := (B5.blk 1 (w.heap.size + 1) _ rfl rfl).cell 2 _ rfl
  refine bodyPost_ret (by simp [results, Try.results10, go_sem, y0, y1, y2]; try rfl) rfl ?_
  exact ⟨rfl, B5.bel⟩

set_option maxHeartbeats 4000000 in
theorem ronGround_any (m : Int) (p g on : Bool) (M : Int) (w : World) (hM : m = 3 ∧ on = false ∧ M = 1 ∨ m = 3 ∧ on = true ∧ M = 3 ∨ ¬ m = 3 ∧ M = m) : Calls Try.prog 11 #[.agg #[.int .i64 m, .bool p, .bool g], .bool on] w fun r w' => r = .returned (.agg #[.int .i64 M, .bool p, .bool on]) ∧ Below w.heap.size w w' := by
  go_enter Try.func11, Try.ntmps11
  rcases hM with ⟨rfl, rfl, rfl⟩ | ⟨rfl, rfl, rfl⟩ | ⟨h3, rfl⟩
  · go_wp2_with fail
    have B5 := lay2 w #[.int .i64 1, .bool p, .bool false] #[.int .i64 1, .bool p, .bool false] 23 23
    have yl := (B5.blk 1 (w.heap.size + 1) _ rfl rfl).lt
    have y0 := (B5.blk 1 (w.heap.size + 1) _ rfl rfl).cell 0 _ rfl
    have y1 := (B5.blk 1 (w.heap.size + 1) _ rfl rfl).cell 1 _ rfl
    have y2 := (B5.blk 1 (w.heap.size + 1) _ rfl rfl).cell 2 _ rfl
    refine bodyPost_ret (by simp [results, Try.results11, go_sem, y0, y1, y2]; try rfl) rfl ?_
    exact ⟨rfl, B5.bel⟩
  · go_wp2_with fail
    have B5 := lay2 w #[.int .i64 3, .bool p, .bool true] #[.int .i64 3, .bool p, .bool true] 23 23
    have yl := (B5.blk 1 (w.heap.size + 1) _ rfl rfl).lt
    have y0 := (B5.blk 1 (w.heap.size + 1) _ rfl rfl).cell 0 _ rfl
    have y1 := (B5.blk 1 (w.heap.size + 1) _ rfl rfl).cell 1 _ rfl
    have y2 := (B5.blk 1 (w.heap.size + 1) _ rfl rfl).cell 2 _ rfl
    refine bodyPost_ret (by simp [results, Try.results11, go_sem, y0, y1, y2]; try rfl) rfl ?_
    exact ⟨rfl, B5.bel⟩
  · go_wp2_with fail
    have B5 := lay2 w #[.int .i64 M, .bool p, .bool on] #[.int .i64 M, .bool p, .bool on] 23 23
    have yl := (B5.blk 1 (w.heap.size + 1) _ rfl rfl).lt
    have y0 := (B5.blk 1 (w.heap.size + 1) _ rfl rfl).cell 0 _ rfl
    have y1 := (B5.blk 1 (w.heap.size + 1) _ rfl rfl).cell 1 _ rfl
    have y2 := (B5.blk 1 (w.heap.size + 1) _ rfl rfl).cell 2 _ rfl
    refine bodyPost_ret (by simp [results, Try.results11, go_sem, y0, y1, y2]; try rfl) rfl ?_
    exact ⟨rfl, B5.bel⟩

end Go.Proofs.Ytefbccfnlelogaa
