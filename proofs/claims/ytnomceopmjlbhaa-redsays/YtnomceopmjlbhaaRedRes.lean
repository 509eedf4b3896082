/-
  Contracts of red.Reset and red.Rest over letters. Of the memory that was there nothing turns.
-/
import Derived.Test.YtnomceopmjlbhaaRedPln
namespace Go.Proofs.Ytnomceopmjlbhaa
open Go.RowKit
set_option linter.unusedVariables false

set_option maxHeartbeats 8000000 in
set_option maxRecDepth 100000 in
theorem rreset_bad (t : Nat → St) (k : Int) (g : Bool) (E : Int) (w : World) (CK : Hid (∀ W, Calls Try.prog 11 #[.agg #[.int .i64 (t 0).m, .bool (t 0).f, .int .i64 (t 0).n, .int .i64 (t 1).m, .bool (t 1).f, .int .i64 (t 1).n, .int .i64 (t 2).m, .bool (t 2).f, .int .i64 (t 2).n, .int .i64 (t 3).m, .bool (t 3).f, .int .i64 (t 3).n]] W fun r w' => r = .returned (.int .i64 E) ∧ Below W.heap.size W w')) (hE : E = 1 ∨ E = 4) :
    Calls Try.prog 9 #[.agg #[.int .i64 (t 0).m, .bool (t 0).f, .int .i64 (t 0).n, .int .i64 (t 1).m, .bool (t 1).f, .int .i64 (t 1).n, .int .i64 (t 2).m, .bool (t 2).f, .int .i64 (t 2).n, .int .i64 (t 3).m, .bool (t 3).f, .int .i64 (t 3).n], .int .i64 k, .bool g] w fun r w' => r = .returned (.tuple #[.agg #[.int .i64 0, .bool false, .int .i64 0, .int .i64 0, .bool false, .int .i64 0, .int .i64 0, .bool false, .int .i64 0, .int .i64 0, .bool false, .int .i64 0], .int .i64 E]) ∧ Below w.heap.size w w' := by
  have B0 : Hid (_) := bxs_two w #[.int .i64 (t 0).m, .bool (t 0).f, .int .i64 (t 0).n, .int .i64 (t 1).m, .bool (t 1).f, .int .i64 (t 1).n, .int .i64 (t 2).m, .bool (t 2).f, .int .i64 (t 2).n, .int .i64 (t 3).m, .bool (t 3).f, .int .i64 (t 3).n] #[.int .i64 0, .bool false, .int .i64 0, .int .i64 0, .bool false, .int .i64 0, .int .i64 0, .bool false, .int .i64 0, .int .i64 0, .bool false, .int .i64 0] 25 25
  go_enter Try.func9, Try.ntmps9
  go_wp2_with fail
  refine (CK.out _).mono ?_
  rintro r w1 ⟨rfl, hb⟩
  have B1 : Hid (_) := B0.out.step hb
  clear hb B0 CK
  have cl := (B1.out.box 1 _ _ rfl).lt
  have c0 := (B1.out.box 1 _ _ rfl).cell 0 _ rfl
  have c1 := (B1.out.box 1 _ _ rfl).cell 1 _ rfl
  have c2 := (B1.out.box 1 _ _ rfl).cell 2 _ rfl
  have c3 := (B1.out.box 1 _ _ rfl).cell 3 _ rfl
  have c4 := (B1.out.box 1 _ _ rfl).cell 4 _ rfl
  have c5 := (B1.out.box 1 _ _ rfl).cell 5 _ rfl
  have c6 := (B1.out.box 1 _ _ rfl).cell 6 _ rfl
  have c7 := (B1.out.box 1 _ _ rfl).cell 7 _ rfl
  have c8 := (B1.out.box 1 _ _ rfl).cell 8 _ rfl
  have c9 := (B1.out.box 1 _ _ rfl).cell 9 _ rfl
  have c10 := (B1.out.box 1 _ _ rfl).cell 10 _ rfl
  have c11 := (B1.out.box 1 _ _ rfl).cell 11 _ rfl
  have cf0 := (B1.out.box 1 _ _ rfl).froz 0 _ rfl
  have cf1 := (B1.out.box 1 _ _ rfl).froz 1 _ rfl
  have cf2 := (B1.out.box 1 _ _ rfl).froz 2 _ rfl
  have cf3 := (B1.out.box 1 _ _ rfl).froz 3 _ rfl
  have cf4 := (B1.out.box 1 _ _ rfl).froz 4 _ rfl
  have cf5 := (B1.out.box 1 _ _ rfl).froz 5 _ rfl
  have cf6 := (B1.out.box 1 _ _ rfl).froz 6 _ rfl
  have cf7 := (B1.out.box 1 _ _ rfl).froz 7 _ rfl
  have cf8 := (B1.out.box 1 _ _ rfl).froz 8 _ rfl
  have cf9 := (B1.out.box 1 _ _ rfl).froz 9 _ rfl
  have cf10 := (B1.out.box 1 _ _ rfl).froz 10 _ rfl
  have cf11 := (B1.out.box 1 _ _ rfl).froz 11 _ rfl
  rcases hE with rfl | rfl
  all_goals
    go_wp2_with fail
    obtain ⟨w3, hw3, B3⟩ := B1.out.teamZ 1 _ _ rfl rfl
    rw [hw3]
    have yl := (B3.box 1 _ _ rfl).lt
    have y0 := (B3.box 1 _ _ rfl).cell 0 _ rfl
    have y1 := (B3.box 1 _ _ rfl).cell 1 _ rfl
    have y2 := (B3.box 1 _ _ rfl).cell 2 _ rfl
    have y3 := (B3.box 1 _ _ rfl).cell 3 _ rfl
    have y4 := (B3.box 1 _ _ rfl).cell 4 _ rfl
    have y5 := (B3.box 1 _ _ rfl).cell 5 _ rfl
    have y6 := (B3.box 1 _ _ rfl).cell 6 _ rfl
    have y7 := (B3.box 1 _ _ rfl).cell 7 _ rfl
    have y8 := (B3.box 1 _ _ rfl).cell 8 _ rfl
    have y9 := (B3.box 1 _ _ rfl).cell 9 _ rfl
    have y10 := (B3.box 1 _ _ rfl).cell 10 _ rfl
    have y11 := (B3.box 1 _ _ rfl).cell 11 _ rfl
    refine bodyPost_ret (by simp [results, Try.results9, go_sem, y0, y1, y2, y3, y4, y5, y6, y7, y8, y9, y10, y11]; try rfl) rfl ?_
    exact ⟨rfl, B3.bel⟩

set_option maxHeartbeats 8000000 in
set_option maxRecDepth 100000 in
theorem rreset_arg (t : Nat → St) (k : Int) (g : Bool) (w : World) (CK : Hid (∀ W, Calls Try.prog 11 #[.agg #[.int .i64 (t 0).m, .bool (t 0).f, .int .i64 (t 0).n, .int .i64 (t 1).m, .bool (t 1).f, .int .i64 (t 1).n, .int .i64 (t 2).m, .bool (t 2).f, .int .i64 (t 2).n, .int .i64 (t 3).m, .bool (t 3).f, .int .i64 (t 3).n]] W fun r w' => r = .returned (.int .i64 0) ∧ Below W.heap.size W w')) (hk : k < 0 ∨ (¬ k < 0 ∧ 4 ≤ k)) :
    Calls Try.prog 9 #[.agg #[.int .i64 (t 0).m, .bool (t 0).f, .int .i64 (t 0).n, .int .i64 (t 1).m, .bool (t 1).f, .int .i64 (t 1).n, .int .i64 (t 2).m, .bool (t 2).f, .int .i64 (t 2).n, .int .i64 (t 3).m, .bool (t 3).f, .int .i64 (t 3).n], .int .i64 k, .bool g] w fun r w' => r = .returned (.tuple #[.agg #[.int .i64 0, .bool false, .int .i64 0, .int .i64 0, .bool false, .int .i64 0, .int .i64 0, .bool false, .int .i64 0, .int .i64 0, .bool false, .int .i64 0], .int .i64 1]) ∧ Below w.heap.size w w' := by
  have B0 : Hid (_) := bxs_two w #[.int .i64 (t 0).m, .bool (t 0).f, .int .i64 (t 0).n, .int .i64 (t 1).m, .bool (t 1).f, .int .i64 (t 1).n, .int .i64 (t 2).m, .bool (t 2).f, .int .i64 (t 2).n, .int .i64 (t 3).m, .bool (t 3).f, .int .i64 (t 3).n] #[.int .i64 0, .bool false, .int .i64 0, .int .i64 0, .bool false, .int .i64 0, .int .i64 0, .bool false, .int .i64 0, .int .i64 0, .bool false, .int .i64 0] 25 25
  go_enter Try.func9, Try.ntmps9
  go_wp2_with fail
  refine (CK.out _).mono ?_
  rintro r w1 ⟨rfl, hb⟩
  have B1 : Hid (_) := B0.out.step hb
  clear hb B0 CK
  have cl := (B1.out.box 1 _ _ rfl).lt
  have c0 := (B1.out.box 1 _ _ rfl).cell 0 _ rfl
  have c1 := (B1.out.box 1 _ _ rfl).cell 1 _ rfl
  have c2 := (B1.out.box 1 _ _ rfl).cell 2 _ rfl
  have c3 := (B1.out.box 1 _ _ rfl).cell 3 _ rfl
  have c4 := (B1.out.box 1 _ _ rfl).cell 4 _ rfl
  have c5 := (B1.out.box 1 _ _ rfl).cell 5 _ rfl
  have c6 := (B1.out.box 1 _ _ rfl).cell 6 _ rfl
  have c7 := (B1.out.box 1 _ _ rfl).cell 7 _ rfl
  have c8 := (B1.out.box 1 _ _ rfl).cell 8 _ rfl
  have c9 := (B1.out.box 1 _ _ rfl).cell 9 _ rfl
  have c10 := (B1.out.box 1 _ _ rfl).cell 10 _ rfl
  have c11 := (B1.out.box 1 _ _ rfl).cell 11 _ rfl
  have cf0 := (B1.out.box 1 _ _ rfl).froz 0 _ rfl
  have cf1 := (B1.out.box 1 _ _ rfl).froz 1 _ rfl
  have cf2 := (B1.out.box 1 _ _ rfl).froz 2 _ rfl
  have cf3 := (B1.out.box 1 _ _ rfl).froz 3 _ rfl
  have cf4 := (B1.out.box 1 _ _ rfl).froz 4 _ rfl
  have cf5 := (B1.out.box 1 _ _ rfl).froz 5 _ rfl
  have cf6 := (B1.out.box 1 _ _ rfl).froz 6 _ rfl
  have cf7 := (B1.out.box 1 _ _ rfl).froz 7 _ rfl
  have cf8 := (B1.out.box 1 _ _ rfl).froz 8 _ rfl
  have cf9 := (B1.out.box 1 _ _ rfl).froz 9 _ rfl
  have cf10 := (B1.out.box 1 _ _ rfl).froz 10 _ rfl
  have cf11 := (B1.out.box 1 _ _ rfl).froz 11 _ rfl
  rcases hk with h1 | ⟨h1, h2⟩
  all_goals
    go_wp2_with fail
    obtain ⟨w3, hw3, B3⟩ := B1.out.teamZ 1 _ _ rfl rfl
    rw [hw3]
    have yl := (B3.box 1 _ _ rfl).lt
    have y0 := (B3.box 1 _ _ rfl).cell 0 _ rfl
    have y1 := (B3.box 1 _ _ rfl).cell 1 _ rfl
    have y2 := (B3.box 1 _ _ rfl).cell 2 _ rfl
    have y3 := (B3.box 1 _ _ rfl).cell 3 _ rfl
    have y4 := (B3.box 1 _ _ rfl).cell 4 _ rfl
    have y5 := (B3.box 1 _ _ rfl).cell 5 _ rfl
    have y6 := (B3.box 1 _ _ rfl).cell 6 _ rfl
    have y7 := (B3.box 1 _ _ rfl).cell 7 _ rfl
    have y8 := (B3.box 1 _ _ rfl).cell 8 _ rfl
    have y9 := (B3.box 1 _ _ rfl).cell 9 _ rfl
    have y10 := (B3.box 1 _ _ rfl).cell 10 _ rfl
    have y11 := (B3.box 1 _ _ rfl).cell 11 _ rfl
    refine bodyPost_ret (by simp [results, Try.results9, go_sem, y0, y1, y2, y3, y4, y5, y6, y7, y8, y9, y10, y11]; try rfl) rfl ?_
    exact ⟨rfl, B3.bel⟩

set_option maxHeartbeats 8000000 in
set_option maxRecDepth 100000 in
theorem rreset_mode (t : Nat → St) (k : Int) (w : World) (CK : Hid (∀ W, Calls Try.prog 11 #[.agg #[.int .i64 (t 0).m, .bool (t 0).f, .int .i64 (t 0).n, .int .i64 (t 1).m, .bool (t 1).f, .int .i64 (t 1).n, .int .i64 (t 2).m, .bool (t 2).f, .int .i64 (t 2).n, .int .i64 (t 3).m, .bool (t 3).f, .int .i64 (t 3).n]] W fun r w' => r = .returned (.int .i64 0) ∧ Below W.heap.size W w')) (h1 : ¬ k < 0) (h2 : ¬ 4 ≤ k) :
    Calls Try.prog 9 #[.agg #[.int .i64 (t 0).m, .bool (t 0).f, .int .i64 (t 0).n, .int .i64 (t 1).m, .bool (t 1).f, .int .i64 (t 1).n, .int .i64 (t 2).m, .bool (t 2).f, .int .i64 (t 2).n, .int .i64 (t 3).m, .bool (t 3).f, .int .i64 (t 3).n], .int .i64 k, .bool false] w fun r w' => r = .returned (.tuple #[.agg #[.int .i64 0, .bool false, .int .i64 0, .int .i64 0, .bool false, .int .i64 0, .int .i64 0, .bool false, .int .i64 0, .int .i64 0, .bool false, .int .i64 0], .int .i64 8]) ∧ Below w.heap.size w w' := by
  have B0 : Hid (_) := bxs_two w #[.int .i64 (t 0).m, .bool (t 0).f, .int .i64 (t 0).n, .int .i64 (t 1).m, .bool (t 1).f, .int .i64 (t 1).n, .int .i64 (t 2).m, .bool (t 2).f, .int .i64 (t 2).n, .int .i64 (t 3).m, .bool (t 3).f, .int .i64 (t 3).n] #[.int .i64 0, .bool false, .int .i64 0, .int .i64 0, .bool false, .int .i64 0, .int .i64 0, .bool false, .int .i64 0, .int .i64 0, .bool false, .int .i64 0] 25 25
  go_enter Try.func9, Try.ntmps9
  go_wp2_with fail
  refine (CK.out _).mono ?_
  rintro r w1 ⟨rfl, hb⟩
  have B1 : Hid (_) := B0.out.step hb
  clear hb B0 CK
  have cl := (B1.out.box 1 _ _ rfl).lt
  have c0 := (B1.out.box 1 _ _ rfl).cell 0 _ rfl
  have c1 := (B1.out.box 1 _ _ rfl).cell 1 _ rfl
  have c2 := (B1.out.box 1 _ _ rfl).cell 2 _ rfl
  have c3 := (B1.out.box 1 _ _ rfl).cell 3 _ rfl
  have c4 := (B1.out.box 1 _ _ rfl).cell 4 _ rfl
  have c5 := (B1.out.box 1 _ _ rfl).cell 5 _ rfl
  have c6 := (B1.out.box 1 _ _ rfl).cell 6 _ rfl
  have c7 := (B1.out.box 1 _ _ rfl).cell 7 _ rfl
  have c8 := (B1.out.box 1 _ _ rfl).cell 8 _ rfl
  have c9 := (B1.out.box 1 _ _ rfl).cell 9 _ rfl
  have c10 := (B1.out.box 1 _ _ rfl).cell 10 _ rfl
  have c11 := (B1.out.box 1 _ _ rfl).cell 11 _ rfl
  have cf0 := (B1.out.box 1 _ _ rfl).froz 0 _ rfl
  have cf1 := (B1.out.box 1 _ _ rfl).froz 1 _ rfl
  have cf2 := (B1.out.box 1 _ _ rfl).froz 2 _ rfl
  have cf3 := (B1.out.box 1 _ _ rfl).froz 3 _ rfl
  have cf4 := (B1.out.box 1 _ _ rfl).froz 4 _ rfl
  have cf5 := (B1.out.box 1 _ _ rfl).froz 5 _ rfl
  have cf6 := (B1.out.box 1 _ _ rfl).froz 6 _ rfl
  have cf7 := (B1.out.box 1 _ _ rfl).froz 7 _ rfl
  have cf8 := (B1.out.box 1 _ _ rfl).froz 8 _ rfl
  have cf9 := (B1.out.box 1 _ _ rfl).froz 9 _ rfl
  have cf10 := (B1.out.box 1 _ _ rfl).froz 10 _ rfl
  have cf11 := (B1.out.box 1 _ _ rfl).froz 11 _ rfl
  go_wp2_with fail
  obtain ⟨w3, hw3, B3⟩ := B1.out.teamZ 1 _ _ rfl rfl
  rw [hw3]
  have yl := (B3.box 1 _ _ rfl).lt
  have y0 := (B3.box 1 _ _ rfl).cell 0 _ rfl
  have y1 := (B3.box 1 _ _ rfl).cell 1 _ rfl
  have y2 := (B3.box 1 _ _ rfl).cell 2 _ rfl
  have y3 := (B3.box 1 _ _ rfl).cell 3 _ rfl
  have y4 := (B3.box 1 _ _ rfl).cell 4 _ rfl
  have y5 := (B3.box 1 _ _ rfl).cell 5 _ rfl
  have y6 := (B3.box 1 _ _ rfl).cell 6 _ rfl
  have y7 := (B3.box 1 _ _ rfl).cell 7 _ rfl
  have y8 := (B3.box 1 _ _ rfl).cell 8 _ rfl
  have y9 := (B3.box 1 _ _ rfl).cell 9 _ rfl
  have y10 := (B3.box 1 _ _ rfl).cell 10 _ rfl
  have y11 := (B3.box 1 _ _ rfl).cell 11 _ rfl
  refine bodyPost_ret (by simp [results, Try.results9, go_sem, y0, y1, y2, y3, y4, y5, y6, y7, y8, y9, y10, y11]; try rfl) rfl ?_
  exact ⟨rfl, B3.bel⟩

set_option maxHeartbeats 8000000 in
set_option maxRecDepth 100000 in
theorem rreset_ok (t : Nat → St) (s : St) (j : Nat) (hj : j < 4) (w : World) (CK : Hid (∀ W, Calls Try.prog 11 #[.agg #[.int .i64 (t 0).m, .bool (t 0).f, .int .i64 (t 0).n, .int .i64 (t 1).m, .bool (t 1).f, .int .i64 (t 1).n, .int .i64 (t 2).m, .bool (t 2).f, .int .i64 (t 2).n, .int .i64 (t 3).m, .bool (t 3).f, .int .i64 (t 3).n]] W fun r w' => r = .returned (.int .i64 0) ∧ Below W.heap.size W w'))
    (CA : Hid (∀ W, Calls Try.prog 26 #[.agg #[.int .i64 (t j).m, .bool (t j).f, .int .i64 (t j).n], .int .i64 7] W fun r w' => r = .returned (.agg #[.int .i64 s.m, .bool s.f, .int .i64 s.n]) ∧ Below W.heap.size W w')) :
    Calls Try.prog 9 #[.agg #[.int .i64 (t 0).m, .bool (t 0).f, .int .i64 (t 0).n, .int .i64 (t 1).m, .bool (t 1).f, .int .i64 (t 1).n, .int .i64 (t 2).m, .bool (t 2).f, .int .i64 (t 2).n, .int .i64 (t 3).m, .bool (t 3).f, .int .i64 (t 3).n], .int .i64 j, .bool true] w fun r w' => r = .returned (.tuple #[.agg #[.int .i64 ((putS t j s) 0).m, .bool ((putS t j s) 0).f, .int .i64 ((putS t j s) 0).n, .int .i64 ((putS t j s) 1).m, .bool ((putS t j s) 1).f, .int .i64 ((putS t j s) 1).n, .int .i64 ((putS t j s) 2).m, .bool ((putS t j s) 2).f, .int .i64 ((putS t j s) 2).n, .int .i64 ((putS t j s) 3).m, .bool ((putS t j s) 3).f, .int .i64 ((putS t j s) 3).n], .int .i64 0]) ∧ Below w.heap.size w w' := by
  obtain rfl | rfl | rfl | rfl := cases4 hj
  · have B0 : Hid (_) := bxs_two w #[.int .i64 (t 0).m, .bool (t 0).f, .int .i64 (t 0).n, .int .i64 (t 1).m, .bool (t 1).f, .int .i64 (t 1).n, .int .i64 (t 2).m, .bool (t 2).f, .int .i64 (t 2).n, .int .i64 (t 3).m, .bool (t 3).f, .int .i64 (t 3).n] #[.int .i64 0, .bool false, .int .i64 0, .int .i64 0, .bool false, .int .i64 0, .int .i64 0, .bool false, .int .i64 0, .int .i64 0, .bool false, .int .i64 0] 25 25
    go_enter Try.func9, Try.ntmps9
    go_wp2_with fail
    refine (CK.out _).mono ?_
    rintro r w1 ⟨rfl, hb⟩
    have B1 : Hid (_) := B0.out.step hb
    clear hb B0 CK
    have cl := (B1.out.box 0 _ _ rfl).lt
    have c0 := (B1.out.box 0 _ _ rfl).cell 0 _ rfl
    have c1 := (B1.out.box 0 _ _ rfl).cell 1 _ rfl
    have c2 := (B1.out.box 0 _ _ rfl).cell 2 _ rfl
    have c3 := (B1.out.box 0 _ _ rfl).cell 3 _ rfl
    have c4 := (B1.out.box 0 _ _ rfl).cell 4 _ rfl
    have c5 := (B1.out.box 0 _ _ rfl).cell 5 _ rfl
    have c6 := (B1.out.box 0 _ _ rfl).cell 6 _ rfl
    have c7 := (B1.out.box 0 _ _ rfl).cell 7 _ rfl
    have c8 := (B1.out.box 0 _ _ rfl).cell 8 _ rfl
    have c9 := (B1.out.box 0 _ _ rfl).cell 9 _ rfl
    have c10 := (B1.out.box 0 _ _ rfl).cell 10 _ rfl
    have c11 := (B1.out.box 0 _ _ rfl).cell 11 _ rfl
    go_wp2_with fail
    refine (CA.out _).mono ?_
    rintro r w2 ⟨rfl, hb⟩
    have B2 : Hid (_) := B1.out.step hb
    clear hb B1 CA
    clear cl c0 c1 c2 c3 c4 c5 c6 c7 c8 c9 c10 c11
    obtain ⟨w3, hw3, B3'⟩ := B2.out.lane 0 _ t rfl 0 (by omega) 0 1 2 rfl rfl rfl s
    have B3 : Hid (Bxs w [(w.heap.size, [.int .i64 ((putS t 0 s) 0).m, .bool ((putS t 0 s) 0).f, .int .i64 ((putS t 0 s) 0).n, .int .i64 ((putS t 0 s) 1).m, .bool ((putS t 0 s) 1).f, .int .i64 ((putS t 0 s) 1).n, .int .i64 ((putS t 0 s) 2).m, .bool ((putS t 0 s) 2).f, .int .i64 ((putS t 0 s) 2).n, .int .i64 ((putS t 0 s) 3).m, .bool ((putS t 0 s) 3).f, .int .i64 ((putS t 0 s) 3).n]), (w.heap.size + 1, [.int .i64 0, .bool false, .int .i64 0, .int .i64 0, .bool false, .int .i64 0, .int .i64 0, .bool false, .int .i64 0, .int .i64 0, .bool false, .int .i64 0])] w3) := B3'
    clear B3'
    have cl := (B2.out.box 0 _ _ rfl).lt
    have c0 := (B2.out.box 0 _ _ rfl).cell 0 _ rfl
    have c1 := (B2.out.box 0 _ _ rfl).cell 1 _ rfl
    have c2 := (B2.out.box 0 _ _ rfl).cell 2 _ rfl
    have c3 := (B2.out.box 0 _ _ rfl).cell 3 _ rfl
    have c4 := (B2.out.box 0 _ _ rfl).cell 4 _ rfl
    have c5 := (B2.out.box 0 _ _ rfl).cell 5 _ rfl
    have c6 := (B2.out.box 0 _ _ rfl).cell 6 _ rfl
    have c7 := (B2.out.box 0 _ _ rfl).cell 7 _ rfl
    have c8 := (B2.out.box 0 _ _ rfl).cell 8 _ rfl
    have c9 := (B2.out.box 0 _ _ rfl).cell 9 _ rfl
    have c10 := (B2.out.box 0 _ _ rfl).cell 10 _ rfl
    have c11 := (B2.out.box 0 _ _ rfl).cell 11 _ rfl
    have cf0 := (B2.out.box 0 _ _ rfl).froz 0 _ rfl
    have cf1 := (B2.out.box 0 _ _ rfl).froz 1 _ rfl
    have cf2 := (B2.out.box 0 _ _ rfl).froz 2 _ rfl
    have cf3 := (B2.out.box 0 _ _ rfl).froz 3 _ rfl
    have cf4 := (B2.out.box 0 _ _ rfl).froz 4 _ rfl
    have cf5 := (B2.out.box 0 _ _ rfl).froz 5 _ rfl
    have cf6 := (B2.out.box 0 _ _ rfl).froz 6 _ rfl
    have cf7 := (B2.out.box 0 _ _ rfl).froz 7 _ rfl
    have cf8 := (B2.out.box 0 _ _ rfl).froz 8 _ rfl
    have cf9 := (B2.out.box 0 _ _ rfl).froz 9 _ rfl
    have cf10 := (B2.out.box 0 _ _ rfl).froz 10 _ rfl
    have cf11 := (B2.out.box 0 _ _ rfl).froz 11 _ rfl
    go_upto_region 9 with (fail)
    try rw [hw3]
    clear hw3 B2
    clear cl c0 c1 c2 c3 c4 c5 c6 c7 c8 c9 c10 c11
    clear cf0 cf1 cf2 cf3 cf4 cf5 cf6 cf7 cf8 cf9 cf10 cf11
    have cl := (B3.out.box 0 _ _ rfl).lt
    have c0 := (B3.out.box 0 _ _ rfl).cell 0 _ rfl
    have c1 := (B3.out.box 0 _ _ rfl).cell 1 _ rfl
    have c2 := (B3.out.box 0 _ _ rfl).cell 2 _ rfl
    have c3 := (B3.out.box 0 _ _ rfl).cell 3 _ rfl
    have c4 := (B3.out.box 0 _ _ rfl).cell 4 _ rfl
    have c5 := (B3.out.box 0 _ _ rfl).cell 5 _ rfl
    have c6 := (B3.out.box 0 _ _ rfl).cell 6 _ rfl
    have c7 := (B3.out.box 0 _ _ rfl).cell 7 _ rfl
    have c8 := (B3.out.box 0 _ _ rfl).cell 8 _ rfl
    have c9 := (B3.out.box 0 _ _ rfl).cell 9 _ rfl
    have c10 := (B3.out.box 0 _ _ rfl).cell 10 _ rfl
    have c11 := (B3.out.box 0 _ _ rfl).cell 11 _ rfl
    have dl := (B3.out.box 1 _ _ rfl).lt
    have d0 := (B3.out.box 1 _ _ rfl).cell 0 _ rfl
    have d1 := (B3.out.box 1 _ _ rfl).cell 1 _ rfl
    have d2 := (B3.out.box 1 _ _ rfl).cell 2 _ rfl
    have d3 := (B3.out.box 1 _ _ rfl).cell 3 _ rfl
    have d4 := (B3.out.box 1 _ _ rfl).cell 4 _ rfl
    have d5 := (B3.out.box 1 _ _ rfl).cell 5 _ rfl
    have d6 := (B3.out.box 1 _ _ rfl).cell 6 _ rfl
    have d7 := (B3.out.box 1 _ _ rfl).cell 7 _ rfl
    have d8 := (B3.out.box 1 _ _ rfl).cell 8 _ rfl
    have d9 := (B3.out.box 1 _ _ rfl).cell 9 _ rfl
    have d10 := (B3.out.box 1 _ _ rfl).cell 10 _ rfl
    have d11 := (B3.out.box 1 _ _ rfl).cell 11 _ rfl
    have df0 := (B3.out.box 1 _ _ rfl).froz 0 _ rfl
    have df1 := (B3.out.box 1 _ _ rfl).froz 1 _ rfl
    have df2 := (B3.out.box 1 _ _ rfl).froz 2 _ rfl
    have df3 := (B3.out.box 1 _ _ rfl).froz 3 _ rfl
    have df4 := (B3.out.box 1 _ _ rfl).froz 4 _ rfl
    have df5 := (B3.out.box 1 _ _ rfl).froz 5 _ rfl
    have df6 := (B3.out.box 1 _ _ rfl).froz 6 _ rfl
    have df7 := (B3.out.box 1 _ _ rfl).froz 7 _ rfl
    have df8 := (B3.out.box 1 _ _ rfl).froz 8 _ rfl
    have df9 := (B3.out.box 1 _ _ rfl).froz 9 _ rfl
    have df10 := (B3.out.box 1 _ _ rfl).froz 10 _ rfl
    have df11 := (B3.out.box 1 _ _ rfl).froz 11 _ rfl
    go_wp2_with fail
    obtain ⟨w4, hw4, B4⟩ := B3.out.team 1 _ _ (putS t 0 s) rfl rfl
    rw [hw4]
    have yl := (B4.box 1 _ _ rfl).lt
    have y0 := (B4.box 1 _ _ rfl).cell 0 _ rfl
    have y1 := (B4.box 1 _ _ rfl).cell 1 _ rfl
    have y2 := (B4.box 1 _ _ rfl).cell 2 _ rfl
    have y3 := (B4.box 1 _ _ rfl).cell 3 _ rfl
    have y4 := (B4.box 1 _ _ rfl).cell 4 _ rfl
    have y5 := (B4.box 1 _ _ rfl).cell 5 _ rfl
    have y6 := (B4.box 1 _ _ rfl).cell 6 _ rfl
    have y7 := (B4.box 1 _ _ rfl).cell 7 _ rfl
    have y8 := (B4.box 1 _ _ rfl).cell 8 _ rfl
    have y9 := (B4.box 1 _ _ rfl).cell 9 _ rfl
    have y10 := (B4.box 1 _ _ rfl).cell 10 _ rfl
    have y11 := (B4.box 1 _ _ rfl).cell 11 _ rfl
    refine bodyPost_ret (by simp [results, Try.results9, go_sem, y0, y1, y2, y3, y4, y5, y6, y7, y8, y9, y10, y11]; try rfl) rfl ?_
    exact ⟨rfl, B4.bel⟩
  · have B0 : Hid (_) := bxs_two w #[.int .i64 (t 0).m, .bool (t 0).f, .int .i64 (t 0).n, .int .i64 (t 1).m, .bool (t 1).f, .int .i64 (t 1).n, .int .i64 (t 2).m, .bool (t 2).f, .int .i64 (t 2).n, .int .i64 (t 3).m, .bool (t 3).f, .int .i64 (t 3).n] #[.int .i64 0, .bool false, .int .i64 0, .int .i64 0, .bool false, .int .i64 0, .int .i64 0, .bool false, .int .i64 0, .int .i64 0, .bool false, .int .i64 0] 25 25
    go_enter Try.func9, Try.ntmps9
    go_wp2_with fail
    refine (CK.out _).mono ?_
    rintro r w1 ⟨rfl, hb⟩
    have B1 : Hid (_) := B0.out.step hb
    clear hb B0 CK
    have cl := (B1.out.box 0 _ _ rfl).lt
    have c0 := (B1.out.box 0 _ _ rfl).cell 0 _ rfl
    have c1 := (B1.out.box 0 _ _ rfl).cell 1 _ rfl
    have c2 := (B1.out.box 0 _ _ rfl).cell 2 _ rfl
    have c3 := (B1.out.box 0 _ _ rfl).cell 3 _ rfl
    have c4 := (B1.out.box 0 _ _ rfl).cell 4 _ rfl
    have c5 := (B1.out.box 0 _ _ rfl).cell 5 _ rfl
    have c6 := (B1.out.box 0 _ _ rfl).cell 6 _ rfl
    have c7 := (B1.out.box 0 _ _ rfl).cell 7 _ rfl
    have c8 := (B1.out.box 0 _ _ rfl).cell 8 _ rfl
    have c9 := (B1.out.box 0 _ _ rfl).cell 9 _ rfl
    have c10 := (B1.out.box 0 _ _ rfl).cell 10 _ rfl
    have c11 := (B1.out.box 0 _ _ rfl).cell 11 _ rfl
    go_wp2_with fail
    refine (CA.out _).mono ?_
    rintro r w2 ⟨rfl, hb⟩
    have B2 : Hid (_) := B1.out.step hb
    clear hb B1 CA
    clear cl c0 c1 c2 c3 c4 c5 c6 c7 c8 c9 c10 c11
    obtain ⟨w3, hw3, B3'⟩ := B2.out.lane 0 _ t rfl 1 (by omega) 3 4 5 rfl rfl rfl s
    have B3 : Hid (Bxs w [(w.heap.size, [.int .i64 ((putS t 1 s) 0).m, .bool ((putS t 1 s) 0).f, .int .i64 ((putS t 1 s) 0).n, .int .i64 ((putS t 1 s) 1).m, .bool ((putS t 1 s) 1).f, .int .i64 ((putS t 1 s) 1).n, .int .i64 ((putS t 1 s) 2).m, .bool ((putS t 1 s) 2).f, .int .i64 ((putS t 1 s) 2).n, .int .i64 ((putS t 1 s) 3).m, .bool ((putS t 1 s) 3).f, .int .i64 ((putS t 1 s) 3).n]), (w.heap.size + 1, [.int .i64 0, .bool false, .int .i64 0, .int .i64 0, .bool false, .int .i64 0, .int .i64 0, .bool false, .int .i64 0, .int .i64 0, .bool false, .int .i64 0])] w3) := B3'
    clear B3'
    have cl := (B2.out.box 0 _ _ rfl).lt
    have c0 := (B2.out.box 0 _ _ rfl).cell 0 _ rfl
    have c1 := (B2.out.box 0 _ _ rfl).cell 1 _ rfl
    have c2 := (B2.out.box 0 _ _ rfl).cell 2 _ rfl
    have c3 := (B2.out.box 0 _ _ rfl).cell 3 _ rfl
    have c4 := (B2.out.box 0 _ _ rfl).cell 4 _ rfl
    have c5 := (B2.out.box 0 _ _ rfl).cell 5 _ rfl
    have c6 := (B2.out.box 0 _ _ rfl).cell 6 _ rfl
    have c7 := (B2.out.box 0 _ _ rfl).cell 7 _ rfl
    have c8 := (B2.out.box 0 _ _ rfl).cell 8 _ rfl
    have c9 := (B2.out.box 0 _ _ rfl).cell 9 _ rfl
    have c10 := (B2.out.box 0 _ _ rfl).cell 10 _ rfl
    have c11 := (B2.out.box 0 _ _ rfl).cell 11 _ rfl
    have cf0 := (B2.out.box 0 _ _ rfl).froz 0 _ rfl
    have cf1 := (B2.out.box 0 _ _ rfl).froz 1 _ rfl
    have cf2 := (B2.out.box 0 _ _ rfl).froz 2 _ rfl
    have cf3 := (B2.out.box 0 _ _ rfl).froz 3 _ rfl
    have cf4 := (B2.out.box 0 _ _ rfl).froz 4 _ rfl
    have cf5 := (B2.out.box 0 _ _ rfl).froz 5 _ rfl
    have cf6 := (B2.out.box 0 _ _ rfl).froz 6 _ rfl
    have cf7 := (B2.out.box 0 _ _ rfl).froz 7 _ rfl
    have cf8 := (B2.out.box 0 _ _ rfl).froz 8 _ rfl
    have cf9 := (B2.out.box 0 _ _ rfl).froz 9 _ rfl
    have cf10 := (B2.out.box 0 _ _ rfl).froz 10 _ rfl
    have cf11 := (B2.out.box 0 _ _ rfl).froz 11 _ rfl
    go_upto_region 9 with (fail)
    try rw [hw3]
    clear hw3 B2
    clear cl c0 c1 c2 c3 c4 c5 c6 c7 c8 c9 c10 c11
    clear cf0 cf1 cf2 cf3 cf4 cf5 cf6 cf7 cf8 cf9 cf10 cf11
    have cl := (B3.out.box 0 _ _ rfl).lt
    have c0 := (B3.out.box 0 _ _ rfl).cell 0 _ rfl
    have c1 := (B3.out.box 0 _ _ rfl).cell 1 _ rfl
    have c2 := (B3.out.box 0 _ _ rfl).cell 2 _ rfl
    have c3 := (B3.out.box 0 _ _ rfl).cell 3 _ rfl
    have c4 := (B3.out.box 0 _ _ rfl).cell 4 _ rfl
    have c5 := (B3.out.box 0 _ _ rfl).cell 5 _ rfl
    have c6 := (B3.out.box 0 _ _ rfl).cell 6 _ rfl
    have c7 := (B3.out.box 0 _ _ rfl).cell 7 _ rfl
    have c8 := (B3.out.box 0 _ _ rfl).cell 8 _ rfl
    have c9 := (B3.out.box 0 _ _ rfl).cell 9 _ rfl
    have c10 := (B3.out.box 0 _ _ rfl).cell 10 _ rfl
    have c11 := (B3.out.box 0 _ _ rfl).cell 11 _ rfl
    have dl := (B3.out.box 1 _ _ rfl).lt
    have d0 := (B3.out.box 1 _ _ rfl).cell 0 _ rfl
    have d1 := (B3.out.box 1 _ _ rfl).cell 1 _ rfl
    have d2 := (B3.out.box 1 _ _ rfl).cell 2 _ rfl
    have d3 := (B3.out.box 1 _ _ rfl).cell 3 _ rfl
    have d4 := (B3.out.box 1 _ _ rfl).cell 4 _ rfl
    have d5 := (B3.out.box 1 _ _ rfl).cell 5 _ rfl
    have d6 := (B3.out.box 1 _ _ rfl).cell 6 _ rfl
    have d7 := (B3.out.box 1 _ _ rfl).cell 7 _ rfl
    have d8 := (B3.out.box 1 _ _ rfl).cell 8 _ rfl
    have d9 := (B3.out.box 1 _ _ rfl).cell 9 _ rfl
    have d10 := (B3.out.box 1 _ _ rfl).cell 10 _ rfl
    have d11 := (B3.out.box 1 _ _ rfl).cell 11 _ rfl
    have df0 := (B3.out.box 1 _ _ rfl).froz 0 _ rfl
    have df1 := (B3.out.box 1 _ _ rfl).froz 1 _ rfl
    have df2 := (B3.out.box 1 _ _ rfl).froz 2 _ rfl
    have df3 := (B3.out.box 1 _ _ rfl).froz 3 _ rfl
    have df4 := (B3.out.box 1 _ _ rfl).froz 4 _ rfl
    have df5 := (B3.out.box 1 _ _ rfl).froz 5 _ rfl
    have df6 := (B3.out.box 1 _ _ rfl).froz 6 _ rfl
    have df7 := (B3.out.box 1 _ _ rfl).froz 7 _ rfl
    have df8 := (B3.out.box 1 _ _ rfl).froz 8 _ rfl
    have df9 := (B3.out.box 1 _ _ rfl).froz 9 _ rfl
    have df10 := (B3.out.box 1 _ _ rfl).froz 10 _ rfl
    have df11 := (B3.out.box 1 _ _ rfl).froz 11 _ rfl
    go_wp2_with fail
    obtain ⟨w4, hw4, B4⟩ := B3.out.team 1 _ _ (putS t 1 s) rfl rfl
    rw [hw4]
    have yl := (B4.box 1 _ _ rfl).lt
    have y0 := (B4.box 1 _ _ rfl).cell 0 _ rfl
    have y1 := (B4.box 1 _ _ rfl).cell 1 _ rfl
    have y2 := (B4.box 1 _ _ rfl).cell 2 _ rfl
    have y3 := (B4.box 1 _ _ rfl).cell 3 _ rfl
    have y4 := (B4.box 1 _ _ rfl).cell 4 _ rfl
    have y5 := (B4.box 1 _ _ rfl).cell 5 _ rfl
    have y6 := (B4.box 1 _ _ rfl).cell 6 _ rfl
    have y7 := (B4.box 1 _ _ rfl).cell 7 _ rfl
    have y8 := (B4.box 1 _ _ rfl).cell 8 _ rfl
    have y9 := (B4.box 1 _ _ rfl).cell 9 _ rfl
    have y10 := (B4.box 1 _ _ rfl).cell 10 _ rfl
    have y11 := (B4.box 1 _ _ rfl).cell 11 _ rfl
    refine bodyPost_ret (by simp [results, Try.results9, go_sem, y0, y1, y2, y3, y4, y5, y6, y7, y8, y9, y10, y11]; try rfl) rfl ?_
    exact ⟨rfl, B4.bel⟩
  · have B0 : Hid (_) := bxs_two w #[.int .i64 (t 0).m, .bool (t 0).f, .int .i64 (t 0).n, .int .i64 (t 1).m, .bool (t 1).f, .int .i64 (t 1).n, .int .i64 (t 2).m, .bool (t 2).f, .int .i64 (t 2).n, .int .i64 (t 3).m, .bool (t 3).f, .int .i64 (t 3).n] #[.int .i64 0, .bool false, .int .i64 0, .int .i64 0, .bool false, .int .i64 0, .int .i64 0, .bool false, .int .i64 0, .int .i64 0, .bool false, .int .i64 0] 25 25
    go_enter Try.func9, Try.ntmps9
    go_wp2_with fail
    refine (CK.out _).mono ?_
    rintro r w1 ⟨rfl, hb⟩
    have B1 : Hid (_) := B0.out.step hb
    clear hb B0 CK
    have cl := (B1.out.box 0 _ _ rfl).lt
    have c0 := (B1.out.box 0 _ _ rfl).cell 0 _ rfl
    have c1 := (B1.out.box 0 _ _ rfl).cell 1 _ rfl
    have c2 := (B1.out.box 0 _ _ rfl).cell 2 _ rfl
    have c3 := (B1.out.box 0 _ _ rfl).cell 3 _ rfl
    have c4 := (B1.out.box 0 _ _ rfl).cell 4 _ rfl
    have c5 := (B1.out.box 0 _ _ rfl).cell 5 _ rfl
    have c6 := (B1.out.box 0 _ _ rfl).cell 6 _ rfl
    have c7 := (B1.out.box 0 _ _ rfl).cell 7 _ rfl
    have c8 := (B1.out.box 0 _ _ rfl).cell 8 _ rfl
    have c9 := (B1.out.box 0 _ _ rfl).cell 9 _ rfl
    have c10 := (B1.out.box 0 _ _ rfl).cell 10 _ rfl
    have c11 := (B1.out.box 0 _ _ rfl).cell 11 _ rfl
    go_wp2_with fail
    refine (CA.out _).mono ?_
    rintro r w2 ⟨rfl, hb⟩
    have B2 : Hid (_) := B1.out.step hb
    clear hb B1 CA
    clear cl c0 c1 c2 c3 c4 c5 c6 c7 c8 c9 c10 c11
    obtain ⟨w3, hw3, B3'⟩ := B2.out.lane 0 _ t rfl 2 (by omega) 6 7 8 rfl rfl rfl s
    have B3 : Hid (Bxs w [(w.heap.size, [.int .i64 ((putS t 2 s) 0).m, .bool ((putS t 2 s) 0).f, .int .i64 ((putS t 2 s) 0).n, .int .i64 ((putS t 2 s) 1).m, .bool ((putS t 2 s) 1).f, .int .i64 ((putS t 2 s) 1).n, .int .i64 ((putS t 2 s) 2).m, .bool ((putS t 2 s) 2).f, .int .i64 ((putS t 2 s) 2).n, .int .i64 ((putS t 2 s) 3).m, .bool ((putS t 2 s) 3).f, .int .i64 ((putS t 2 s) 3).n]), (w.heap.size + 1, [.int .i64 0, .bool false, .int .i64 0, .int .i64 0, .bool false, .int .i64 0, .int .i64 0, .bool false, .int .i64 0, .int .i64 0, .bool false, .int .i64 0])] w3) := B3'
    clear B3'
    have cl := (B2.out.box 0 _ _ rfl).lt
    have c0 := (B2.out.box 0 _ _ rfl).cell 0 _ rfl
    have c1 := (B2.out.box 0 _ _ rfl).cell 1 _ rfl
    have c2 := (B2.out.box 0 _ _ rfl).cell 2 _ rfl
    have c3 := (B2.out.box 0 _ _ rfl).cell 3 _ rfl
    have c4 := (B2.out.box 0 _ _ rfl).cell 4 _ rfl
    have c5 := (B2.out.box 0 _ _ rfl).cell 5 _ rfl
    have c6 := (B2.out.box 0 _ _ rfl).cell 6 _ rfl
    have c7 := (B2.out.box 0 _ _ rfl).cell 7 _ rfl
    have c8 := (B2.out.box 0 _ _ rfl).cell 8 _ rfl
    have c9 := (B2.out.box 0 _ _ rfl).cell 9 _ rfl
    have c10 := (B2.out.box 0 _ _ rfl).cell 10 _ rfl
    have c11 := (B2.out.box 0 _ _ rfl).cell 11 _ rfl
    have cf0 := (B2.out.box 0 _ _ rfl).froz 0 _ rfl
    have cf1 := (B2.out.box 0 _ _ rfl).froz 1 _ rfl
    have cf2 := (B2.out.box 0 _ _ rfl).froz 2 _ rfl
    have cf3 := (B2.out.box 0 _ _ rfl).froz 3 _ rfl
    have cf4 := (B2.out.box 0 _ _ rfl).froz 4 _ rfl
    have cf5 := (B2.out.box 0 _ _ rfl).froz 5 _ rfl
    have cf6 := (B2.out.box 0 _ _ rfl).froz 6 _ rfl
    have cf7 := (B2.out.box 0 _ _ rfl).froz 7 _ rfl
    have cf8 := (B2.out.box 0 _ _ rfl).froz 8 _ rfl
    have cf9 := (B2.out.box 0 _ _ rfl).froz 9 _ rfl
    have cf10 := (B2.out.box 0 _ _ rfl).froz 10 _ rfl
    have cf11 := (B2.out.box 0 _ _ rfl).froz 11 _ rfl
    go_upto_region 9 with (fail)
    try rw [hw3]
    clear hw3 B2
    clear cl c0 c1 c2 c3 c4 c5 c6 c7 c8 c9 c10 c11
    clear cf0 cf1 cf2 cf3 cf4 cf5 cf6 cf7 cf8 cf9 cf10 cf11
    have cl := (B3.out.box 0 _ _ rfl).lt
    have c0 := (B3.out.box 0 _ _ rfl).cell 0 _ rfl
    have c1 := (B3.out.box 0 _ _ rfl).cell 1 _ rfl
    have c2 := (B3.out.box 0 _ _ rfl).cell 2 _ rfl
    have c3 := (B3.out.box 0 _ _ rfl).cell 3 _ rfl
    have c4 := (B3.out.box 0 _ _ rfl).cell 4 _ rfl
    have c5 := (B3.out.box 0 _ _ rfl).cell 5 _ rfl
    have c6 := (B3.out.box 0 _ _ rfl).cell 6 _ rfl
    have c7 := (B3.out.box 0 _ _ rfl).cell 7 _ rfl
    have c8 := (B3.out.box 0 _ _ rfl).cell 8 _ rfl
    have c9 := (B3.out.box 0 _ _ rfl).cell 9 _ rfl
    have c10 := (B3.out.box 0 _ _ rfl).cell 10 _ rfl
    have c11 := (B3.out.box 0 _ _ rfl).cell 11 _ rfl
    have dl := (B3.out.box 1 _ _ rfl).lt
    have d0 := (B3.out.box 1 _ _ rfl).cell 0 _ rfl
    have d1 := (B3.out.box 1 _ _ rfl).cell 1 _ rfl
    have d2 := (B3.out.box 1 _ _ rfl).cell 2 _ rfl
    have d3 := (B3.out.box 1 _ _ rfl).cell 3 _ rfl
    have d4 := (B3.out.box 1 _ _ rfl).cell 4 _ rfl
    have d5 := (B3.out.box 1 _ _ rfl).cell 5 _ rfl
    have d6 := (B3.out.box 1 _ _ rfl).cell 6 _ rfl
    have d7 := (B3.out.box 1 _ _ rfl).cell 7 _ rfl
    have d8 := (B3.out.box 1 _ _ rfl).cell 8 _ rfl
    have d9 := (B3.out.box 1 _ _ rfl).cell 9 _ rfl
    have d10 := (B3.out.box 1 _ _ rfl).cell 10 _ rfl
    have d11 := (B3.out.box 1 _ _ rfl).cell 11 _ rfl
    have df0 := (B3.out.box 1 _ _ rfl).froz 0 _ rfl
    have df1 := (B3.out.box 1 _ _ rfl).froz 1 _ rfl
    have df2 := (B3.out.box 1 _ _ rfl).froz 2 _ rfl
    have df3 := (B3.out.box 1 _ _ rfl).froz 3 _ rfl
    have df4 := (B3.out.box 1 _ _ rfl).froz 4 _ rfl
    have df5 := (B3.out.box 1 _ _ rfl).froz 5 _ rfl
    have df6 := (B3.out.box 1 _ _ rfl).froz 6 _ rfl
    have df7 := (B3.out.box 1 _ _ rfl).froz 7 _ rfl
    have df8 := (B3.out.box 1 _ _ rfl).froz 8 _ rfl
    have df9 := (B3.out.box 1 _ _ rfl).froz 9 _ rfl
    have df10 := (B3.out.box 1 _ _ rfl).froz 10 _ rfl
    have df11 := (B3.out.box 1 _ _ rfl).froz 11 _ rfl
    go_wp2_with fail
    obtain ⟨w4, hw4, B4⟩ := B3.out.team 1 _ _ (putS t 2 s) rfl rfl
    rw [hw4]
    have yl := (B4.box 1 _ _ rfl).lt
    have y0 := (B4.box 1 _ _ rfl).cell 0 _ rfl
    have y1 := (B4.box 1 _ _ rfl).cell 1 _ rfl
    have y2 := (B4.box 1 _ _ rfl).cell 2 _ rfl
    have y3 := (B4.box 1 _ _ rfl).cell 3 _ rfl
    have y4 := (B4.box 1 _ _ rfl).cell 4 _ rfl
    have y5 := (B4.box 1 _ _ rfl).cell 5 _ rfl
    have y6 := (B4.box 1 _ _ rfl).cell 6 _ rfl
    have y7 := (B4.box 1 _ _ rfl).cell 7 _ rfl
    have y8 := (B4.box 1 _ _ rfl).cell 8 _ rfl
    have y9 := (B4.box 1 _ _ rfl).cell 9 _ rfl
    have y10 := (B4.box 1 _ _ rfl).cell 10 _ rfl
    have y11 := (B4.box 1 _ _ rfl).cell 11 _ rfl
    refine bodyPost_ret (by simp [results, Try.results9, go_sem, y0, y1, y2, y3, y4, y5, y6, y7, y8, y9, y10, y11]; try rfl) rfl ?_
    exact ⟨rfl, B4.bel⟩
  · have B0 : Hid (_) := bxs_two w #[.int .i64 (t 0).m, .bool (t 0).f, .int .i64 (t 0).n, .int .i64 (t 1).m, .bool (t 1).f, .int .i64 (t 1).n, .int .i64 (t 2).m, .bool (t 2).f, .int .i64 (t 2).n, .int .i64 (t 3).m, .bool (t 3).f, .int .i64 (t 3).n] #[.int .i64 0, .bool false, .int .i64 0, .int .i64 0, .bool false, .int .i64 0, .int .i64 0, .bool false, .int .i64 0, .int .i64 0, .bool false, .int .i64 0] 25 25
    go_enter Try.func9, Try.ntmps9
    go_wp2_with fail
    refine (CK.out _).mono ?_
    rintro r w1 ⟨rfl, hb⟩
    have B1 : Hid (_) := B0.out.step hb
    clear hb B0 CK
    have cl := (B1.out.box 0 _ _ rfl).lt
    have c0 := (B1.out.box 0 _ _ rfl).cell 0 _ rfl
    have c1 := (B1.out.box 0 _ _ rfl).cell 1 _ rfl
    have c2 := (B1.out.box 0 _ _ rfl).cell 2 _ rfl
    have c3 := (B1.out.box 0 _ _ rfl).cell 3 _ rfl
    have c4 := (B1.out.box 0 _ _ rfl).cell 4 _ rfl
    have c5 := (B1.out.box 0 _ _ rfl).cell 5 _ rfl
    have c6 := (B1.out.box 0 _ _ rfl).cell 6 _ rfl
    have c7 := (B1.out.box 0 _ _ rfl).cell 7 _ rfl
    have c8 := (B1.out.box 0 _ _ rfl).cell 8 _ rfl
    have c9 := (B1.out.box 0 _ _ rfl).cell 9 _ rfl
    have c10 := (B1.out.box 0 _ _ rfl).cell 10 _ rfl
    have c11 := (B1.out.box 0 _ _ rfl).cell 11 _ rfl
    go_wp2_with fail
    refine (CA.out _).mono ?_
    rintro r w2 ⟨rfl, hb⟩
    have B2 : Hid (_) := B1.out.step hb
    clear hb B1 CA
    clear cl c0 c1 c2 c3 c4 c5 c6 c7 c8 c9 c10 c11
    obtain ⟨w3, hw3, B3'⟩ := B2.out.lane 0 _ t rfl 3 (by omega) 9 10 11 rfl rfl rfl s
    have B3 : Hid (Bxs w [(w.heap.size, [.int .i64 ((putS t 3 s) 0).m, .bool ((putS t 3 s) 0).f, .int .i64 ((putS t 3 s) 0).n, .int .i64 ((putS t 3 s) 1).m, .bool ((putS t 3 s) 1).f, .int .i64 ((putS t 3 s) 1).n, .int .i64 ((putS t 3 s) 2).m, .bool ((putS t 3 s) 2).f, .int .i64 ((putS t 3 s) 2).n, .int .i64 ((putS t 3 s) 3).m, .bool ((putS t 3 s) 3).f, .int .i64 ((putS t 3 s) 3).n]), (w.heap.size + 1, [.int .i64 0, .bool false, .int .i64 0, .int .i64 0, .bool false, .int .i64 0, .int .i64 0, .bool false, .int .i64 0, .int .i64 0, .bool false, .int .i64 0])] w3) := B3'
    clear B3'
    have cl := (B2.out.box 0 _ _ rfl).lt
    have c0 := (B2.out.box 0 _ _ rfl).cell 0 _ rfl
    have c1 := (B2.out.box 0 _ _ rfl).cell 1 _ rfl
    have c2 := (B2.out.box 0 _ _ rfl).cell 2 _ rfl
    have c3 := (B2.out.box 0 _ _ rfl).cell 3 _ rfl
    have c4 := (B2.out.box 0 _ _ rfl).cell 4 _ rfl
    have c5 := (B2.out.box 0 _ _ rfl).cell 5 _ rfl
    have c6 := (B2.out.box 0 _ _ rfl).cell 6 _ rfl
    have c7 := (B2.out.box 0 _ _ rfl).cell 7 _ rfl
    have c8 := (B2.out.box 0 _ _ rfl).cell 8 _ rfl
    have c9 := (B2.out.box 0 _ _ rfl).cell 9 _ rfl
    have c10 := (B2.out.box 0 _ _ rfl).cell 10 _ rfl
    have c11 := (B2.out.box 0 _ _ rfl).cell 11 _ rfl
    have cf0 := (B2.out.box 0 _ _ rfl).froz 0 _ rfl
    have cf1 := (B2.out.box 0 _ _ rfl).froz 1 _ rfl
    have cf2 := (B2.out.box 0 _ _ rfl).froz 2 _ rfl
    have cf3 := (B2.out.box 0 _ _ rfl).froz 3 _ rfl
    have cf4 := (B2.out.box 0 _ _ rfl).froz 4 _ rfl
    have cf5 := (B2.out.box 0 _ _ rfl).froz 5 _ rfl
    have cf6 := (B2.out.box 0 _ _ rfl).froz 6 _ rfl
    have cf7 := (B2.out.box 0 _ _ rfl).froz 7 _ rfl
    have cf8 := (B2.out.box 0 _ _ rfl).froz 8 _ rfl
    have cf9 := (B2.out.box 0 _ _ rfl).froz 9 _ rfl
    have cf10 := (B2.out.box 0 _ _ rfl).froz 10 _ rfl
    have cf11 := (B2.out.box 0 _ _ rfl).froz 11 _ rfl
    go_upto_region 9 with (fail)
    try rw [hw3]
    clear hw3 B2
    clear cl c0 c1 c2 c3 c4 c5 c6 c7 c8 c9 c10 c11
    clear cf0 cf1 cf2 cf3 cf4 cf5 cf6 cf7 cf8 cf9 cf10 cf11
    have cl := (B3.out.box 0 _ _ rfl).lt
    have c0 := (B3.out.box 0 _ _ rfl).cell 0 _ rfl
    have c1 := (B3.out.box 0 _ _ rfl).cell 1 _ rfl
    have c2 := (B3.out.box 0 _ _ rfl).cell 2 _ rfl
    have c3 := (B3.out.box 0 _ _ rfl).cell 3 _ rfl
    have c4 := (B3.out.box 0 _ _ rfl).cell 4 _ rfl
    have c5 := (B3.out.box 0 _ _ rfl).cell 5 _ rfl
    have c6 := (B3.out.box 0 _ _ rfl).cell 6 _ rfl
    have c7 := (B3.out.box 0 _ _ rfl).cell 7 _ rfl
    have c8 := (B3.out.box 0 _ _ rfl).cell 8 _ rfl
    have c9 := (B3.out.box 0 _ _ rfl).cell 9 _ rfl
    have c10 := (B3.out.box 0 _ _ rfl).cell 10 _ rfl
    have c11 := (B3.out.box 0 _ _ rfl).cell 11 _ rfl
    have dl := (B3.out.box 1 _ _ rfl).lt
    have d0 := (B3.out.box 1 _ _ rfl).cell 0 _ rfl
    have d1 := (B3.out.box 1 _ _ rfl).cell 1 _ rfl
    have d2 := (B3.out.box 1 _ _ rfl).cell 2 _ rfl
    have d3 := (B3.out.box 1 _ _ rfl).cell 3 _ rfl
    have d4 := (B3.out.box 1 _ _ rfl).cell 4 _ rfl
    have d5 := (B3.out.box 1 _ _ rfl).cell 5 _ rfl
    have d6 := (B3.out.box 1 _ _ rfl).cell 6 _ rfl
    have d7 := (B3.out.box 1 _ _ rfl).cell 7 _ rfl
    have d8 := (B3.out.box 1 _ _ rfl).cell 8 _ rfl
    have d9 := (B3.out.box 1 _ _ rfl).cell 9 _ rfl
    have d10 := (B3.out.box 1 _ _ rfl).cell 10 _ rfl
    have d11 := (B3.out.box 1 _ _ rfl).cell 11 _ rfl
    have df0 := (B3.out.box 1 _ _ rfl).froz 0 _ rfl
    have df1 := (B3.out.box 1 _ _ rfl).froz 1 _ rfl
    have df2 := (B3.out.box 1 _ _ rfl).froz 2 _ rfl
    have df3 := (B3.out.box 1 _ _ rfl).froz 3 _ rfl
    have df4 := (B3.out.box 1 _ _ rfl).froz 4 _ rfl
    have df5 := (B3.out.box 1 _ _ rfl).froz 5 _ rfl
    have df6 := (B3.out.box 1 _ _ rfl).froz 6 _ rfl
    have df7 := (B3.out.box 1 _ _ rfl).froz 7 _ rfl
    have df8 := (B3.out.box 1 _ _ rfl).froz 8 _ rfl
    have df9 := (B3.out.box 1 _ _ rfl).froz 9 _ rfl
    have df10 := (B3.out.box 1 _ _ rfl).froz 10 _ rfl
    have df11 := (B3.out.box 1 _ _ rfl).froz 11 _ rfl
    go_wp2_with fail
    obtain ⟨w4, hw4, B4⟩ := B3.out.team 1 _ _ (putS t 3 s) rfl rfl
    rw [hw4]
    have yl := (B4.box 1 _ _ rfl).lt
    have y0 := (B4.box 1 _ _ rfl).cell 0 _ rfl
    have y1 := (B4.box 1 _ _ rfl).cell 1 _ rfl
    have y2 := (B4.box 1 _ _ rfl).cell 2 _ rfl
    have y3 := (B4.box 1 _ _ rfl).cell 3 _ rfl
    have y4 := (B4.box 1 _ _ rfl).cell 4 _ rfl
    have y5 := (B4.box 1 _ _ rfl).cell 5 _ rfl
    have y6 := (B4.box 1 _ _ rfl).cell 6 _ rfl
    have y7 := (B4.box 1 _ _ rfl).cell 7 _ rfl
    have y8 := (B4.box 1 _ _ rfl).cell 8 _ rfl
    have y9 := (B4.box 1 _ _ rfl).cell 9 _ rfl
    have y10 := (B4.box 1 _ _ rfl).cell 10 _ rfl
    have y11 := (B4.box 1 _ _ rfl).cell 11 _ rfl
    refine bodyPost_ret (by simp [results, Try.results9, go_sem, y0, y1, y2, y3, y4, y5, y6, y7, y8, y9, y10, y11]; try rfl) rfl ?_
    exact ⟨rfl, B4.bel⟩

set_option maxHeartbeats 8000000 in
set_option maxRecDepth 100000 in
theorem rrest_bad (t : Nat → St) (E : Int) (w : World) (CK : Hid (∀ W, Calls Try.prog 11 #[.agg #[.int .i64 (t 0).m, .bool (t 0).f, .int .i64 (t 0).n, .int .i64 (t 1).m, .bool (t 1).f, .int .i64 (t 1).n, .int .i64 (t 2).m, .bool (t 2).f, .int .i64 (t 2).n, .int .i64 (t 3).m, .bool (t 3).f, .int .i64 (t 3).n]] W fun r w' => r = .returned (.int .i64 E) ∧ Below W.heap.size W w')) (hE : E = 1 ∨ E = 4) :
    Calls Try.prog 10 #[.agg #[.int .i64 (t 0).m, .bool (t 0).f, .int .i64 (t 0).n, .int .i64 (t 1).m, .bool (t 1).f, .int .i64 (t 1).n, .int .i64 (t 2).m, .bool (t 2).f, .int .i64 (t 2).n, .int .i64 (t 3).m, .bool (t 3).f, .int .i64 (t 3).n]] w fun r w' => r = .returned (.tuple #[.agg #[.int .i64 0, .bool false, .int .i64 0, .int .i64 0, .bool false, .int .i64 0, .int .i64 0, .bool false, .int .i64 0, .int .i64 0, .bool false, .int .i64 0], .int .i64 E]) ∧ Below w.heap.size w w' := by
  have B0 : Hid (_) := bxs_two w #[.int .i64 (t 0).m, .bool (t 0).f, .int .i64 (t 0).n, .int .i64 (t 1).m, .bool (t 1).f, .int .i64 (t 1).n, .int .i64 (t 2).m, .bool (t 2).f, .int .i64 (t 2).n, .int .i64 (t 3).m, .bool (t 3).f, .int .i64 (t 3).n] #[.int .i64 0, .bool false, .int .i64 0, .int .i64 0, .bool false, .int .i64 0, .int .i64 0, .bool false, .int .i64 0, .int .i64 0, .bool false, .int .i64 0] 25 25
  go_enter Try.func10, Try.ntmps10
  go_wp2_with fail
  refine (CK.out _).mono ?_
  rintro r w1 ⟨rfl, hb⟩
  have B1 : Hid (_) := B0.out.step hb
  clear hb B0 CK
  have cl := (B1.out.box 1 _ _ rfl).lt
  have c0 := (B1.out.box 1 _ _ rfl).cell 0 _ rfl
  have c1 := (B1.out.box 1 _ _ rfl).cell 1 _ rfl
  have c2 := (B1.out.box 1 _ _ rfl).cell 2 _ rfl
  have c3 := (B1.out.box 1 _ _ rfl).cell 3 _ rfl
  have c4 := (B1.out.box 1 _ _ rfl).cell 4 _ rfl
  have c5 := (B1.out.box 1 _ _ rfl).cell 5 _ rfl
  have c6 := (B1.out.box 1 _ _ rfl).cell 6 _ rfl
  have c7 := (B1.out.box 1 _ _ rfl).cell 7 _ rfl
  have c8 := (B1.out.box 1 _ _ rfl).cell 8 _ rfl
  have c9 := (B1.out.box 1 _ _ rfl).cell 9 _ rfl
  have c10 := (B1.out.box 1 _ _ rfl).cell 10 _ rfl
  have c11 := (B1.out.box 1 _ _ rfl).cell 11 _ rfl
  have cf0 := (B1.out.box 1 _ _ rfl).froz 0 _ rfl
  have cf1 := (B1.out.box 1 _ _ rfl).froz 1 _ rfl
  have cf2 := (B1.out.box 1 _ _ rfl).froz 2 _ rfl
  have cf3 := (B1.out.box 1 _ _ rfl).froz 3 _ rfl
  have cf4 := (B1.out.box 1 _ _ rfl).froz 4 _ rfl
  have cf5 := (B1.out.box 1 _ _ rfl).froz 5 _ rfl
  have cf6 := (B1.out.box 1 _ _ rfl).froz 6 _ rfl
  have cf7 := (B1.out.box 1 _ _ rfl).froz 7 _ rfl
  have cf8 := (B1.out.box 1 _ _ rfl).froz 8 _ rfl
  have cf9 := (B1.out.box 1 _ _ rfl).froz 9 _ rfl
  have cf10 := (B1.out.box 1 _ _ rfl).froz 10 _ rfl
  have cf11 := (B1.out.box 1 _ _ rfl).froz 11 _ rfl
  rcases hE with rfl | rfl
  all_goals
    go_wp2_with fail
    obtain ⟨w3, hw3, B3⟩ := B1.out.teamZ 1 _ _ rfl rfl
    rw [hw3]
    have yl := (B3.box 1 _ _ rfl).lt
    have y0 := (B3.box 1 _ _ rfl).cell 0 _ rfl
    have y1 := (B3.box 1 _ _ rfl).cell 1 _ rfl
    have y2 := (B3.box 1 _ _ rfl).cell 2 _ rfl
    have y3 := (B3.box 1 _ _ rfl).cell 3 _ rfl
    have y4 := (B3.box 1 _ _ rfl).cell 4 _ rfl
    have y5 := (B3.box 1 _ _ rfl).cell 5 _ rfl
    have y6 := (B3.box 1 _ _ rfl).cell 6 _ rfl
    have y7 := (B3.box 1 _ _ rfl).cell 7 _ rfl
    have y8 := (B3.box 1 _ _ rfl).cell 8 _ rfl
    have y9 := (B3.box 1 _ _ rfl).cell 9 _ rfl
    have y10 := (B3.box 1 _ _ rfl).cell 10 _ rfl
    have y11 := (B3.box 1 _ _ rfl).cell 11 _ rfl
    refine bodyPost_ret (by simp [results, Try.results10, go_sem, y0, y1, y2, y3, y4, y5, y6, y7, y8, y9, y10, y11]; try rfl) rfl ?_
    exact ⟨rfl, B3.bel⟩

set_option maxHeartbeats 8000000 in
set_option maxRecDepth 100000 in
theorem rrest_ok (t u : Nat → St) (w : World) (CK : Hid (∀ W, Calls Try.prog 11 #[.agg #[.int .i64 (t 0).m, .bool (t 0).f, .int .i64 (t 0).n, .int .i64 (t 1).m, .bool (t 1).f, .int .i64 (t 1).n, .int .i64 (t 2).m, .bool (t 2).f, .int .i64 (t 2).n, .int .i64 (t 3).m, .bool (t 3).f, .int .i64 (t 3).n]] W fun r w' => r = .returned (.int .i64 0) ∧ Below W.heap.size W w'))
    (CA : Hid (∀ W, Calls Try.prog 21 #[.agg #[.int .i64 (t 0).m, .bool (t 0).f, .int .i64 (t 0).n, .int .i64 (t 1).m, .bool (t 1).f, .int .i64 (t 1).n, .int .i64 (t 2).m, .bool (t 2).f, .int .i64 (t 2).n, .int .i64 (t 3).m, .bool (t 3).f, .int .i64 (t 3).n], .int .i64 2] W fun r w' => r = .returned (.agg #[.int .i64 (u 0).m, .bool (u 0).f, .int .i64 (u 0).n, .int .i64 (u 1).m, .bool (u 1).f, .int .i64 (u 1).n, .int .i64 (u 2).m, .bool (u 2).f, .int .i64 (u 2).n, .int .i64 (u 3).m, .bool (u 3).f, .int .i64 (u 3).n]) ∧ Below W.heap.size W w')) :
    Calls Try.prog 10 #[.agg #[.int .i64 (t 0).m, .bool (t 0).f, .int .i64 (t 0).n, .int .i64 (t 1).m, .bool (t 1).f, .int .i64 (t 1).n, .int .i64 (t 2).m, .bool (t 2).f, .int .i64 (t 2).n, .int .i64 (t 3).m, .bool (t 3).f, .int .i64 (t 3).n]] w fun r w' => r = .returned (.tuple #[.agg #[.int .i64 (u 0).m, .bool (u 0).f, .int .i64 (u 0).n, .int .i64 (u 1).m, .bool (u 1).f, .int .i64 (u 1).n, .int .i64 (u 2).m, .bool (u 2).f, .int .i64 (u 2).n, .int .i64 (u 3).m, .bool (u 3).f, .int .i64 (u 3).n], .int .i64 0]) ∧ Below w.heap.size w w' := by
  have B0 : Hid (_) := bxs_two w #[.int .i64 (t 0).m, .bool (t 0).f, .int .i64 (t 0).n, .int .i64 (t 1).m, .bool (t 1).f, .int .i64 (t 1).n, .int .i64 (t 2).m, .bool (t 2).f, .int .i64 (t 2).n, .int .i64 (t 3).m, .bool (t 3).f, .int .i64 (t 3).n] #[.int .i64 0, .bool false, .int .i64 0, .int .i64 0, .bool false, .int .i64 0, .int .i64 0, .bool false, .int .i64 0, .int .i64 0, .bool false, .int .i64 0] 25 25
  go_enter Try.func10, Try.ntmps10
  go_wp2_with fail
  refine (CK.out _).mono ?_
  rintro r w1 ⟨rfl, hb⟩
  have B1 : Hid (_) := B0.out.step hb
  clear hb B0 CK
  have cl := (B1.out.box 0 _ _ rfl).lt
  have c0 := (B1.out.box 0 _ _ rfl).cell 0 _ rfl
  have c1 := (B1.out.box 0 _ _ rfl).cell 1 _ rfl
  have c2 := (B1.out.box 0 _ _ rfl).cell 2 _ rfl
  have c3 := (B1.out.box 0 _ _ rfl).cell 3 _ rfl
  have c4 := (B1.out.box 0 _ _ rfl).cell 4 _ rfl
  have c5 := (B1.out.box 0 _ _ rfl).cell 5 _ rfl
  have c6 := (B1.out.box 0 _ _ rfl).cell 6 _ rfl
  have c7 := (B1.out.box 0 _ _ rfl).cell 7 _ rfl
  have c8 := (B1.out.box 0 _ _ rfl).cell 8 _ rfl
  have c9 := (B1.out.box 0 _ _ rfl).cell 9 _ rfl
  have c10 := (B1.out.box 0 _ _ rfl).cell 10 _ rfl
  have c11 := (B1.out.box 0 _ _ rfl).cell 11 _ rfl
  go_wp2_with fail
  refine (CA.out _).mono ?_
  rintro r w2 ⟨rfl, hb⟩
  have B2 : Hid (_) := B1.out.step hb
  clear hb B1 CA
  clear cl c0 c1 c2 c3 c4 c5 c6 c7 c8 c9 c10 c11
  have dl := (B2.out.box 1 _ _ rfl).lt
  have d0 := (B2.out.box 1 _ _ rfl).cell 0 _ rfl
  have d1 := (B2.out.box 1 _ _ rfl).cell 1 _ rfl
  have d2 := (B2.out.box 1 _ _ rfl).cell 2 _ rfl
  have d3 := (B2.out.box 1 _ _ rfl).cell 3 _ rfl
  have d4 := (B2.out.box 1 _ _ rfl).cell 4 _ rfl
  have d5 := (B2.out.box 1 _ _ rfl).cell 5 _ rfl
  have d6 := (B2.out.box 1 _ _ rfl).cell 6 _ rfl
  have d7 := (B2.out.box 1 _ _ rfl).cell 7 _ rfl
  have d8 := (B2.out.box 1 _ _ rfl).cell 8 _ rfl
  have d9 := (B2.out.box 1 _ _ rfl).cell 9 _ rfl
  have d10 := (B2.out.box 1 _ _ rfl).cell 10 _ rfl
  have d11 := (B2.out.box 1 _ _ rfl).cell 11 _ rfl
  have df0 := (B2.out.box 1 _ _ rfl).froz 0 _ rfl
  have df1 := (B2.out.box 1 _ _ rfl).froz 1 _ rfl
  have df2 := (B2.out.box 1 _ _ rfl).froz 2 _ rfl
  have df3 := (B2.out.box 1 _ _ rfl).froz 3 _ rfl
  have df4 := (B2.out.box 1 _ _ rfl).froz 4 _ rfl
  have df5 := (B2.out.box 1 _ _ rfl).froz 5 _ rfl
  have df6 := (B2.out.box 1 _ _ rfl).froz 6 _ rfl
  have df7 := (B2.out.box 1 _ _ rfl).froz 7 _ rfl
  have df8 := (B2.out.box 1 _ _ rfl).froz 8 _ rfl
  have df9 := (B2.out.box 1 _ _ rfl).froz 9 _ rfl
  have df10 := (B2.out.box 1 _ _ rfl).froz 10 _ rfl
  have df11 := (B2.out.box 1 _ _ rfl).froz 11 _ rfl
  go_wp2_with fail
  obtain ⟨w4, hw4, B4⟩ := B2.out.team 1 _ _ u rfl rfl
  rw [hw4]
  have yl := (B4.box 1 _ _ rfl).lt
  have y0 := (B4.box 1 _ _ rfl).cell 0 _ rfl
  have y1 := (B4.box 1 _ _ rfl).cell 1 _ rfl
  have y2 := (B4.box 1 _ _ rfl).cell 2 _ rfl
  have y3 := (B4.box 1 _ _ rfl).cell 3 _ rfl
  have y4 := (B4.box 1 _ _ rfl).cell 4 _ rfl
  have y5 := (B4.box 1 _ _ rfl).cell 5 _ rfl
  have y6 := (B4.box 1 _ _ rfl).cell 6 _ rfl
  have y7 := (B4.box 1 _ _ rfl).cell 7 _ rfl
  have y8 := (B4.box 1 _ _ rfl).cell 8 _ rfl
  have y9 := (B4.box 1 _ _ rfl).cell 9 _ rfl
  have y10 := (B4.box 1 _ _ rfl).cell 10 _ rfl
  have y11 := (B4.box 1 _ _ rfl).cell 11 _ rfl
  refine bodyPost_ret (by simp [results, Try.results10, go_sem, y0, y1, y2, y3, y4, y5, y6, y7, y8, y9, y10, y11]; try rfl) rfl ?_
  exact ⟨rfl, B4.bel⟩

end Go.Proofs.Ytnomceopmjlbhaa
