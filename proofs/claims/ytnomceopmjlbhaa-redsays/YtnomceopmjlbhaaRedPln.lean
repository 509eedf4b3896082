/-
  Contracts of red.Plan, Reset, Rest over letters. Of the memory that was there nothing turns.
-/
import Derived.Test.YtnomceopmjlbhaaRedUse
namespace Go.Proofs.Ytnomceopmjlbhaa
open Go.RowKit
set_option linter.unusedVariables false

theorem bxs_five (w : World) (a b c d e : Array Value) (t1 t2 t3 t4 t5 : TypeId) : Bxs w [(w.heap.size, a.toList), (w.heap.size + 1, b.toList), (w.heap.size + 1 + 1, c.toList), (w.heap.size + 1 + 1 + 1, d.toList), (w.heap.size + 1 + 1 + 1 + 1, e.toList)] (((((w.alloc (.cells a t1)).alloc (.cells b t2)).alloc (.cells c t3)).alloc (.cells d t4)).alloc (.cells e t5)) := by
  have := (((((bxs_nil w).push a t1).push b t2).push c t3).push d t4).push e t5
  simp only [lay_size] at this
  exact this
/-- nothing stored into a team's box -/
theorem Bxs.teamZ {w : World} {L : List (Nat × List Value)} {W : World} (h : Bxs w L W) (i b : Nat) (vs : List Value) (hi : L[i]? = some (b, vs)) (hv : vs.length = 12) :
    ∃ w3, ((((((((((((W.setCell ⟨b, 0, none⟩ (.int .i64 0)).setCell ⟨b, 1, none⟩ (.bool false)).setCell ⟨b, 2, none⟩ (.int .i64 0)).setCell ⟨b, 3, none⟩ (.int .i64 0)).setCell ⟨b, 4, none⟩ (.bool false)).setCell ⟨b, 5, none⟩ (.int .i64 0)).setCell ⟨b, 6, none⟩ (.int .i64 0)).setCell ⟨b, 7, none⟩ (.bool false)).setCell ⟨b, 8, none⟩ (.int .i64 0)).setCell ⟨b, 9, none⟩ (.int .i64 0)).setCell ⟨b, 10, none⟩ (.bool false)).setCell ⟨b, 11, none⟩ (.int .i64 0)) = w3 ∧ Bxs w (L.set i (b, [.int .i64 0, .bool false, .int .i64 0, .int .i64 0, .bool false, .int .i64 0, .int .i64 0, .bool false, .int .i64 0, .int .i64 0, .bool false, .int .i64 0])) w3 :=
  h.team i b vs (fun _ => ⟨0, false, 0⟩) hi hv

set_option maxHeartbeats 8000000 in
set_option maxRecDepth 100000 in
theorem rplan_bad (t : Nat → St) (o0 o1 o2 o3 f0 f1 f2 f3 : Bool) (E : Int) (w : World) (CK : Hid (∀ W, Calls Try.prog 11 #[.agg #[.int .i64 (t 0).m, .bool (t 0).f, .int .i64 (t 0).n, .int .i64 (t 1).m, .bool (t 1).f, .int .i64 (t 1).n, .int .i64 (t 2).m, .bool (t 2).f, .int .i64 (t 2).n, .int .i64 (t 3).m, .bool (t 3).f, .int .i64 (t 3).n]] W fun r w' => r = .returned (.int .i64 E) ∧ Below W.heap.size W w')) (hE : E = 1 ∨ E = 4) :
    Calls Try.prog 8 #[.agg #[.int .i64 (t 0).m, .bool (t 0).f, .int .i64 (t 0).n, .int .i64 (t 1).m, .bool (t 1).f, .int .i64 (t 1).n, .int .i64 (t 2).m, .bool (t 2).f, .int .i64 (t 2).n, .int .i64 (t 3).m, .bool (t 3).f, .int .i64 (t 3).n], .agg #[.bool o0, .bool o1, .bool o2, .bool o3], .agg #[.bool f0, .bool f1, .bool f2, .bool f3]] w fun r w' => r = .returned (.tuple #[.agg #[.int .i64 0, .bool false, .int .i64 0, .int .i64 0, .bool false, .int .i64 0, .int .i64 0, .bool false, .int .i64 0, .int .i64 0, .bool false, .int .i64 0], .agg #[.int .i64 0, .int .i64 0, .bool false], .int .i64 E]) ∧ Below w.heap.size w w' := by
  have B0 : Hid (_) := bxs_five w #[.int .i64 (t 0).m, .bool (t 0).f, .int .i64 (t 0).n, .int .i64 (t 1).m, .bool (t 1).f, .int .i64 (t 1).n, .int .i64 (t 2).m, .bool (t 2).f, .int .i64 (t 2).n, .int .i64 (t 3).m, .bool (t 3).f, .int .i64 (t 3).n] #[.bool o0, .bool o1, .bool o2, .bool o3] #[.bool f0, .bool f1, .bool f2, .bool f3] #[.int .i64 0, .bool false, .int .i64 0, .int .i64 0, .bool false, .int .i64 0, .int .i64 0, .bool false, .int .i64 0, .int .i64 0, .bool false, .int .i64 0] #[.int .i64 0, .int .i64 0, .bool false] 25 26 26 25 30
  go_enter Try.func8, Try.ntmps8
  go_wp2_with fail
  refine (CK.out _).mono ?_
  rintro r w1 ⟨rfl, hb⟩
  have B1 : Hid (_) := B0.out.step hb
  clear hb B0 CK
  have cl := (B1.out.box 3 _ _ rfl).lt
  have c0 := (B1.out.box 3 _ _ rfl).cell 0 _ rfl
  have c1 := (B1.out.box 3 _ _ rfl).cell 1 _ rfl
  have c2 := (B1.out.box 3 _ _ rfl).cell 2 _ rfl
  have c3 := (B1.out.box 3 _ _ rfl).cell 3 _ rfl
  have c4 := (B1.out.box 3 _ _ rfl).cell 4 _ rfl
  have c5 := (B1.out.box 3 _ _ rfl).cell 5 _ rfl
  have c6 := (B1.out.box 3 _ _ rfl).cell 6 _ rfl
  have c7 := (B1.out.box 3 _ _ rfl).cell 7 _ rfl
  have c8 := (B1.out.box 3 _ _ rfl).cell 8 _ rfl
  have c9 := (B1.out.box 3 _ _ rfl).cell 9 _ rfl
  have c10 := (B1.out.box 3 _ _ rfl).cell 10 _ rfl
  have c11 := (B1.out.box 3 _ _ rfl).cell 11 _ rfl
  have cf0 := (B1.out.box 3 _ _ rfl).froz 0 _ rfl
  have cf1 := (B1.out.box 3 _ _ rfl).froz 1 _ rfl
  have cf2 := (B1.out.box 3 _ _ rfl).froz 2 _ rfl
  have cf3 := (B1.out.box 3 _ _ rfl).froz 3 _ rfl
  have cf4 := (B1.out.box 3 _ _ rfl).froz 4 _ rfl
  have cf5 := (B1.out.box 3 _ _ rfl).froz 5 _ rfl
  have cf6 := (B1.out.box 3 _ _ rfl).froz 6 _ rfl
  have cf7 := (B1.out.box 3 _ _ rfl).froz 7 _ rfl
  have cf8 := (B1.out.box 3 _ _ rfl).froz 8 _ rfl
  have cf9 := (B1.out.box 3 _ _ rfl).froz 9 _ rfl
  have cf10 := (B1.out.box 3 _ _ rfl).froz 10 _ rfl
  have cf11 := (B1.out.box 3 _ _ rfl).froz 11 _ rfl
  have dl := (B1.out.box 4 _ _ rfl).lt
  have d0 := (B1.out.box 4 _ _ rfl).cell 0 _ rfl
  have d1 := (B1.out.box 4 _ _ rfl).cell 1 _ rfl
  have d2 := (B1.out.box 4 _ _ rfl).cell 2 _ rfl
  have df0 := (B1.out.box 4 _ _ rfl).froz 0 _ rfl
  have df1 := (B1.out.box 4 _ _ rfl).froz 1 _ rfl
  have df2 := (B1.out.box 4 _ _ rfl).froz 2 _ rfl
  rcases hE with rfl | rfl
  all_goals
    go_wp2_with fail
    obtain ⟨w3, hw3, B3⟩ := B1.out.teamZ 3 _ _ rfl rfl
    rw [hw3]
    obtain ⟨w4, hw4, B4⟩ := B3.put3 4 _ (.int .i64 0) (.int .i64 0) (.bool false) rfl
    rw [hw4]
    have yl := (B4.box 3 _ _ rfl).lt
    have y0 := (B4.box 3 _ _ rfl).cell 0 _ rfl
    have y1 := (B4.box 3 _ _ rfl).cell 1 _ rfl
    have y2 := (B4.box 3 _ _ rfl).cell 2 _ rfl
    have y3 := (B4.box 3 _ _ rfl).cell 3 _ rfl
    have y4 := (B4.box 3 _ _ rfl).cell 4 _ rfl
    have y5 := (B4.box 3 _ _ rfl).cell 5 _ rfl
    have y6 := (B4.box 3 _ _ rfl).cell 6 _ rfl
    have y7 := (B4.box 3 _ _ rfl).cell 7 _ rfl
    have y8 := (B4.box 3 _ _ rfl).cell 8 _ rfl
    have y9 := (B4.box 3 _ _ rfl).cell 9 _ rfl
    have y10 := (B4.box 3 _ _ rfl).cell 10 _ rfl
    have y11 := (B4.box 3 _ _ rfl).cell 11 _ rfl
    have zl := (B4.box 4 _ _ rfl).lt
    have z0 := (B4.box 4 _ _ rfl).cell 0 _ rfl
    have z1 := (B4.box 4 _ _ rfl).cell 1 _ rfl
    have z2 := (B4.box 4 _ _ rfl).cell 2 _ rfl
    refine bodyPost_ret (by simp [results, Try.results8, go_sem, y0, y1, y2, y3, y4, y5, y6, y7, y8, y9, y10, y11, z0, z1, z2]; try rfl) rfl ?_
    exact ⟨rfl, B4.bel⟩

set_option maxHeartbeats 16000000 in
set_option maxRecDepth 100000 in
theorem rplan_lost (t s b y : Nat → St) (o f : Nat → Bool) (U : Nat → Nat) (n K : Nat) (w : World) (hn : n = 0)
    (CK : Hid (∀ W, Calls Try.prog 11 #[.agg #[.int .i64 (t 0).m, .bool (t 0).f, .int .i64 (t 0).n, .int .i64 (t 1).m, .bool (t 1).f, .int .i64 (t 1).n, .int .i64 (t 2).m, .bool (t 2).f, .int .i64 (t 2).n, .int .i64 (t 3).m, .bool (t 3).f, .int .i64 (t 3).n]] W fun r w' => r = .returned (.int .i64 0) ∧ Below W.heap.size W w'))
    (CS : Hid (∀ W, Calls Try.prog 20 #[.agg #[.int .i64 (t 0).m, .bool (t 0).f, .int .i64 (t 0).n, .int .i64 (t 1).m, .bool (t 1).f, .int .i64 (t 1).n, .int .i64 (t 2).m, .bool (t 2).f, .int .i64 (t 2).n, .int .i64 (t 3).m, .bool (t 3).f, .int .i64 (t 3).n], .agg #[.bool (o 0), .bool (o 1), .bool (o 2), .bool (o 3)], .agg #[.bool (f 0), .bool (f 1), .bool (f 2), .bool (f 3)]] W fun r w' => r = .returned (.agg #[.int .i64 (s 0).m, .bool (s 0).f, .int .i64 (s 0).n, .int .i64 (s 1).m, .bool (s 1).f, .int .i64 (s 1).n, .int .i64 (s 2).m, .bool (s 2).f, .int .i64 (s 2).n, .int .i64 (s 3).m, .bool (s 3).f, .int .i64 (s 3).n]) ∧ Below W.heap.size W w'))
    (CU : Hid (∀ W, Calls Try.prog 13 #[.agg #[.int .i64 (s 0).m, .bool (s 0).f, .int .i64 (s 0).n, .int .i64 (s 1).m, .bool (s 1).f, .int .i64 (s 1).n, .int .i64 (s 2).m, .bool (s 2).f, .int .i64 (s 2).n, .int .i64 (s 3).m, .bool (s 3).f, .int .i64 (s 3).n], .agg #[.bool (o 0), .bool (o 1), .bool (o 2), .bool (o 3)]] W fun e w' => ∃ a c, e = .returned (.slice a n c) ∧ RI w' a n U ∧ Below W.heap.size W w'))
    (CB : Hid (∀ W, Calls Try.prog 21 #[.agg #[.int .i64 (s 0).m, .bool (s 0).f, .int .i64 (s 0).n, .int .i64 (s 1).m, .bool (s 1).f, .int .i64 (s 1).n, .int .i64 (s 2).m, .bool (s 2).f, .int .i64 (s 2).n, .int .i64 (s 3).m, .bool (s 3).f, .int .i64 (s 3).n], .int .i64 5] W fun r w' => r = .returned (.agg #[.int .i64 (b 0).m, .bool (b 0).f, .int .i64 (b 0).n, .int .i64 (b 1).m, .bool (b 1).f, .int .i64 (b 1).n, .int .i64 (b 2).m, .bool (b 2).f, .int .i64 (b 2).n, .int .i64 (b 3).m, .bool (b 3).f, .int .i64 (b 3).n]) ∧ Below W.heap.size W w'))
    (CA : Hid (∀ W, Calls Try.prog 24 #[.agg #[.int .i64 (b 0).m, .bool (b 0).f, .int .i64 (b 0).n, .int .i64 (b 1).m, .bool (b 1).f, .int .i64 (b 1).n, .int .i64 (b 2).m, .bool (b 2).f, .int .i64 (b 2).n, .int .i64 (b 3).m, .bool (b 3).f, .int .i64 (b 3).n], .agg #[.int .i64 (t 0).m, .bool (t 0).f, .int .i64 (t 0).n, .int .i64 (t 1).m, .bool (t 1).f, .int .i64 (t 1).n, .int .i64 (t 2).m, .bool (t 2).f, .int .i64 (t 2).n, .int .i64 (t 3).m, .bool (t 3).f, .int .i64 (t 3).n]] W fun r w' => r = .returned (.agg #[.int .i64 (y 0).m, .bool (y 0).f, .int .i64 (y 0).n, .int .i64 (y 1).m, .bool (y 1).f, .int .i64 (y 1).n, .int .i64 (y 2).m, .bool (y 2).f, .int .i64 (y 2).n, .int .i64 (y 3).m, .bool (y 3).f, .int .i64 (y 3).n]) ∧ Below W.heap.size W w'))
    (CM : Hid (∀ W, Calls Try.prog 25 #[.agg #[.int .i64 (y 0).m, .bool (y 0).f, .int .i64 (y 0).n, .int .i64 (y 1).m, .bool (y 1).f, .int .i64 (y 1).n, .int .i64 (y 2).m, .bool (y 2).f, .int .i64 (y 2).n, .int .i64 (y 3).m, .bool (y 3).f, .int .i64 (y 3).n]] W fun r w' => r = .returned (.int .i64 K) ∧ Below W.heap.size W w')) :
    Calls Try.prog 8 #[.agg #[.int .i64 (t 0).m, .bool (t 0).f, .int .i64 (t 0).n, .int .i64 (t 1).m, .bool (t 1).f, .int .i64 (t 1).n, .int .i64 (t 2).m, .bool (t 2).f, .int .i64 (t 2).n, .int .i64 (t 3).m, .bool (t 3).f, .int .i64 (t 3).n], .agg #[.bool (o 0), .bool (o 1), .bool (o 2), .bool (o 3)], .agg #[.bool (f 0), .bool (f 1), .bool (f 2), .bool (f 3)]] w fun r w' => r = .returned (.tuple #[.agg #[.int .i64 (y 0).m, .bool (y 0).f, .int .i64 (y 0).n, .int .i64 (y 1).m, .bool (y 1).f, .int .i64 (y 1).n, .int .i64 (y 2).m, .bool (y 2).f, .int .i64 (y 2).n, .int .i64 (y 3).m, .bool (y 3).f, .int .i64 (y 3).n], .agg #[.int .i64 0, .int .i64 K, .bool true], .int .i64 0]) ∧ Below w.heap.size w w' := by
  subst hn
  have B0 : Hid (_) := bxs_five w #[.int .i64 (t 0).m, .bool (t 0).f, .int .i64 (t 0).n, .int .i64 (t 1).m, .bool (t 1).f, .int .i64 (t 1).n, .int .i64 (t 2).m, .bool (t 2).f, .int .i64 (t 2).n, .int .i64 (t 3).m, .bool (t 3).f, .int .i64 (t 3).n] #[.bool (o 0), .bool (o 1), .bool (o 2), .bool (o 3)] #[.bool (f 0), .bool (f 1), .bool (f 2), .bool (f 3)] #[.int .i64 0, .bool false, .int .i64 0, .int .i64 0, .bool false, .int .i64 0, .int .i64 0, .bool false, .int .i64 0, .int .i64 0, .bool false, .int .i64 0] #[.int .i64 0, .int .i64 0, .bool false] 25 26 26 25 30
  go_enter Try.func8, Try.ntmps8
  go_wp2_with fail
  refine (CK.out _).mono ?_
  rintro r w1 ⟨rfl, hb⟩
  have B1 : Hid (_) := B0.out.step hb
  clear hb B0 CK
  have cl := (B1.out.box 0 _ _ rfl).lt
  have c0 := (B1.out.box 0 _ _ rfl).cell 0 _ rfl
  have c1 := (B1.out.box 0 _ _ rfl).cell 1 _ rfl
  have c2 := (B1.out.box 0 _ _ rfl).cell 2 _ rfl
  have c3 := (B1.out.box 0 _ _ rfl).cell 3 _ rfl
  have c4 := (B1.out.box 0 _ _ rfl).cell 4 _ rfl
  have c5 := (B1.out.box 0 _ _ rfl).cell 5 _ rfl
  have c6 := (B1.out.box 0 _ _ rfl).cell 6 _ rfl
  have c7 := (B1.out.box 0 _ _ rfl).cell 7 _ rfl
  have c8 := (B1.out.box 0 _ _ rfl).cell 8 _ rfl
  have c9 := (B1.out.box 0 _ _ rfl).cell 9 _ rfl
  have c10 := (B1.out.box 0 _ _ rfl).cell 10 _ rfl
  have c11 := (B1.out.box 0 _ _ rfl).cell 11 _ rfl
  have dl := (B1.out.box 1 _ _ rfl).lt
  have d0 := (B1.out.box 1 _ _ rfl).cell 0 _ rfl
  have d1 := (B1.out.box 1 _ _ rfl).cell 1 _ rfl
  have d2 := (B1.out.box 1 _ _ rfl).cell 2 _ rfl
  have d3 := (B1.out.box 1 _ _ rfl).cell 3 _ rfl
  have el := (B1.out.box 2 _ _ rfl).lt
  have e0 := (B1.out.box 2 _ _ rfl).cell 0 _ rfl
  have e1 := (B1.out.box 2 _ _ rfl).cell 1 _ rfl
  have e2 := (B1.out.box 2 _ _ rfl).cell 2 _ rfl
  have e3 := (B1.out.box 2 _ _ rfl).cell 3 _ rfl
  go_wp2_with fail
  refine (CS.out _).mono ?_
  rintro r w2 ⟨rfl, hb⟩
  have B2 : Hid (_) := B1.out.step hb
  clear hb B1 CS
  clear cl c0 c1 c2 c3 c4 c5 c6 c7 c8 c9 c10 c11
  clear dl d0 d1 d2 d3
  clear el e0 e1 e2 e3
  have dl := (B2.out.box 1 _ _ rfl).lt
  have d0 := (B2.out.box 1 _ _ rfl).cell 0 _ rfl
  have d1 := (B2.out.box 1 _ _ rfl).cell 1 _ rfl
  have d2 := (B2.out.box 1 _ _ rfl).cell 2 _ rfl
  have d3 := (B2.out.box 1 _ _ rfl).cell 3 _ rfl
  go_wp2_with fail
  obtain ⟨N, W3, hW3, hN3, B3', Z3⟩ := B2.out.new #[.int .i64 (s 0).m, .bool (s 0).f, .int .i64 (s 0).n, .int .i64 (s 1).m, .bool (s 1).f, .int .i64 (s 1).n, .int .i64 (s 2).m, .bool (s 2).f, .int .i64 (s 2).n, .int .i64 (s 3).m, .bool (s 3).f, .int .i64 (s 3).n] 25
  rw [hW3, hN3]
  have B3 : Hid (_) := B3'
  clear hW3 hN3 B3' B2 Z3
  clear dl d0 d1 d2 d3
  refine (CU.out _).mono ?_
  rintro r w4 ⟨a, cap, rfl, hri, hb⟩
  have B4 : Hid (_) := B3.out.step hb
  have HR : Hid (RI w4 a 0 U) := hri
  clear hb hri B3 CU
  have xl := (B4.out.box 5 _ _ rfl).lt
  have x0 := (B4.out.box 5 _ _ rfl).cell 0 _ rfl
  have x1 := (B4.out.box 5 _ _ rfl).cell 1 _ rfl
  have x2 := (B4.out.box 5 _ _ rfl).cell 2 _ rfl
  have x3 := (B4.out.box 5 _ _ rfl).cell 3 _ rfl
  have x4 := (B4.out.box 5 _ _ rfl).cell 4 _ rfl
  have x5 := (B4.out.box 5 _ _ rfl).cell 5 _ rfl
  have x6 := (B4.out.box 5 _ _ rfl).cell 6 _ rfl
  have x7 := (B4.out.box 5 _ _ rfl).cell 7 _ rfl
  have x8 := (B4.out.box 5 _ _ rfl).cell 8 _ rfl
  have x9 := (B4.out.box 5 _ _ rfl).cell 9 _ rfl
  have x10 := (B4.out.box 5 _ _ rfl).cell 10 _ rfl
  have x11 := (B4.out.box 5 _ _ rfl).cell 11 _ rfl
  go_wp2_with fail
  refine (CB.out _).mono ?_
  rintro r w5 ⟨rfl, hb⟩
  have B5 : Hid (_) := B4.out.step hb
  clear hb B4 CB
  clear xl x0 x1 x2 x3 x4 x5 x6 x7 x8 x9 x10 x11
  obtain ⟨w6, hw6, B6'⟩ := B5.out.team 5 N _ b rfl rfl
  have B6 : Hid (Bxs w [(w.heap.size, [.int .i64 (t 0).m, .bool (t 0).f, .int .i64 (t 0).n, .int .i64 (t 1).m, .bool (t 1).f, .int .i64 (t 1).n, .int .i64 (t 2).m, .bool (t 2).f, .int .i64 (t 2).n, .int .i64 (t 3).m, .bool (t 3).f, .int .i64 (t 3).n]), (w.heap.size + 1, [.bool (o 0), .bool (o 1), .bool (o 2), .bool (o 3)]), (w.heap.size + 1 + 1, [.bool (f 0), .bool (f 1), .bool (f 2), .bool (f 3)]), (w.heap.size + 1 + 1 + 1, [.int .i64 0, .bool false, .int .i64 0, .int .i64 0, .bool false, .int .i64 0, .int .i64 0, .bool false, .int .i64 0, .int .i64 0, .bool false, .int .i64 0]), (w.heap.size + 1 + 1 + 1 + 1, [.int .i64 0, .int .i64 0, .bool false]), (N, [.int .i64 (b 0).m, .bool (b 0).f, .int .i64 (b 0).n, .int .i64 (b 1).m, .bool (b 1).f, .int .i64 (b 1).n, .int .i64 (b 2).m, .bool (b 2).f, .int .i64 (b 2).n, .int .i64 (b 3).m, .bool (b 3).f, .int .i64 (b 3).n])] w6) := B6'
  clear B6'
  have xl := (B5.out.box 5 _ _ rfl).lt
  have x0 := (B5.out.box 5 _ _ rfl).cell 0 _ rfl
  have x1 := (B5.out.box 5 _ _ rfl).cell 1 _ rfl
  have x2 := (B5.out.box 5 _ _ rfl).cell 2 _ rfl
  have x3 := (B5.out.box 5 _ _ rfl).cell 3 _ rfl
  have x4 := (B5.out.box 5 _ _ rfl).cell 4 _ rfl
  have x5 := (B5.out.box 5 _ _ rfl).cell 5 _ rfl
  have x6 := (B5.out.box 5 _ _ rfl).cell 6 _ rfl
  have x7 := (B5.out.box 5 _ _ rfl).cell 7 _ rfl
  have x8 := (B5.out.box 5 _ _ rfl).cell 8 _ rfl
  have x9 := (B5.out.box 5 _ _ rfl).cell 9 _ rfl
  have x10 := (B5.out.box 5 _ _ rfl).cell 10 _ rfl
  have x11 := (B5.out.box 5 _ _ rfl).cell 11 _ rfl
  have xf0 := (B5.out.box 5 _ _ rfl).froz 0 _ rfl
  have xf1 := (B5.out.box 5 _ _ rfl).froz 1 _ rfl
  have xf2 := (B5.out.box 5 _ _ rfl).froz 2 _ rfl
  have xf3 := (B5.out.box 5 _ _ rfl).froz 3 _ rfl
  have xf4 := (B5.out.box 5 _ _ rfl).froz 4 _ rfl
  have xf5 := (B5.out.box 5 _ _ rfl).froz 5 _ rfl
  have xf6 := (B5.out.box 5 _ _ rfl).froz 6 _ rfl
  have xf7 := (B5.out.box 5 _ _ rfl).froz 7 _ rfl
  have xf8 := (B5.out.box 5 _ _ rfl).froz 8 _ rfl
  have xf9 := (B5.out.box 5 _ _ rfl).froz 9 _ rfl
  have xf10 := (B5.out.box 5 _ _ rfl).froz 10 _ rfl
  have xf11 := (B5.out.box 5 _ _ rfl).froz 11 _ rfl
  go_upto_region 9 with (fail)
  try rw [hw6]
  clear hw6 B5
  clear xl x0 x1 x2 x3 x4 x5 x6 x7 x8 x9 x10 x11
  clear xf0 xf1 xf2 xf3 xf4 xf5 xf6 xf7 xf8 xf9 xf10 xf11
  have xl := (B6.out.box 5 _ _ rfl).lt
  have x0 := (B6.out.box 5 _ _ rfl).cell 0 _ rfl
  have x1 := (B6.out.box 5 _ _ rfl).cell 1 _ rfl
  have x2 := (B6.out.box 5 _ _ rfl).cell 2 _ rfl
  have x3 := (B6.out.box 5 _ _ rfl).cell 3 _ rfl
  have x4 := (B6.out.box 5 _ _ rfl).cell 4 _ rfl
  have x5 := (B6.out.box 5 _ _ rfl).cell 5 _ rfl
  have x6 := (B6.out.box 5 _ _ rfl).cell 6 _ rfl
  have x7 := (B6.out.box 5 _ _ rfl).cell 7 _ rfl
  have x8 := (B6.out.box 5 _ _ rfl).cell 8 _ rfl
  have x9 := (B6.out.box 5 _ _ rfl).cell 9 _ rfl
  have x10 := (B6.out.box 5 _ _ rfl).cell 10 _ rfl
  have x11 := (B6.out.box 5 _ _ rfl).cell 11 _ rfl
  have cl := (B6.out.box 0 _ _ rfl).lt
  have c0 := (B6.out.box 0 _ _ rfl).cell 0 _ rfl
  have c1 := (B6.out.box 0 _ _ rfl).cell 1 _ rfl
  have c2 := (B6.out.box 0 _ _ rfl).cell 2 _ rfl
  have c3 := (B6.out.box 0 _ _ rfl).cell 3 _ rfl
  have c4 := (B6.out.box 0 _ _ rfl).cell 4 _ rfl
  have c5 := (B6.out.box 0 _ _ rfl).cell 5 _ rfl
  have c6 := (B6.out.box 0 _ _ rfl).cell 6 _ rfl
  have c7 := (B6.out.box 0 _ _ rfl).cell 7 _ rfl
  have c8 := (B6.out.box 0 _ _ rfl).cell 8 _ rfl
  have c9 := (B6.out.box 0 _ _ rfl).cell 9 _ rfl
  have c10 := (B6.out.box 0 _ _ rfl).cell 10 _ rfl
  have c11 := (B6.out.box 0 _ _ rfl).cell 11 _ rfl
  go_wp2_with fail
  refine (CA.out _).mono ?_
  rintro r w7 ⟨rfl, hb⟩
  have B7 : Hid (_) := B6.out.step hb
  clear hb B6 CA
  clear xl x0 x1 x2 x3 x4 x5 x6 x7 x8 x9 x10 x11
  clear cl c0 c1 c2 c3 c4 c5 c6 c7 c8 c9 c10 c11
  obtain ⟨w8, hw8, B8'⟩ := B7.out.team 5 N _ y rfl rfl
  have B8 : Hid (Bxs w [(w.heap.size, [.int .i64 (t 0).m, .bool (t 0).f, .int .i64 (t 0).n, .int .i64 (t 1).m, .bool (t 1).f, .int .i64 (t 1).n, .int .i64 (t 2).m, .bool (t 2).f, .int .i64 (t 2).n, .int .i64 (t 3).m, .bool (t 3).f, .int .i64 (t 3).n]), (w.heap.size + 1, [.bool (o 0), .bool (o 1), .bool (o 2), .bool (o 3)]), (w.heap.size + 1 + 1, [.bool (f 0), .bool (f 1), .bool (f 2), .bool (f 3)]), (w.heap.size + 1 + 1 + 1, [.int .i64 0, .bool false, .int .i64 0, .int .i64 0, .bool false, .int .i64 0, .int .i64 0, .bool false, .int .i64 0, .int .i64 0, .bool false, .int .i64 0]), (w.heap.size + 1 + 1 + 1 + 1, [.int .i64 0, .int .i64 0, .bool false]), (N, [.int .i64 (y 0).m, .bool (y 0).f, .int .i64 (y 0).n, .int .i64 (y 1).m, .bool (y 1).f, .int .i64 (y 1).n, .int .i64 (y 2).m, .bool (y 2).f, .int .i64 (y 2).n, .int .i64 (y 3).m, .bool (y 3).f, .int .i64 (y 3).n])] w8) := B8'
  clear B8'
  have xl := (B7.out.box 5 _ _ rfl).lt
  have x0 := (B7.out.box 5 _ _ rfl).cell 0 _ rfl
  have x1 := (B7.out.box 5 _ _ rfl).cell 1 _ rfl
  have x2 := (B7.out.box 5 _ _ rfl).cell 2 _ rfl
  have x3 := (B7.out.box 5 _ _ rfl).cell 3 _ rfl
  have x4 := (B7.out.box 5 _ _ rfl).cell 4 _ rfl
  have x5 := (B7.out.box 5 _ _ rfl).cell 5 _ rfl
  have x6 := (B7.out.box 5 _ _ rfl).cell 6 _ rfl
  have x7 := (B7.out.box 5 _ _ rfl).cell 7 _ rfl
  have x8 := (B7.out.box 5 _ _ rfl).cell 8 _ rfl
  have x9 := (B7.out.box 5 _ _ rfl).cell 9 _ rfl
  have x10 := (B7.out.box 5 _ _ rfl).cell 10 _ rfl
  have x11 := (B7.out.box 5 _ _ rfl).cell 11 _ rfl
  have xf0 := (B7.out.box 5 _ _ rfl).froz 0 _ rfl
  have xf1 := (B7.out.box 5 _ _ rfl).froz 1 _ rfl
  have xf2 := (B7.out.box 5 _ _ rfl).froz 2 _ rfl
  have xf3 := (B7.out.box 5 _ _ rfl).froz 3 _ rfl
  have xf4 := (B7.out.box 5 _ _ rfl).froz 4 _ rfl
  have xf5 := (B7.out.box 5 _ _ rfl).froz 5 _ rfl
  have xf6 := (B7.out.box 5 _ _ rfl).froz 6 _ rfl
  have xf7 := (B7.out.box 5 _ _ rfl).froz 7 _ rfl
  have xf8 := (B7.out.box 5 _ _ rfl).froz 8 _ rfl
  have xf9 := (B7.out.box 5 _ _ rfl).froz 9 _ rfl
  have xf10 := (B7.out.box 5 _ _ rfl).froz 10 _ rfl
  have xf11 := (B7.out.box 5 _ _ rfl).froz 11 _ rfl
  go_upto_region 10 with (fail)
  try rw [hw8]
  clear hw8 B7
  clear xl x0 x1 x2 x3 x4 x5 x6 x7 x8 x9 x10 x11
  clear xf0 xf1 xf2 xf3 xf4 xf5 xf6 xf7 xf8 xf9 xf10 xf11
  have xl := (B8.out.box 5 _ _ rfl).lt
  have x0 := (B8.out.box 5 _ _ rfl).cell 0 _ rfl
  have x1 := (B8.out.box 5 _ _ rfl).cell 1 _ rfl
  have x2 := (B8.out.box 5 _ _ rfl).cell 2 _ rfl
  have x3 := (B8.out.box 5 _ _ rfl).cell 3 _ rfl
  have x4 := (B8.out.box 5 _ _ rfl).cell 4 _ rfl
  have x5 := (B8.out.box 5 _ _ rfl).cell 5 _ rfl
  have x6 := (B8.out.box 5 _ _ rfl).cell 6 _ rfl
  have x7 := (B8.out.box 5 _ _ rfl).cell 7 _ rfl
  have x8 := (B8.out.box 5 _ _ rfl).cell 8 _ rfl
  have x9 := (B8.out.box 5 _ _ rfl).cell 9 _ rfl
  have x10 := (B8.out.box 5 _ _ rfl).cell 10 _ rfl
  have x11 := (B8.out.box 5 _ _ rfl).cell 11 _ rfl
  go_wp2_with fail
  refine (CM.out _).mono ?_
  rintro r w9 ⟨rfl, hb⟩
  have B9 : Hid (_) := B8.out.step hb
  clear hb B8 CM
  clear xl x0 x1 x2 x3 x4 x5 x6 x7 x8 x9 x10 x11
  go_upto_region 11 with (fail)
  obtain ⟨M, W10, hW10, hM, B10', Z10⟩ := B9.out.new #[.int .i64 0, .int .i64 K, .bool true] 30
  rw [hW10, hM]
  have B10 : Hid (_) := B10'
  clear hW10 hM B10' B9 Z10
  have xl := (B10.out.box 5 _ _ rfl).lt
  have x0 := (B10.out.box 5 _ _ rfl).cell 0 _ rfl
  have x1 := (B10.out.box 5 _ _ rfl).cell 1 _ rfl
  have x2 := (B10.out.box 5 _ _ rfl).cell 2 _ rfl
  have x3 := (B10.out.box 5 _ _ rfl).cell 3 _ rfl
  have x4 := (B10.out.box 5 _ _ rfl).cell 4 _ rfl
  have x5 := (B10.out.box 5 _ _ rfl).cell 5 _ rfl
  have x6 := (B10.out.box 5 _ _ rfl).cell 6 _ rfl
  have x7 := (B10.out.box 5 _ _ rfl).cell 7 _ rfl
  have x8 := (B10.out.box 5 _ _ rfl).cell 8 _ rfl
  have x9 := (B10.out.box 5 _ _ rfl).cell 9 _ rfl
  have x10 := (B10.out.box 5 _ _ rfl).cell 10 _ rfl
  have x11 := (B10.out.box 5 _ _ rfl).cell 11 _ rfl
  have zl := (B10.out.box 6 _ _ rfl).lt
  have z0 := (B10.out.box 6 _ _ rfl).cell 0 _ rfl
  have z1 := (B10.out.box 6 _ _ rfl).cell 1 _ rfl
  have z2 := (B10.out.box 6 _ _ rfl).cell 2 _ rfl
  have pl := (B10.out.box 3 _ _ rfl).lt
  have p0 := (B10.out.box 3 _ _ rfl).cell 0 _ rfl
  have p1 := (B10.out.box 3 _ _ rfl).cell 1 _ rfl
  have p2 := (B10.out.box 3 _ _ rfl).cell 2 _ rfl
  have p3 := (B10.out.box 3 _ _ rfl).cell 3 _ rfl
  have p4 := (B10.out.box 3 _ _ rfl).cell 4 _ rfl
  have p5 := (B10.out.box 3 _ _ rfl).cell 5 _ rfl
  have p6 := (B10.out.box 3 _ _ rfl).cell 6 _ rfl
  have p7 := (B10.out.box 3 _ _ rfl).cell 7 _ rfl
  have p8 := (B10.out.box 3 _ _ rfl).cell 8 _ rfl
  have p9 := (B10.out.box 3 _ _ rfl).cell 9 _ rfl
  have p10 := (B10.out.box 3 _ _ rfl).cell 10 _ rfl
  have p11 := (B10.out.box 3 _ _ rfl).cell 11 _ rfl
  have pf0 := (B10.out.box 3 _ _ rfl).froz 0 _ rfl
  have pf1 := (B10.out.box 3 _ _ rfl).froz 1 _ rfl
  have pf2 := (B10.out.box 3 _ _ rfl).froz 2 _ rfl
  have pf3 := (B10.out.box 3 _ _ rfl).froz 3 _ rfl
  have pf4 := (B10.out.box 3 _ _ rfl).froz 4 _ rfl
  have pf5 := (B10.out.box 3 _ _ rfl).froz 5 _ rfl
  have pf6 := (B10.out.box 3 _ _ rfl).froz 6 _ rfl
  have pf7 := (B10.out.box 3 _ _ rfl).froz 7 _ rfl
  have pf8 := (B10.out.box 3 _ _ rfl).froz 8 _ rfl
  have pf9 := (B10.out.box 3 _ _ rfl).froz 9 _ rfl
  have pf10 := (B10.out.box 3 _ _ rfl).froz 10 _ rfl
  have pf11 := (B10.out.box 3 _ _ rfl).froz 11 _ rfl
  have ql := (B10.out.box 4 _ _ rfl).lt
  have q0 := (B10.out.box 4 _ _ rfl).cell 0 _ rfl
  have q1 := (B10.out.box 4 _ _ rfl).cell 1 _ rfl
  have q2 := (B10.out.box 4 _ _ rfl).cell 2 _ rfl
  have qf0 := (B10.out.box 4 _ _ rfl).froz 0 _ rfl
  have qf1 := (B10.out.box 4 _ _ rfl).froz 1 _ rfl
  have qf2 := (B10.out.box 4 _ _ rfl).froz 2 _ rfl
  have h63 : ¬ M = w.heap.size + 1 + 1 + 1 := B10.out.nd 6 3 _ _ _ _ rfl rfl (by omega)
  have h64 : ¬ M = w.heap.size + 1 + 1 + 1 + 1 := B10.out.nd 6 4 _ _ _ _ rfl rfl (by omega)
  have h53 : ¬ N = w.heap.size + 1 + 1 + 1 := B10.out.nd 5 3 _ _ _ _ rfl rfl (by omega)
  have h54 : ¬ N = w.heap.size + 1 + 1 + 1 + 1 := B10.out.nd 5 4 _ _ _ _ rfl rfl (by omega)
  have g63 : ¬ w.heap.size + 1 + 1 + 1 = M := fun h => h63 h.symm
  have g64 : ¬ w.heap.size + 1 + 1 + 1 + 1 = M := fun h => h64 h.symm
  have g53 : ¬ w.heap.size + 1 + 1 + 1 = N := fun h => h53 h.symm
  have g54 : ¬ w.heap.size + 1 + 1 + 1 + 1 = N := fun h => h54 h.symm
  go_region
  all_goals (try go_wp2_with fail)
  obtain ⟨w11, hw11, B11⟩ := B10.out.team 3 _ _ y rfl rfl
  rw [hw11]
  obtain ⟨w12, hw12, B12⟩ := B11.put3 4 _ (.int .i64 0) (.int .i64 K) (.bool true) rfl
  rw [hw12]
  have B13 := B12.drew
  generalize w12.drew = w13 at *
  have yl := (B13.box 3 _ _ rfl).lt
  have y0 := (B13.box 3 _ _ rfl).cell 0 _ rfl
  have y1 := (B13.box 3 _ _ rfl).cell 1 _ rfl
  have y2 := (B13.box 3 _ _ rfl).cell 2 _ rfl
  have y3 := (B13.box 3 _ _ rfl).cell 3 _ rfl
  have y4 := (B13.box 3 _ _ rfl).cell 4 _ rfl
  have y5 := (B13.box 3 _ _ rfl).cell 5 _ rfl
  have y6 := (B13.box 3 _ _ rfl).cell 6 _ rfl
  have y7 := (B13.box 3 _ _ rfl).cell 7 _ rfl
  have y8 := (B13.box 3 _ _ rfl).cell 8 _ rfl
  have y9 := (B13.box 3 _ _ rfl).cell 9 _ rfl
  have y10 := (B13.box 3 _ _ rfl).cell 10 _ rfl
  have y11 := (B13.box 3 _ _ rfl).cell 11 _ rfl
  have ul := (B13.box 4 _ _ rfl).lt
  have u0 := (B13.box 4 _ _ rfl).cell 0 _ rfl
  have u1 := (B13.box 4 _ _ rfl).cell 1 _ rfl
  have u2 := (B13.box 4 _ _ rfl).cell 2 _ rfl
  refine bodyPost_ret (by simp [results, Try.results8, go_sem, y0, y1, y2, y3, y4, y5, y6, y7, y8, y9, y10, y11, u0, u1, u2]; try rfl) rfl ?_
  exact ⟨rfl, B13.bel⟩

set_option maxHeartbeats 16000000 in
set_option maxRecDepth 100000 in
theorem rplan_has (t s c b y : Nat → St) (o f : Nat → Bool) (U : Nat → Nat) (n K : Nat) (w : World) (hn : 0 < n)
    (CK : Hid (∀ W, Calls Try.prog 11 #[.agg #[.int .i64 (t 0).m, .bool (t 0).f, .int .i64 (t 0).n, .int .i64 (t 1).m, .bool (t 1).f, .int .i64 (t 1).n, .int .i64 (t 2).m, .bool (t 2).f, .int .i64 (t 2).n, .int .i64 (t 3).m, .bool (t 3).f, .int .i64 (t 3).n]] W fun r w' => r = .returned (.int .i64 0) ∧ Below W.heap.size W w'))
    (CS : Hid (∀ W, Calls Try.prog 20 #[.agg #[.int .i64 (t 0).m, .bool (t 0).f, .int .i64 (t 0).n, .int .i64 (t 1).m, .bool (t 1).f, .int .i64 (t 1).n, .int .i64 (t 2).m, .bool (t 2).f, .int .i64 (t 2).n, .int .i64 (t 3).m, .bool (t 3).f, .int .i64 (t 3).n], .agg #[.bool (o 0), .bool (o 1), .bool (o 2), .bool (o 3)], .agg #[.bool (f 0), .bool (f 1), .bool (f 2), .bool (f 3)]] W fun r w' => r = .returned (.agg #[.int .i64 (s 0).m, .bool (s 0).f, .int .i64 (s 0).n, .int .i64 (s 1).m, .bool (s 1).f, .int .i64 (s 1).n, .int .i64 (s 2).m, .bool (s 2).f, .int .i64 (s 2).n, .int .i64 (s 3).m, .bool (s 3).f, .int .i64 (s 3).n]) ∧ Below W.heap.size W w'))
    (CU : Hid (∀ W, Calls Try.prog 13 #[.agg #[.int .i64 (s 0).m, .bool (s 0).f, .int .i64 (s 0).n, .int .i64 (s 1).m, .bool (s 1).f, .int .i64 (s 1).n, .int .i64 (s 2).m, .bool (s 2).f, .int .i64 (s 2).n, .int .i64 (s 3).m, .bool (s 3).f, .int .i64 (s 3).n], .agg #[.bool (o 0), .bool (o 1), .bool (o 2), .bool (o 3)]] W fun e w' => ∃ a c, e = .returned (.slice a n c) ∧ RI w' a n U ∧ Below W.heap.size W w'))
    (CF : Hid (∀ W, Calls Try.prog 23 #[.agg #[.int .i64 (s 0).m, .bool (s 0).f, .int .i64 (s 0).n, .int .i64 (s 1).m, .bool (s 1).f, .int .i64 (s 1).n, .int .i64 (s 2).m, .bool (s 2).f, .int .i64 (s 2).n, .int .i64 (s 3).m, .bool (s 3).f, .int .i64 (s 3).n]] W fun r w' => r = .returned (.agg #[.int .i64 (c 0).m, .bool (c 0).f, .int .i64 (c 0).n, .int .i64 (c 1).m, .bool (c 1).f, .int .i64 (c 1).n, .int .i64 (c 2).m, .bool (c 2).f, .int .i64 (c 2).n, .int .i64 (c 3).m, .bool (c 3).f, .int .i64 (c 3).n]) ∧ Below W.heap.size W w'))
    (CB : Hid (∀ (a : Option Addr) (cap : Nat) W, RI W a n U → Calls Try.prog 22 #[.agg #[.int .i64 (c 0).m, .bool (c 0).f, .int .i64 (c 0).n, .int .i64 (c 1).m, .bool (c 1).f, .int .i64 (c 1).n, .int .i64 (c 2).m, .bool (c 2).f, .int .i64 (c 2).n, .int .i64 (c 3).m, .bool (c 3).f, .int .i64 (c 3).n], .slice a n cap] W fun r w' => r = .returned (.agg #[.int .i64 (b 0).m, .bool (b 0).f, .int .i64 (b 0).n, .int .i64 (b 1).m, .bool (b 1).f, .int .i64 (b 1).n, .int .i64 (b 2).m, .bool (b 2).f, .int .i64 (b 2).n, .int .i64 (b 3).m, .bool (b 3).f, .int .i64 (b 3).n]) ∧ Below W.heap.size W w'))
    (CA : Hid (∀ W, Calls Try.prog 24 #[.agg #[.int .i64 (b 0).m, .bool (b 0).f, .int .i64 (b 0).n, .int .i64 (b 1).m, .bool (b 1).f, .int .i64 (b 1).n, .int .i64 (b 2).m, .bool (b 2).f, .int .i64 (b 2).n, .int .i64 (b 3).m, .bool (b 3).f, .int .i64 (b 3).n], .agg #[.int .i64 (t 0).m, .bool (t 0).f, .int .i64 (t 0).n, .int .i64 (t 1).m, .bool (t 1).f, .int .i64 (t 1).n, .int .i64 (t 2).m, .bool (t 2).f, .int .i64 (t 2).n, .int .i64 (t 3).m, .bool (t 3).f, .int .i64 (t 3).n]] W fun r w' => r = .returned (.agg #[.int .i64 (y 0).m, .bool (y 0).f, .int .i64 (y 0).n, .int .i64 (y 1).m, .bool (y 1).f, .int .i64 (y 1).n, .int .i64 (y 2).m, .bool (y 2).f, .int .i64 (y 2).n, .int .i64 (y 3).m, .bool (y 3).f, .int .i64 (y 3).n]) ∧ Below W.heap.size W w'))
    (CM : Hid (∀ W, Calls Try.prog 25 #[.agg #[.int .i64 (y 0).m, .bool (y 0).f, .int .i64 (y 0).n, .int .i64 (y 1).m, .bool (y 1).f, .int .i64 (y 1).n, .int .i64 (y 2).m, .bool (y 2).f, .int .i64 (y 2).n, .int .i64 (y 3).m, .bool (y 3).f, .int .i64 (y 3).n]] W fun r w' => r = .returned (.int .i64 K) ∧ Below W.heap.size W w')) :
    Calls Try.prog 8 #[.agg #[.int .i64 (t 0).m, .bool (t 0).f, .int .i64 (t 0).n, .int .i64 (t 1).m, .bool (t 1).f, .int .i64 (t 1).n, .int .i64 (t 2).m, .bool (t 2).f, .int .i64 (t 2).n, .int .i64 (t 3).m, .bool (t 3).f, .int .i64 (t 3).n], .agg #[.bool (o 0), .bool (o 1), .bool (o 2), .bool (o 3)], .agg #[.bool (f 0), .bool (f 1), .bool (f 2), .bool (f 3)]] w fun r w' => r = .returned (.tuple #[.agg #[.int .i64 (y 0).m, .bool (y 0).f, .int .i64 (y 0).n, .int .i64 (y 1).m, .bool (y 1).f, .int .i64 (y 1).n, .int .i64 (y 2).m, .bool (y 2).f, .int .i64 (y 2).n, .int .i64 (y 3).m, .bool (y 3).f, .int .i64 (y 3).n], .agg #[.int .i64 n, .int .i64 K, .bool false], .int .i64 0]) ∧ Below w.heap.size w w' := by
  have hz : ((n : Int) == 0) = false := by simp; omega
  clear hn
  have B0 : Hid (_) := bxs_five w #[.int .i64 (t 0).m, .bool (t 0).f, .int .i64 (t 0).n, .int .i64 (t 1).m, .bool (t 1).f, .int .i64 (t 1).n, .int .i64 (t 2).m, .bool (t 2).f, .int .i64 (t 2).n, .int .i64 (t 3).m, .bool (t 3).f, .int .i64 (t 3).n] #[.bool (o 0), .bool (o 1), .bool (o 2), .bool (o 3)] #[.bool (f 0), .bool (f 1), .bool (f 2), .bool (f 3)] #[.int .i64 0, .bool false, .int .i64 0, .int .i64 0, .bool false, .int .i64 0, .int .i64 0, .bool false, .int .i64 0, .int .i64 0, .bool false, .int .i64 0] #[.int .i64 0, .int .i64 0, .bool false] 25 26 26 25 30
  go_enter Try.func8, Try.ntmps8
  go_wp2_with fail
  refine (CK.out _).mono ?_
  rintro r w1 ⟨rfl, hb⟩
  have B1 : Hid (_) := B0.out.step hb
  clear hb B0 CK
  have cl := (B1.out.box 0 _ _ rfl).lt
  have c0 := (B1.out.box 0 _ _ rfl).cell 0 _ rfl
  have c1 := (B1.out.box 0 _ _ rfl).cell 1 _ rfl
  have c2 := (B1.out.box 0 _ _ rfl).cell 2 _ rfl
  have c3 := (B1.out.box 0 _ _ rfl).cell 3 _ rfl
  have c4 := (B1.out.box 0 _ _ rfl).cell 4 _ rfl
  have c5 := (B1.out.box 0 _ _ rfl).cell 5 _ rfl
  have c6 := (B1.out.box 0 _ _ rfl).cell 6 _ rfl
  have c7 := (B1.out.box 0 _ _ rfl).cell 7 _ rfl
  have c8 := (B1.out.box 0 _ _ rfl).cell 8 _ rfl
  have c9 := (B1.out.box 0 _ _ rfl).cell 9 _ rfl
  have c10 := (B1.out.box 0 _ _ rfl).cell 10 _ rfl
  have c11 := (B1.out.box 0 _ _ rfl).cell 11 _ rfl
  have dl := (B1.out.box 1 _ _ rfl).lt
  have d0 := (B1.out.box 1 _ _ rfl).cell 0 _ rfl
  have d1 := (B1.out.box 1 _ _ rfl).cell 1 _ rfl
  have d2 := (B1.out.box 1 _ _ rfl).cell 2 _ rfl
  have d3 := (B1.out.box 1 _ _ rfl).cell 3 _ rfl
  have el := (B1.out.box 2 _ _ rfl).lt
  have e0 := (B1.out.box 2 _ _ rfl).cell 0 _ rfl
  have e1 := (B1.out.box 2 _ _ rfl).cell 1 _ rfl
  have e2 := (B1.out.box 2 _ _ rfl).cell 2 _ rfl
  have e3 := (B1.out.box 2 _ _ rfl).cell 3 _ rfl
  go_wp2_with fail
  refine (CS.out _).mono ?_
  rintro r w2 ⟨rfl, hb⟩
  have B2 : Hid (_) := B1.out.step hb
  clear hb B1 CS
  clear cl c0 c1 c2 c3 c4 c5 c6 c7 c8 c9 c10 c11
  clear dl d0 d1 d2 d3
  clear el e0 e1 e2 e3
  have dl := (B2.out.box 1 _ _ rfl).lt
  have d0 := (B2.out.box 1 _ _ rfl).cell 0 _ rfl
  have d1 := (B2.out.box 1 _ _ rfl).cell 1 _ rfl
  have d2 := (B2.out.box 1 _ _ rfl).cell 2 _ rfl
  have d3 := (B2.out.box 1 _ _ rfl).cell 3 _ rfl
  go_wp2_with fail
  obtain ⟨N, W3, hW3, hN3, B3', Z3⟩ := B2.out.new #[.int .i64 (s 0).m, .bool (s 0).f, .int .i64 (s 0).n, .int .i64 (s 1).m, .bool (s 1).f, .int .i64 (s 1).n, .int .i64 (s 2).m, .bool (s 2).f, .int .i64 (s 2).n, .int .i64 (s 3).m, .bool (s 3).f, .int .i64 (s 3).n] 25
  rw [hW3, hN3]
  have B3 : Hid (_) := B3'
  clear hW3 hN3 B3' B2 Z3
  clear dl d0 d1 d2 d3
  refine (CU.out _).mono ?_
  rintro r w4 ⟨a, cap, rfl, hri, hb⟩
  have B4 : Hid (_) := B3.out.step hb
  have HR : Hid (RI w4 a n U) := hri
  clear hb hri B3 CU
  have xl := (B4.out.box 5 _ _ rfl).lt
  have x0 := (B4.out.box 5 _ _ rfl).cell 0 _ rfl
  have x1 := (B4.out.box 5 _ _ rfl).cell 1 _ rfl
  have x2 := (B4.out.box 5 _ _ rfl).cell 2 _ rfl
  have x3 := (B4.out.box 5 _ _ rfl).cell 3 _ rfl
  have x4 := (B4.out.box 5 _ _ rfl).cell 4 _ rfl
  have x5 := (B4.out.box 5 _ _ rfl).cell 5 _ rfl
  have x6 := (B4.out.box 5 _ _ rfl).cell 6 _ rfl
  have x7 := (B4.out.box 5 _ _ rfl).cell 7 _ rfl
  have x8 := (B4.out.box 5 _ _ rfl).cell 8 _ rfl
  have x9 := (B4.out.box 5 _ _ rfl).cell 9 _ rfl
  have x10 := (B4.out.box 5 _ _ rfl).cell 10 _ rfl
  have x11 := (B4.out.box 5 _ _ rfl).cell 11 _ rfl
  go_wp2_with fail
  refine (CF.out _).mono ?_
  rintro r w5a ⟨rfl, hb⟩
  have B5a : Hid (_) := B4.out.step hb
  have HR5 : Hid (RI w5a a n U) := RI.step HR.out hb
  clear hb B4 CF HR
  clear xl x0 x1 x2 x3 x4 x5 x6 x7 x8 x9 x10 x11
  go_wp2_with fail
  refine (CB.out _ _ _ HR5.out).mono ?_
  rintro r w5 ⟨rfl, hb⟩
  have B5 : Hid (_) := B5a.out.step hb
  clear hb B5a CB HR5
  obtain ⟨w6, hw6, B6'⟩ := B5.out.team 5 N _ b rfl rfl
  have B6 : Hid (Bxs w [(w.heap.size, [.int .i64 (t 0).m, .bool (t 0).f, .int .i64 (t 0).n, .int .i64 (t 1).m, .bool (t 1).f, .int .i64 (t 1).n, .int .i64 (t 2).m, .bool (t 2).f, .int .i64 (t 2).n, .int .i64 (t 3).m, .bool (t 3).f, .int .i64 (t 3).n]), (w.heap.size + 1, [.bool (o 0), .bool (o 1), .bool (o 2), .bool (o 3)]), (w.heap.size + 1 + 1, [.bool (f 0), .bool (f 1), .bool (f 2), .bool (f 3)]), (w.heap.size + 1 + 1 + 1, [.int .i64 0, .bool false, .int .i64 0, .int .i64 0, .bool false, .int .i64 0, .int .i64 0, .bool false, .int .i64 0, .int .i64 0, .bool false, .int .i64 0]), (w.heap.size + 1 + 1 + 1 + 1, [.int .i64 0, .int .i64 0, .bool false]), (N, [.int .i64 (b 0).m, .bool (b 0).f, .int .i64 (b 0).n, .int .i64 (b 1).m, .bool (b 1).f, .int .i64 (b 1).n, .int .i64 (b 2).m, .bool (b 2).f, .int .i64 (b 2).n, .int .i64 (b 3).m, .bool (b 3).f, .int .i64 (b 3).n])] w6) := B6'
  clear B6'
  have xl := (B5.out.box 5 _ _ rfl).lt
  have x0 := (B5.out.box 5 _ _ rfl).cell 0 _ rfl
  have x1 := (B5.out.box 5 _ _ rfl).cell 1 _ rfl
  have x2 := (B5.out.box 5 _ _ rfl).cell 2 _ rfl
  have x3 := (B5.out.box 5 _ _ rfl).cell 3 _ rfl
  have x4 := (B5.out.box 5 _ _ rfl).cell 4 _ rfl
  have x5 := (B5.out.box 5 _ _ rfl).cell 5 _ rfl
  have x6 := (B5.out.box 5 _ _ rfl).cell 6 _ rfl
  have x7 := (B5.out.box 5 _ _ rfl).cell 7 _ rfl
  have x8 := (B5.out.box 5 _ _ rfl).cell 8 _ rfl
  have x9 := (B5.out.box 5 _ _ rfl).cell 9 _ rfl
  have x10 := (B5.out.box 5 _ _ rfl).cell 10 _ rfl
  have x11 := (B5.out.box 5 _ _ rfl).cell 11 _ rfl
  have xf0 := (B5.out.box 5 _ _ rfl).froz 0 _ rfl
  have xf1 := (B5.out.box 5 _ _ rfl).froz 1 _ rfl
  have xf2 := (B5.out.box 5 _ _ rfl).froz 2 _ rfl
  have xf3 := (B5.out.box 5 _ _ rfl).froz 3 _ rfl
  have xf4 := (B5.out.box 5 _ _ rfl).froz 4 _ rfl
  have xf5 := (B5.out.box 5 _ _ rfl).froz 5 _ rfl
  have xf6 := (B5.out.box 5 _ _ rfl).froz 6 _ rfl
  have xf7 := (B5.out.box 5 _ _ rfl).froz 7 _ rfl
  have xf8 := (B5.out.box 5 _ _ rfl).froz 8 _ rfl
  have xf9 := (B5.out.box 5 _ _ rfl).froz 9 _ rfl
  have xf10 := (B5.out.box 5 _ _ rfl).froz 10 _ rfl
  have xf11 := (B5.out.box 5 _ _ rfl).froz 11 _ rfl
  go_upto_region 9 with (fail)
  try rw [hw6]
  clear hw6 B5
  clear xl x0 x1 x2 x3 x4 x5 x6 x7 x8 x9 x10 x11
  clear xf0 xf1 xf2 xf3 xf4 xf5 xf6 xf7 xf8 xf9 xf10 xf11
  have xl := (B6.out.box 5 _ _ rfl).lt
  have x0 := (B6.out.box 5 _ _ rfl).cell 0 _ rfl
  have x1 := (B6.out.box 5 _ _ rfl).cell 1 _ rfl
  have x2 := (B6.out.box 5 _ _ rfl).cell 2 _ rfl
  have x3 := (B6.out.box 5 _ _ rfl).cell 3 _ rfl
  have x4 := (B6.out.box 5 _ _ rfl).cell 4 _ rfl
  have x5 := (B6.out.box 5 _ _ rfl).cell 5 _ rfl
  have x6 := (B6.out.box 5 _ _ rfl).cell 6 _ rfl
  have x7 := (B6.out.box 5 _ _ rfl).cell 7 _ rfl
  have x8 := (B6.out.box 5 _ _ rfl).cell 8 _ rfl
  have x9 := (B6.out.box 5 _ _ rfl).cell 9 _ rfl
  have x10 := (B6.out.box 5 _ _ rfl).cell 10 _ rfl
  have x11 := (B6.out.box 5 _ _ rfl).cell 11 _ rfl
  have cl := (B6.out.box 0 _ _ rfl).lt
  have c0 := (B6.out.box 0 _ _ rfl).cell 0 _ rfl
  have c1 := (B6.out.box 0 _ _ rfl).cell 1 _ rfl
  have c2 := (B6.out.box 0 _ _ rfl).cell 2 _ rfl
  have c3 := (B6.out.box 0 _ _ rfl).cell 3 _ rfl
  have c4 := (B6.out.box 0 _ _ rfl).cell 4 _ rfl
  have c5 := (B6.out.box 0 _ _ rfl).cell 5 _ rfl
  have c6 := (B6.out.box 0 _ _ rfl).cell 6 _ rfl
  have c7 := (B6.out.box 0 _ _ rfl).cell 7 _ rfl
  have c8 := (B6.out.box 0 _ _ rfl).cell 8 _ rfl
  have c9 := (B6.out.box 0 _ _ rfl).cell 9 _ rfl
  have c10 := (B6.out.box 0 _ _ rfl).cell 10 _ rfl
  have c11 := (B6.out.box 0 _ _ rfl).cell 11 _ rfl
  go_wp2_with fail
  refine (CA.out _).mono ?_
  rintro r w7 ⟨rfl, hb⟩
  have B7 : Hid (_) := B6.out.step hb
  clear hb B6 CA
  clear xl x0 x1 x2 x3 x4 x5 x6 x7 x8 x9 x10 x11
  clear cl c0 c1 c2 c3 c4 c5 c6 c7 c8 c9 c10 c11
  obtain ⟨w8, hw8, B8'⟩ := B7.out.team 5 N _ y rfl rfl
  have B8 : Hid (Bxs w [(w.heap.size, [.int .i64 (t 0).m, .bool (t 0).f, .int .i64 (t 0).n, .int .i64 (t 1).m, .bool (t 1).f, .int .i64 (t 1).n, .int .i64 (t 2).m, .bool (t 2).f, .int .i64 (t 2).n, .int .i64 (t 3).m, .bool (t 3).f, .int .i64 (t 3).n]), (w.heap.size + 1, [.bool (o 0), .bool (o 1), .bool (o 2), .bool (o 3)]), (w.heap.size + 1 + 1, [.bool (f 0), .bool (f 1), .bool (f 2), .bool (f 3)]), (w.heap.size + 1 + 1 + 1, [.int .i64 0, .bool false, .int .i64 0, .int .i64 0, .bool false, .int .i64 0, .int .i64 0, .bool false, .int .i64 0, .int .i64 0, .bool false, .int .i64 0]), (w.heap.size + 1 + 1 + 1 + 1, [.int .i64 0, .int .i64 0, .bool false]), (N, [.int .i64 (y 0).m, .bool (y 0).f, .int .i64 (y 0).n, .int .i64 (y 1).m, .bool (y 1).f, .int .i64 (y 1).n, .int .i64 (y 2).m, .bool (y 2).f, .int .i64 (y 2).n, .int .i64 (y 3).m, .bool (y 3).f, .int .i64 (y 3).n])] w8) := B8'
  clear B8'
  have xl := (B7.out.box 5 _ _ rfl).lt
  have x0 := (B7.out.box 5 _ _ rfl).cell 0 _ rfl
  have x1 := (B7.out.box 5 _ _ rfl).cell 1 _ rfl
  have x2 := (B7.out.box 5 _ _ rfl).cell 2 _ rfl
  have x3 := (B7.out.box 5 _ _ rfl).cell 3 _ rfl
  have x4 := (B7.out.box 5 _ _ rfl).cell 4 _ rfl
  have x5 := (B7.out.box 5 _ _ rfl).cell 5 _ rfl
  have x6 := (B7.out.box 5 _ _ rfl).cell 6 _ rfl
  have x7 := (B7.out.box 5 _ _ rfl).cell 7 _ rfl
  have x8 := (B7.out.box 5 _ _ rfl).cell 8 _ rfl
  have x9 := (B7.out.box 5 _ _ rfl).cell 9 _ rfl
  have x10 := (B7.out.box 5 _ _ rfl).cell 10 _ rfl
  have x11 := (B7.out.box 5 _ _ rfl).cell 11 _ rfl
  have xf0 := (B7.out.box 5 _ _ rfl).froz 0 _ rfl
  have xf1 := (B7.out.box 5 _ _ rfl).froz 1 _ rfl
  have xf2 := (B7.out.box 5 _ _ rfl).froz 2 _ rfl
  have xf3 := (B7.out.box 5 _ _ rfl).froz 3 _ rfl
  have xf4 := (B7.out.box 5 _ _ rfl).froz 4 _ rfl
  have xf5 := (B7.out.box 5 _ _ rfl).froz 5 _ rfl
  have xf6 := (B7.out.box 5 _ _ rfl).froz 6 _ rfl
  have xf7 := (B7.out.box 5 _ _ rfl).froz 7 _ rfl
  have xf8 := (B7.out.box 5 _ _ rfl).froz 8 _ rfl
  have xf9 := (B7.out.box 5 _ _ rfl).froz 9 _ rfl
  have xf10 := (B7.out.box 5 _ _ rfl).froz 10 _ rfl
  have xf11 := (B7.out.box 5 _ _ rfl).froz 11 _ rfl
  go_upto_region 10 with (fail)
  try rw [hw8]
  clear hw8 B7
  clear xl x0 x1 x2 x3 x4 x5 x6 x7 x8 x9 x10 x11
  clear xf0 xf1 xf2 xf3 xf4 xf5 xf6 xf7 xf8 xf9 xf10 xf11
  have xl := (B8.out.box 5 _ _ rfl).lt
  have x0 := (B8.out.box 5 _ _ rfl).cell 0 _ rfl
  have x1 := (B8.out.box 5 _ _ rfl).cell 1 _ rfl
  have x2 := (B8.out.box 5 _ _ rfl).cell 2 _ rfl
  have x3 := (B8.out.box 5 _ _ rfl).cell 3 _ rfl
  have x4 := (B8.out.box 5 _ _ rfl).cell 4 _ rfl
  have x5 := (B8.out.box 5 _ _ rfl).cell 5 _ rfl
  have x6 := (B8.out.box 5 _ _ rfl).cell 6 _ rfl
  have x7 := (B8.out.box 5 _ _ rfl).cell 7 _ rfl
  have x8 := (B8.out.box 5 _ _ rfl).cell 8 _ rfl
  have x9 := (B8.out.box 5 _ _ rfl).cell 9 _ rfl
  have x10 := (B8.out.box 5 _ _ rfl).cell 10 _ rfl
  have x11 := (B8.out.box 5 _ _ rfl).cell 11 _ rfl
  go_wp2_with fail
  refine (CM.out _).mono ?_
  rintro r w9 ⟨rfl, hb⟩
  have B9 : Hid (_) := B8.out.step hb
  clear hb B8 CM
  clear xl x0 x1 x2 x3 x4 x5 x6 x7 x8 x9 x10 x11
  go_upto_region 11 with (fail)
  obtain ⟨M, W10, hW10, hM, B10', Z10⟩ := B9.out.new #[.int .i64 n, .int .i64 K, .bool false] 30
  rw [hW10, hM]
  have B10 : Hid (_) := B10'
  clear hW10 hM B10' B9 Z10
  have xl := (B10.out.box 5 _ _ rfl).lt
  have x0 := (B10.out.box 5 _ _ rfl).cell 0 _ rfl
  have x1 := (B10.out.box 5 _ _ rfl).cell 1 _ rfl
  have x2 := (B10.out.box 5 _ _ rfl).cell 2 _ rfl
  have x3 := (B10.out.box 5 _ _ rfl).cell 3 _ rfl
  have x4 := (B10.out.box 5 _ _ rfl).cell 4 _ rfl
  have x5 := (B10.out.box 5 _ _ rfl).cell 5 _ rfl
  have x6 := (B10.out.box 5 _ _ rfl).cell 6 _ rfl
  have x7 := (B10.out.box 5 _ _ rfl).cell 7 _ rfl
  have x8 := (B10.out.box 5 _ _ rfl).cell 8 _ rfl
  have x9 := (B10.out.box 5 _ _ rfl).cell 9 _ rfl
  have x10 := (B10.out.box 5 _ _ rfl).cell 10 _ rfl
  have x11 := (B10.out.box 5 _ _ rfl).cell 11 _ rfl
  have zl := (B10.out.box 6 _ _ rfl).lt
  have z0 := (B10.out.box 6 _ _ rfl).cell 0 _ rfl
  have z1 := (B10.out.box 6 _ _ rfl).cell 1 _ rfl
  have z2 := (B10.out.box 6 _ _ rfl).cell 2 _ rfl
  have pl := (B10.out.box 3 _ _ rfl).lt
  have p0 := (B10.out.box 3 _ _ rfl).cell 0 _ rfl
  have p1 := (B10.out.box 3 _ _ rfl).cell 1 _ rfl
  have p2 := (B10.out.box 3 _ _ rfl).cell 2 _ rfl
  have p3 := (B10.out.box 3 _ _ rfl).cell 3 _ rfl
  have p4 := (B10.out.box 3 _ _ rfl).cell 4 _ rfl
  have p5 := (B10.out.box 3 _ _ rfl).cell 5 _ rfl
  have p6 := (B10.out.box 3 _ _ rfl).cell 6 _ rfl
  have p7 := (B10.out.box 3 _ _ rfl).cell 7 _ rfl
  have p8 := (B10.out.box 3 _ _ rfl).cell 8 _ rfl
  have p9 := (B10.out.box 3 _ _ rfl).cell 9 _ rfl
  have p10 := (B10.out.box 3 _ _ rfl).cell 10 _ rfl
  have p11 := (B10.out.box 3 _ _ rfl).cell 11 _ rfl
  have pf0 := (B10.out.box 3 _ _ rfl).froz 0 _ rfl
  have pf1 := (B10.out.box 3 _ _ rfl).froz 1 _ rfl
  have pf2 := (B10.out.box 3 _ _ rfl).froz 2 _ rfl
  have pf3 := (B10.out.box 3 _ _ rfl).froz 3 _ rfl
  have pf4 := (B10.out.box 3 _ _ rfl).froz 4 _ rfl
  have pf5 := (B10.out.box 3 _ _ rfl).froz 5 _ rfl
  have pf6 := (B10.out.box 3 _ _ rfl).froz 6 _ rfl
  have pf7 := (B10.out.box 3 _ _ rfl).froz 7 _ rfl
  have pf8 := (B10.out.box 3 _ _ rfl).froz 8 _ rfl
  have pf9 := (B10.out.box 3 _ _ rfl).froz 9 _ rfl
  have pf10 := (B10.out.box 3 _ _ rfl).froz 10 _ rfl
  have pf11 := (B10.out.box 3 _ _ rfl).froz 11 _ rfl
  have ql := (B10.out.box 4 _ _ rfl).lt
  have q0 := (B10.out.box 4 _ _ rfl).cell 0 _ rfl
  have q1 := (B10.out.box 4 _ _ rfl).cell 1 _ rfl
  have q2 := (B10.out.box 4 _ _ rfl).cell 2 _ rfl
  have qf0 := (B10.out.box 4 _ _ rfl).froz 0 _ rfl
  have qf1 := (B10.out.box 4 _ _ rfl).froz 1 _ rfl
  have qf2 := (B10.out.box 4 _ _ rfl).froz 2 _ rfl
  have h63 : ¬ M = w.heap.size + 1 + 1 + 1 := B10.out.nd 6 3 _ _ _ _ rfl rfl (by omega)
  have h64 : ¬ M = w.heap.size + 1 + 1 + 1 + 1 := B10.out.nd 6 4 _ _ _ _ rfl rfl (by omega)
  have h53 : ¬ N = w.heap.size + 1 + 1 + 1 := B10.out.nd 5 3 _ _ _ _ rfl rfl (by omega)
  have h54 : ¬ N = w.heap.size + 1 + 1 + 1 + 1 := B10.out.nd 5 4 _ _ _ _ rfl rfl (by omega)
  have g63 : ¬ w.heap.size + 1 + 1 + 1 = M := fun h => h63 h.symm
  have g64 : ¬ w.heap.size + 1 + 1 + 1 + 1 = M := fun h => h64 h.symm
  have g53 : ¬ w.heap.size + 1 + 1 + 1 = N := fun h => h53 h.symm
  have g54 : ¬ w.heap.size + 1 + 1 + 1 + 1 = N := fun h => h54 h.symm
  go_region
  all_goals (try go_wp2_with fail)
  obtain ⟨w11, hw11, B11⟩ := B10.out.team 3 _ _ y rfl rfl
  rw [hw11]
  obtain ⟨w12, hw12, B12⟩ := B11.put3 4 _ (.int .i64 n) (.int .i64 K) (.bool false) rfl
  rw [hw12]
  have B13 := B12.drew
  generalize w12.drew = w13 at *
  have yl := (B13.box 3 _ _ rfl).lt
  have y0 := (B13.box 3 _ _ rfl).cell 0 _ rfl
  have y1 := (B13.box 3 _ _ rfl).cell 1 _ rfl
  have y2 := (B13.box 3 _ _ rfl).cell 2 _ rfl
  have y3 := (B13.box 3 _ _ rfl).cell 3 _ rfl
  have y4 := (B13.box 3 _ _ rfl).cell 4 _ rfl
  have y5 := (B13.box 3 _ _ rfl).cell 5 _ rfl
  have y6 := (B13.box 3 _ _ rfl).cell 6 _ rfl
  have y7 := (B13.box 3 _ _ rfl).cell 7 _ rfl
  have y8 := (B13.box 3 _ _ rfl).cell 8 _ rfl
  have y9 := (B13.box 3 _ _ rfl).cell 9 _ rfl
  have y10 := (B13.box 3 _ _ rfl).cell 10 _ rfl
  have y11 := (B13.box 3 _ _ rfl).cell 11 _ rfl
  have ul := (B13.box 4 _ _ rfl).lt
  have u0 := (B13.box 4 _ _ rfl).cell 0 _ rfl
  have u1 := (B13.box 4 _ _ rfl).cell 1 _ rfl
  have u2 := (B13.box 4 _ _ rfl).cell 2 _ rfl
  refine bodyPost_ret (by simp [results, Try.results8, go_sem, y0, y1, y2, y3, y4, y5, y6, y7, y8, y9, y10, y11, u0, u1, u2]; try rfl) rfl ?_
  exact ⟨rfl, B13.bel⟩

end Go.Proofs.Ytnomceopmjlbhaa
