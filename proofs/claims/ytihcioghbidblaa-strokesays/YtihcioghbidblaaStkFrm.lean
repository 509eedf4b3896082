/-
  Contract of stroke.frame: one frame of a trial.
-/
import Derived.Test.YtihcioghbidblaaStk
import Derived.Test.YtihcioghbidblaaBxsMore
namespace Go.Proofs.Ytihcioghbidblaa
open Go.RowKit
set_option linter.unusedVariables false

set_option maxHeartbeats 8000000 in
set_option maxRecDepth 100000 in
theorem frame_core (x : Tri) (q s t y p v u : Int) (w : World) (q' s' e' y' va pu p' v' : Int)
    (C1 : Hid (∀ W, Calls Try.prog 28 #[.agg #[.int .i32 x.r, .int .i64 x.m, .int .i32 x.P, .int .i32 x.I, .int .i32 x.D, .int .i32 x.a, .int .i32 x.b], .agg #[.int .i32 q, .int .i32 s, .int .i32 t, .int .i32 y], .int .i32 u, .int .i32 p] W fun r w' => r = .returned (.tuple #[.agg #[.int .i32 q', .int .i32 s', .int .i32 e', .int .i32 y'], .int .i32 y', .int .i64 0]) ∧ Below W.heap.size W w'))
    (C2 : Hid (∀ W, Calls Try.prog 29 #[.agg #[.int .i32 va, .int .i32 0, .int .i32 0, .int .i32 0], .agg #[.int .i64 1, .int .i64 0, .int .i64 0, .int .i64 0], .agg #[.int .i32 x.o, .int .i32 0, .int .i32 0, .int .i32 0]] W fun r w' => r = .returned (.tuple #[.agg #[.int .i32 pu, .int .i32 0, .int .i32 0, .int .i32 0], .int .i64 0]) ∧ Below W.heap.size W w'))
    (C3 : Hid (∀ W, Calls Try.prog 30 #[.agg #[.int .i32 x.g, .int .i64 x.n, .int .i32 x.lo, .int .i32 x.hi], .agg #[.int .i32 p, .int .i32 v], .agg #[.int .i32 pu, .int .i32 0, .int .i32 0, .int .i32 0], .agg #[.int .i64 1, .int .i64 0, .int .i64 0, .int .i64 0], .int .i32 x.l] W fun r w' => r = .returned (.tuple #[.agg #[.int .i32 p', .int .i32 v'], .int .i64 0]) ∧ Below W.heap.size W w'))
    (hk : x.k = true ∧ va = 0 ∨ x.k = false ∧ va = y') :
    Calls Try.prog 17 #[.agg #[.int .i32 x.g, .int .i64 x.n, .int .i32 x.lo, .int .i32 x.hi, .int .i32 p, .int .i32 v, .int .i32 x.r, .int .i64 x.m, .int .i32 x.P, .int .i32 x.I, .int .i32 x.D, .int .i32 x.a, .int .i32 x.b, .int .i32 x.o, .int .i32 x.l, .bool x.k], .agg #[.int .i32 q, .int .i32 s, .int .i32 t, .int .i32 y], .int .i32 u] w fun e w' => e = .returned (.tuple #[.agg #[.int .i32 q', .int .i32 s', .int .i32 e', .int .i32 y'], .agg #[.int .i32 p', .int .i32 v']]) ∧ Below w.heap.size w w' := by
  have B0 : Hid (_) := bxsV w #[.int .i32 x.g, .int .i64 x.n, .int .i32 x.lo, .int .i32 x.hi, .int .i32 p, .int .i32 v, .int .i32 x.r, .int .i64 x.m, .int .i32 x.P, .int .i32 x.I, .int .i32 x.D, .int .i32 x.a, .int .i32 x.b, .int .i32 x.o, .int .i32 x.l, .bool x.k] #[.int .i32 q, .int .i32 s, .int .i32 t, .int .i32 y] #[.int .i32 0, .int .i32 0, .int .i32 0, .int .i32 0] #[.int .i32 0, .int .i32 0] #[.int .i64 1, .int .i64 0, .int .i64 0, .int .i64 0] 31 51 51 25 65
  have HK : Hid (x.k = true ∧ va = 0 ∨ x.k = false ∧ va = y') := hk
  clear hk
  go_enter Try.func17, Try.ntmps17
  go_wp2_with fail
  refine (C1.out _).mono ?_
  rintro r w1 ⟨rfl, hb⟩
  have B1 : Hid (_) := B0.out.step hb
  clear hb B0
  have tl := (B1.out.box 0 _ _ rfl).lt
  have t0 := (B1.out.box 0 _ _ rfl).cell 0 _ rfl
  have t1 := (B1.out.box 0 _ _ rfl).cell 1 _ rfl
  have t2 := (B1.out.box 0 _ _ rfl).cell 2 _ rfl
  have t3 := (B1.out.box 0 _ _ rfl).cell 3 _ rfl
  have t4 := (B1.out.box 0 _ _ rfl).cell 4 _ rfl
  have t5 := (B1.out.box 0 _ _ rfl).cell 5 _ rfl
  have t6 := (B1.out.box 0 _ _ rfl).cell 6 _ rfl
  have t7 := (B1.out.box 0 _ _ rfl).cell 7 _ rfl
  have t8 := (B1.out.box 0 _ _ rfl).cell 8 _ rfl
  have t9 := (B1.out.box 0 _ _ rfl).cell 9 _ rfl
  have t10 := (B1.out.box 0 _ _ rfl).cell 10 _ rfl
  have t11 := (B1.out.box 0 _ _ rfl).cell 11 _ rfl
  have t12 := (B1.out.box 0 _ _ rfl).cell 12 _ rfl
  have t13 := (B1.out.box 0 _ _ rfl).cell 13 _ rfl
  have t14 := (B1.out.box 0 _ _ rfl).cell 14 _ rfl
  have t15 := (B1.out.box 0 _ _ rfl).cell 15 _ rfl
  have dl := (B1.out.box 1 _ _ rfl).lt
  have d0 := (B1.out.box 1 _ _ rfl).cell 0 _ rfl
  have d1 := (B1.out.box 1 _ _ rfl).cell 1 _ rfl
  have d2 := (B1.out.box 1 _ _ rfl).cell 2 _ rfl
  have d3 := (B1.out.box 1 _ _ rfl).cell 3 _ rfl
  have df0 := (B1.out.box 1 _ _ rfl).froz 0 _ rfl
  have df1 := (B1.out.box 1 _ _ rfl).froz 1 _ rfl
  have df2 := (B1.out.box 1 _ _ rfl).froz 2 _ rfl
  have df3 := (B1.out.box 1 _ _ rfl).froz 3 _ rfl
  have ml := (B1.out.box 4 _ _ rfl).lt
  have m0 := (B1.out.box 4 _ _ rfl).cell 0 _ rfl
  have m1 := (B1.out.box 4 _ _ rfl).cell 1 _ rfl
  have m2 := (B1.out.box 4 _ _ rfl).cell 2 _ rfl
  have m3 := (B1.out.box 4 _ _ rfl).cell 3 _ rfl
  have E1 : Hid (_) := @Bxs.to4 _ _ _ B1.out 1 _ _ _ _ _ (.int .i32 q') (.int .i32 s') (.int .i32 e') (.int .i32 y') rfl
  rcases HK.out with ⟨k1, k2⟩ | ⟨k1, k2⟩
  · skip
    subst va
    rw [k1] at t15
    clear k1 HK
    go_wp2_with fail
    obtain ⟨w2, hw2, B2'⟩ := E1.out
    rw [hw2]
    have B2 : Hid (_) := B2'
    clear B2' hw2 E1 B1 d0 d1 d2 d3 dl df0 df1 df2 df3
    clear tl t0 t1 t2 t3 t4 t5 t6 t7 t8 t9 t10 t11 t12 t13 t14 t15
    clear ml m0 m1 m2 m3
    refine (C2.out _).mono ?_
    rintro r w3 ⟨rfl, hb⟩
    have B3 : Hid (_) := B2.out.step hb
    clear hb B2
    have tl := (B3.out.box 0 _ _ rfl).lt
    have t0 := (B3.out.box 0 _ _ rfl).cell 0 _ rfl
    have t1 := (B3.out.box 0 _ _ rfl).cell 1 _ rfl
    have t2 := (B3.out.box 0 _ _ rfl).cell 2 _ rfl
    have t3 := (B3.out.box 0 _ _ rfl).cell 3 _ rfl
    have t4 := (B3.out.box 0 _ _ rfl).cell 4 _ rfl
    have t5 := (B3.out.box 0 _ _ rfl).cell 5 _ rfl
    have t6 := (B3.out.box 0 _ _ rfl).cell 6 _ rfl
    have t7 := (B3.out.box 0 _ _ rfl).cell 7 _ rfl
    have t8 := (B3.out.box 0 _ _ rfl).cell 8 _ rfl
    have t9 := (B3.out.box 0 _ _ rfl).cell 9 _ rfl
    have t10 := (B3.out.box 0 _ _ rfl).cell 10 _ rfl
    have t11 := (B3.out.box 0 _ _ rfl).cell 11 _ rfl
    have t12 := (B3.out.box 0 _ _ rfl).cell 12 _ rfl
    have t13 := (B3.out.box 0 _ _ rfl).cell 13 _ rfl
    have t14 := (B3.out.box 0 _ _ rfl).cell 14 _ rfl
    have t15 := (B3.out.box 0 _ _ rfl).cell 15 _ rfl
    have ml := (B3.out.box 4 _ _ rfl).lt
    have m0 := (B3.out.box 4 _ _ rfl).cell 0 _ rfl
    have m1 := (B3.out.box 4 _ _ rfl).cell 1 _ rfl
    have m2 := (B3.out.box 4 _ _ rfl).cell 2 _ rfl
    have m3 := (B3.out.box 4 _ _ rfl).cell 3 _ rfl
    go_wp2_with fail
    obtain ⟨N, w4, hw4, hN, B4', lN⟩ := B3.out.new #[.int .i32 pu, .int .i32 0, .int .i32 0, .int .i32 0] 64
    rw [hw4, hN]
    have B4 : Hid (_) := B4'
    clear B4' hw4 hN B3
    clear tl t0 t1 t2 t3 t4 t5 t6 t7 t8 t9 t10 t11 t12 t13 t14 t15
    clear ml m0 m1 m2 m3
    have tl := (B4.out.box 0 _ _ rfl).lt
    have t0 := (B4.out.box 0 _ _ rfl).cell 0 _ rfl
    have t1 := (B4.out.box 0 _ _ rfl).cell 1 _ rfl
    have t2 := (B4.out.box 0 _ _ rfl).cell 2 _ rfl
    have t3 := (B4.out.box 0 _ _ rfl).cell 3 _ rfl
    have t4 := (B4.out.box 0 _ _ rfl).cell 4 _ rfl
    have t5 := (B4.out.box 0 _ _ rfl).cell 5 _ rfl
    have t6 := (B4.out.box 0 _ _ rfl).cell 6 _ rfl
    have t7 := (B4.out.box 0 _ _ rfl).cell 7 _ rfl
    have t8 := (B4.out.box 0 _ _ rfl).cell 8 _ rfl
    have t9 := (B4.out.box 0 _ _ rfl).cell 9 _ rfl
    have t10 := (B4.out.box 0 _ _ rfl).cell 10 _ rfl
    have t11 := (B4.out.box 0 _ _ rfl).cell 11 _ rfl
    have t12 := (B4.out.box 0 _ _ rfl).cell 12 _ rfl
    have t13 := (B4.out.box 0 _ _ rfl).cell 13 _ rfl
    have t14 := (B4.out.box 0 _ _ rfl).cell 14 _ rfl
    have t15 := (B4.out.box 0 _ _ rfl).cell 15 _ rfl
    have ml := (B4.out.box 4 _ _ rfl).lt
    have m0 := (B4.out.box 4 _ _ rfl).cell 0 _ rfl
    have m1 := (B4.out.box 4 _ _ rfl).cell 1 _ rfl
    have m2 := (B4.out.box 4 _ _ rfl).cell 2 _ rfl
    have m3 := (B4.out.box 4 _ _ rfl).cell 3 _ rfl
    have gl := (B4.out.box 5 _ _ rfl).lt
    have g0 := (B4.out.box 5 _ _ rfl).cell 0 _ rfl
    have g1 := (B4.out.box 5 _ _ rfl).cell 1 _ rfl
    have g2 := (B4.out.box 5 _ _ rfl).cell 2 _ rfl
    have g3 := (B4.out.box 5 _ _ rfl).cell 3 _ rfl
    go_wp2_with fail
    refine (C3.out _).mono ?_
    rintro r w5 ⟨rfl, hb⟩
    have B5 : Hid (_) := B4.out.step hb
    clear hb B4 lN
    clear tl t0 t1 t2 t3 t4 t5 t6 t7 t8 t9 t10 t11 t12 t13 t14 t15
    clear ml m0 m1 m2 m3
    clear gl g0 g1 g2 g3
    go_wp2_with fail
    obtain ⟨M, w6, hw6, hM, B6', lM⟩ := B5.out.new #[.int .i32 p', .int .i32 v'] 25
    rw [hw6, hM]
    have B6 : Hid (_) := B6'
    clear B6' hw6 hM B5
    have dl := (B6.out.box 1 _ _ rfl).lt
    have d0 := (B6.out.box 1 _ _ rfl).cell 0 _ rfl
    have d1 := (B6.out.box 1 _ _ rfl).cell 1 _ rfl
    have d2 := (B6.out.box 1 _ _ rfl).cell 2 _ rfl
    have d3 := (B6.out.box 1 _ _ rfl).cell 3 _ rfl
    have rl := (B6.out.box 6 _ _ rfl).lt
    have r0 := (B6.out.box 6 _ _ rfl).cell 0 _ rfl
    have r1 := (B6.out.box 6 _ _ rfl).cell 1 _ rfl
    have al := (B6.out.box 2 _ _ rfl).lt
    have a0 := (B6.out.box 2 _ _ rfl).cell 0 _ rfl
    have a1 := (B6.out.box 2 _ _ rfl).cell 1 _ rfl
    have a2 := (B6.out.box 2 _ _ rfl).cell 2 _ rfl
    have a3 := (B6.out.box 2 _ _ rfl).cell 3 _ rfl
    have af0 := (B6.out.box 2 _ _ rfl).froz 0 _ rfl
    have af1 := (B6.out.box 2 _ _ rfl).froz 1 _ rfl
    have af2 := (B6.out.box 2 _ _ rfl).froz 2 _ rfl
    have af3 := (B6.out.box 2 _ _ rfl).froz 3 _ rfl
    have bl := (B6.out.box 3 _ _ rfl).lt
    have b0 := (B6.out.box 3 _ _ rfl).cell 0 _ rfl
    have b1 := (B6.out.box 3 _ _ rfl).cell 1 _ rfl
    have bf0 := (B6.out.box 3 _ _ rfl).froz 0 _ rfl
    have bf1 := (B6.out.box 3 _ _ rfl).froz 1 _ rfl
    have h62 : ¬ M = w.heap.size + 1 + 1 := B6.out.nd 6 2 _ _ _ _ rfl rfl (by omega)
    have h63 : ¬ M = w.heap.size + 1 + 1 + 1 := B6.out.nd 6 3 _ _ _ _ rfl rfl (by omega)
    have g62 : ¬ w.heap.size + 1 + 1 = M := fun h => h62 h.symm
    have g63 : ¬ w.heap.size + 1 + 1 + 1 = M := fun h => h63 h.symm
    go_region
    all_goals (try go_wp2_with fail)
    obtain ⟨w7, hw7, B7⟩ := B6.out.to4 2 _ (.int .i32 q') (.int .i32 s') (.int .i32 e') (.int .i32 y') rfl
    rw [hw7]
    obtain ⟨w8, hw8, B8⟩ := B7.to2 3 _ (.int .i32 p') (.int .i32 v') rfl
    rw [hw8]
    have B9 := B8.drew
    generalize w8.drew = w9 at *
    have yl := (B9.box 2 _ _ rfl).lt
    have y0 := (B9.box 2 _ _ rfl).cell 0 _ rfl
    have y1 := (B9.box 2 _ _ rfl).cell 1 _ rfl
    have y2 := (B9.box 2 _ _ rfl).cell 2 _ rfl
    have y3 := (B9.box 2 _ _ rfl).cell 3 _ rfl
    have zl := (B9.box 3 _ _ rfl).lt
    have z0 := (B9.box 3 _ _ rfl).cell 0 _ rfl
    have z1 := (B9.box 3 _ _ rfl).cell 1 _ rfl
    refine bodyPost_ret (by simp [results, Try.results17, go_sem, y0, y1, y2, y3, z0, z1]; try rfl) rfl ?_
    exact ⟨rfl, B9.bel⟩
  · skip
    subst va
    rw [k1] at t15
    clear k1 HK
    go_wp2_with fail
    obtain ⟨w2, hw2, B2'⟩ := E1.out
    rw [hw2]
    have B2 : Hid (_) := B2'
    clear B2' hw2 E1 B1 d0 d1 d2 d3 dl df0 df1 df2 df3
    clear tl t0 t1 t2 t3 t4 t5 t6 t7 t8 t9 t10 t11 t12 t13 t14 t15
    clear ml m0 m1 m2 m3
    refine (C2.out _).mono ?_
    rintro r w3 ⟨rfl, hb⟩
    have B3 : Hid (_) := B2.out.step hb
    clear hb B2
    have tl := (B3.out.box 0 _ _ rfl).lt
    have t0 := (B3.out.box 0 _ _ rfl).cell 0 _ rfl
    have t1 := (B3.out.box 0 _ _ rfl).cell 1 _ rfl
    have t2 := (B3.out.box 0 _ _ rfl).cell 2 _ rfl
    have t3 := (B3.out.box 0 _ _ rfl).cell 3 _ rfl
    have t4 := (B3.out.box 0 _ _ rfl).cell 4 _ rfl
    have t5 := (B3.out.box 0 _ _ rfl).cell 5 _ rfl
    have t6 := (B3.out.box 0 _ _ rfl).cell 6 _ rfl
    have t7 := (B3.out.box 0 _ _ rfl).cell 7 _ rfl
    have t8 := (B3.out.box 0 _ _ rfl).cell 8 _ rfl
    have t9 := (B3.out.box 0 _ _ rfl).cell 9 _ rfl
    have t10 := (B3.out.box 0 _ _ rfl).cell 10 _ rfl
    have t11 := (B3.out.box 0 _ _ rfl).cell 11 _ rfl
    have t12 := (B3.out.box 0 _ _ rfl).cell 12 _ rfl
    have t13 := (B3.out.box 0 _ _ rfl).cell 13 _ rfl
    have t14 := (B3.out.box 0 _ _ rfl).cell 14 _ rfl
    have t15 := (B3.out.box 0 _ _ rfl).cell 15 _ rfl
    have ml := (B3.out.box 4 _ _ rfl).lt
    have m0 := (B3.out.box 4 _ _ rfl).cell 0 _ rfl
    have m1 := (B3.out.box 4 _ _ rfl).cell 1 _ rfl
    have m2 := (B3.out.box 4 _ _ rfl).cell 2 _ rfl
    have m3 := (B3.out.box 4 _ _ rfl).cell 3 _ rfl
    go_wp2_with fail
    obtain ⟨N, w4, hw4, hN, B4', lN⟩ := B3.out.new #[.int .i32 pu, .int .i32 0, .int .i32 0, .int .i32 0] 64
    rw [hw4, hN]
    have B4 : Hid (_) := B4'
    clear B4' hw4 hN B3
    clear tl t0 t1 t2 t3 t4 t5 t6 t7 t8 t9 t10 t11 t12 t13 t14 t15
    clear ml m0 m1 m2 m3
    have tl := (B4.out.box 0 _ _ rfl).lt
    have t0 := (B4.out.box 0 _ _ rfl).cell 0 _ rfl
    have t1 := (B4.out.box 0 _ _ rfl).cell 1 _ rfl
    have t2 := (B4.out.box 0 _ _ rfl).cell 2 _ rfl
    have t3 := (B4.out.box 0 _ _ rfl).cell 3 _ rfl
    have t4 := (B4.out.box 0 _ _ rfl).cell 4 _ rfl
    have t5 := (B4.out.box 0 _ _ rfl).cell 5 _ rfl
    have t6 := (B4.out.box 0 _ _ rfl).cell 6 _ rfl
    have t7 := (B4.out.box 0 _ _ rfl).cell 7 _ rfl
    have t8 := (B4.out.box 0 _ _ rfl).cell 8 _ rfl
    have t9 := (B4.out.box 0 _ _ rfl).cell 9 _ rfl
    have t10 := (B4.out.box 0 _ _ rfl).cell 10 _ rfl
    have t11 := (B4.out.box 0 _ _ rfl).cell 11 _ rfl
    have t12 := (B4.out.box 0 _ _ rfl).cell 12 _ rfl
    have t13 := (B4.out.box 0 _ _ rfl).cell 13 _ rfl
    have t14 := (B4.out.box 0 _ _ rfl).cell 14 _ rfl
    have t15 := (B4.out.box 0 _ _ rfl).cell 15 _ rfl
    have ml := (B4.out.box 4 _ _ rfl).lt
    have m0 := (B4.out.box 4 _ _ rfl).cell 0 _ rfl
    have m1 := (B4.out.box 4 _ _ rfl).cell 1 _ rfl
    have m2 := (B4.out.box 4 _ _ rfl).cell 2 _ rfl
    have m3 := (B4.out.box 4 _ _ rfl).cell 3 _ rfl
    have gl := (B4.out.box 5 _ _ rfl).lt
    have g0 := (B4.out.box 5 _ _ rfl).cell 0 _ rfl
    have g1 := (B4.out.box 5 _ _ rfl).cell 1 _ rfl
    have g2 := (B4.out.box 5 _ _ rfl).cell 2 _ rfl
    have g3 := (B4.out.box 5 _ _ rfl).cell 3 _ rfl
    go_wp2_with fail
    refine (C3.out _).mono ?_
    rintro r w5 ⟨rfl, hb⟩
    have B5 : Hid (_) := B4.out.step hb
    clear hb B4 lN
    clear tl t0 t1 t2 t3 t4 t5 t6 t7 t8 t9 t10 t11 t12 t13 t14 t15
    clear ml m0 m1 m2 m3
    clear gl g0 g1 g2 g3
    go_wp2_with fail
    obtain ⟨M, w6, hw6, hM, B6', lM⟩ := B5.out.new #[.int .i32 p', .int .i32 v'] 25
    rw [hw6, hM]
    have B6 : Hid (_) := B6'
    clear B6' hw6 hM B5
    have dl := (B6.out.box 1 _ _ rfl).lt
    have d0 := (B6.out.box 1 _ _ rfl).cell 0 _ rfl
    have d1 := (B6.out.box 1 _ _ rfl).cell 1 _ rfl
    have d2 := (B6.out.box 1 _ _ rfl).cell 2 _ rfl
    have d3 := (B6.out.box 1 _ _ rfl).cell 3 _ rfl
    have rl := (B6.out.box 6 _ _ rfl).lt
    have r0 := (B6.out.box 6 _ _ rfl).cell 0 _ rfl
    have r1 := (B6.out.box 6 _ _ rfl).cell 1 _ rfl
    have al := (B6.out.box 2 _ _ rfl).lt
    have a0 := (B6.out.box 2 _ _ rfl).cell 0 _ rfl
    have a1 := (B6.out.box 2 _ _ rfl).cell 1 _ rfl
    have a2 := (B6.out.box 2 _ _ rfl).cell 2 _ rfl
    have a3 := (B6.out.box 2 _ _ rfl).cell 3 _ rfl
    have af0 := (B6.out.box 2 _ _ rfl).froz 0 _ rfl
    have af1 := (B6.out.box 2 _ _ rfl).froz 1 _ rfl
    have af2 := (B6.out.box 2 _ _ rfl).froz 2 _ rfl
    have af3 := (B6.out.box 2 _ _ rfl).froz 3 _ rfl
    have bl := (B6.out.box 3 _ _ rfl).lt
    have b0 := (B6.out.box 3 _ _ rfl).cell 0 _ rfl
    have b1 := (B6.out.box 3 _ _ rfl).cell 1 _ rfl
    have bf0 := (B6.out.box 3 _ _ rfl).froz 0 _ rfl
    have bf1 := (B6.out.box 3 _ _ rfl).froz 1 _ rfl
    have h62 : ¬ M = w.heap.size + 1 + 1 := B6.out.nd 6 2 _ _ _ _ rfl rfl (by omega)
    have h63 : ¬ M = w.heap.size + 1 + 1 + 1 := B6.out.nd 6 3 _ _ _ _ rfl rfl (by omega)
    have g62 : ¬ w.heap.size + 1 + 1 = M := fun h => h62 h.symm
    have g63 : ¬ w.heap.size + 1 + 1 + 1 = M := fun h => h63 h.symm
    go_region
    all_goals (try go_wp2_with fail)
    obtain ⟨w7, hw7, B7⟩ := B6.out.to4 2 _ (.int .i32 q') (.int .i32 s') (.int .i32 e') (.int .i32 y') rfl
    rw [hw7]
    obtain ⟨w8, hw8, B8⟩ := B7.to2 3 _ (.int .i32 p') (.int .i32 v') rfl
    rw [hw8]
    have B9 := B8.drew
    generalize w8.drew = w9 at *
    have yl := (B9.box 2 _ _ rfl).lt
    have y0 := (B9.box 2 _ _ rfl).cell 0 _ rfl
    have y1 := (B9.box 2 _ _ rfl).cell 1 _ rfl
    have y2 := (B9.box 2 _ _ rfl).cell 2 _ rfl
    have y3 := (B9.box 2 _ _ rfl).cell 3 _ rfl
    have zl := (B9.box 3 _ _ rfl).lt
    have z0 := (B9.box 3 _ _ rfl).cell 0 _ rfl
    have z1 := (B9.box 3 _ _ rfl).cell 1 _ rfl
    refine bodyPost_ret (by simp [results, Try.results17, go_sem, y0, y1, y2, y3, z0, z1]; try rfl) rfl ?_
    exact ⟨rfl, B9.bel⟩

theorem psI_zero (m : Int) : psI m 0 0 = 0 := by
  by_cases h : m = 1
  · subst h
    unfold psI
    rw [act_yes]
    exact mulI_none _
  · exact psI_no h 0 0

/-- one frame of a trial that is right -/
theorem frame_any (x : Tri) (z : Sta) (u : Int) (w : World) {p0 : Int} (hT : TI x) (hO : OkT x p0) (h : SS x z) (hu : I32 u) :
    Calls Try.prog 17 #[.agg #[.int .i32 x.g, .int .i64 x.n, .int .i32 x.lo, .int .i32 x.hi, .int .i32 z.p, .int .i32 z.v, .int .i32 x.r, .int .i64 x.m, .int .i32 x.P, .int .i32 x.I, .int .i32 x.D, .int .i32 x.a, .int .i32 x.b, .int .i32 x.o, .int .i32 x.l, .bool x.k], .agg #[.int .i32 z.q, .int .i32 z.s, .int .i32 z.t, .int .i32 z.y], .int .i32 u] w fun e w' => e = .returned (.tuple #[.agg #[.int .i32 (nxF x z u).q, .int .i32 (nxF x z u).s, .int .i32 (nxF x z u).t, .int .i32 (nxF x z u).y], .agg #[.int .i32 (nxF x z u).p, .int .i32 (nxF x z u).v]]) ∧ Below w.heap.size w w' := by
  have zp : I32 z.p := ⟨by have := hT.lo.1; have := h.p1; omega, by have := hT.hi.2; have := h.p2; omega⟩
  have yI : I32 (vlF x z u) := lowI_I _ h.y (stO_I hT.G.lo hT.G.hi)
  have vI : I32 (vaF x z u) := by
    unfold vaF
    split
    · exact I32_zero
    · exact yI
  have M1 : OkM 1 ∧ OkM 0 ∧ OkM 0 ∧ OkM 0 := by unfold OkM; omega
  have hB := hO.body
  refine frame_core x z.q z.s z.t z.y z.p z.v u w _ _ _ _ (vaF x z u) (psI 1 (vaF x z u) x.o) _ _ ?_ ?_ ?_ ?_
  · exact fun W => srvStep_ok x.r x.m x.P x.I x.D x.a x.b z.q z.s z.t z.y u z.p W hT.G ⟨hT.r, h.q, h.t, h.y, hu, zp⟩ hO.srv h.s1 h.s2 _ _ _ _ _ rfl rfl rfl rfl rfl
  · intro W
    have := push_ok (vaF x z u) 0 0 0 1 0 0 0 x.o 0 0 0 W M1 ⟨vI, I32_zero, I32_zero, I32_zero⟩ ⟨hT.o, I32_zero, I32_zero, I32_zero⟩
    rw [psI_zero 0] at this
    exact this
  · intro W
    have e : psI 0 0 0 = 0 := psI_zero 0
    exact ramStep_ok x.g x.n x.lo x.hi z.p z.v (psI 1 (vaF x z u) x.o) 0 0 0 1 0 0 0 x.l W ⟨h.p1, h.p2, hB.2.2⟩ M1 ⟨hT.g, hT.lo, hT.hi, zp⟩ ⟨mulI_I _ _, I32_zero, I32_zero, I32_zero⟩ hT.l 0 (puF x z u) _ _ (by decide) (by unfold puF; rw [e]) rfl rfl
  · unfold vaF
    show x.k = true ∧ _ = _ ∨ x.k = false ∧ _ = _
    rcases hk : x.k
    · right
      exact ⟨rfl, rfl⟩
    · left
      exact ⟨rfl, rfl⟩

end Go.Proofs.Ytihcioghbidblaa
