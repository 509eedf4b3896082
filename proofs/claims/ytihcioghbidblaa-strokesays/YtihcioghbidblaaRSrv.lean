/-
  Contracts of the document's own answers (package steadref: Sense, ServoErr, ServoStep): the same plain functions of whole numbers as package servo's.
-/
import Derived.Test.YtihcioghbidblaaSrvStp
import Derived.Test.YtihcioghbidblaaRFilt
import Derived.Test.YtihcioghbidblaaRPid
namespace Go.Proofs.Ytihcioghbidblaa
open Go.RowKit
set_option linter.unusedVariables false

set_option maxHeartbeats 1000000 in
theorem rsrvErr_bad (r m P I D lo hi g s t v : Int) (w : World) (h : ¬ (OkV r m ∧ lo ≤ s ∧ s ≤ hi)) : Calls Try.prog 20 #[.agg #[.int .i32 r, .int .i64 m, .int .i32 P, .int .i32 I, .int .i32 D, .int .i32 lo, .int .i32 hi], .agg #[.int .i32 g, .int .i32 s, .int .i32 t, .int .i32 v]] w fun e w' => e = .returned (.int .i64 1) ∧ Below w.heap.size w w' := by
  unfold OkV at h
  by_cases q1 : r < 0
  · clear h
    go_enter Try.func20, Try.ntmps20
    go_wp2_with fail
    go_ret
    exact ⟨rfl, two_boxes _ _ _⟩
  · by_cases q2 : m < 0
    · clear h
      go_enter Try.func20, Try.ntmps20
      go_wp2_with fail
      go_ret
      exact ⟨rfl, two_boxes _ _ _⟩
    · by_cases q3 : 30 < m
      · clear h
        go_enter Try.func20, Try.ntmps20
        go_wp2_with fail
        go_ret
        exact ⟨rfl, two_boxes _ _ _⟩
      · have C1 : Hid (_) := fun W => rerr_bad P I D lo hi s t W (by omega)
        clear h
        go_enter Try.func20, Try.ntmps20
        go_wp2_with fail
        refine (C1.out _).mono ?_
        rintro r w1 ⟨rfl, hb⟩
        have B1 : Hid (_) := below_then (two_boxes _ _ _) hb
        clear hb
        go_wp2_with fail
        go_ret
        exact ⟨rfl, B1.out⟩

set_option maxHeartbeats 1000000 in
theorem rsrvErr_ok (r m P I D lo hi g s t v : Int) (w : World) (h : OkV r m) (h1 : lo ≤ s) (h2 : s ≤ hi) : Calls Try.prog 20 #[.agg #[.int .i32 r, .int .i64 m, .int .i32 P, .int .i32 I, .int .i32 D, .int .i32 lo, .int .i32 hi], .agg #[.int .i32 g, .int .i32 s, .int .i32 t, .int .i32 v]] w fun e w' => e = .returned (.int .i64 0) ∧ Below w.heap.size w w' := by
  obtain ⟨r0, m0, m1⟩ := h
  have q1 : ¬ r < 0 := by omega
  have q2 : ¬ m < 0 := by omega
  have q3 : ¬ 30 < m := by omega
  have C1 : Hid (_) := fun W => rerr_ok P I D lo hi s t W h1 h2
  clear h1 h2 r0 m0 m1
  go_enter Try.func20, Try.ntmps20
  go_wp2_with fail
  refine (C1.out _).mono ?_
  rintro r w1 ⟨rfl, hb⟩
  have B1 : Hid (_) := below_then (two_boxes _ _ _) hb
  clear hb
  go_wp2_with fail
  go_ret
  exact ⟨rfl, B1.out⟩

set_option maxHeartbeats 4000000 in
set_option maxRecDepth 100000 in
theorem rsrvStep_ok (r m P I D lo hi g s t v x p : Int) (w : World) (G : GI P I D lo hi) (S : SI r g t v x p) (h : OkV r m) (h1 : lo ≤ s) (h2 : s ≤ hi) (q e s' o y : Int) (hq : rateI g x r = q) (he : s32 (q - p) = e) (hs : stS P I D lo hi s t e = s') (ho : stO P I D lo hi s t e = o) (hy : lowI v o m.toNat = y) :
    Calls Try.prog 21 #[.agg #[.int .i32 r, .int .i64 m, .int .i32 P, .int .i32 I, .int .i32 D, .int .i32 lo, .int .i32 hi], .agg #[.int .i32 g, .int .i32 s, .int .i32 t, .int .i32 v], .int .i32 x, .int .i32 p] w fun e' w' => e' = .returned (.tuple #[.agg #[.int .i32 q, .int .i32 s', .int .i32 e, .int .i32 y], .int .i32 y]) ∧ Below w.heap.size w w' := by
  have B0 : Hid (_) := sa_new w r m P I D lo hi g s t v 29 51 51
  have qI : I32 q := by rw [← hq]; exact rateI_I S.r
  have eI : I32 e := by rw [← he]; exact s32_I _
  have oI : I32 o := by rw [← ho]; exact stO_I G.lo G.hi
  have C2 : Hid (∀ W, Calls Try.prog 32 #[.int .i32 g, .int .i32 x, .int .i32 r] W fun r w' => r = .returned (.int .i32 q) ∧ Below W.heap.size W w') := fun W => by
    rw [← hq]
    exact (rrate_any _ _ _ S.g.1 S.g.2 S.x.1 S.x.2 S.r.1 S.r.2 W).mono fun r w' h => ⟨h.1, by rw [h.2]; exact Below.refl _ _⟩
  have C3 : Hid (∀ W, Calls Try.prog 34 #[.int .i64 (q - p)] W fun r w' => r = .returned (.int .i32 e) ∧ w' = W) := fun W => by
    rw [← he]
    exact rsat_any _ W
  have C4 : Hid (∀ W, Calls Try.prog 33 #[.agg #[.int .i32 P, .int .i32 I, .int .i32 D, .int .i32 lo, .int .i32 hi], .agg #[.int .i32 s, .int .i32 t], .int .i32 e] W fun r w' => r = .returned (.tuple #[.agg #[.int .i32 s', .int .i32 e], .int .i32 o]) ∧ Below W.heap.size W w') := fun W => by
    rw [← hs, ← ho]
    exact rstep_any P I D lo hi s t e W G (I32.mid G.lo G.hi h1 h2) S.t eI
  have C5 : Hid (∀ W, Calls Try.prog 35 #[.int .i32 v, .int .i32 o, .int .i64 m] W fun r w' => r = .returned (.int .i32 y) ∧ w' = W) := fun W => by
    rw [← hy]
    obtain ⟨n, rfl⟩ : ∃ n : Nat, m = n := ⟨m.toNat, by have := h.2.1; omega⟩
    exact rlow_any _ _ _ S.v.1 S.v.2 oI.1 oI.2 (by have := h.2.2; omega) W
  obtain ⟨qI1, qI2⟩ := qI
  obtain ⟨pI1, pI2⟩ := S.p
  have a1 : IntKind.i64.wrap (IntKind.i64.wrap q - IntKind.i64.wrap p) = q - p := by rw [IntKind.wrap_i64, IntKind.wrap_i64, IntKind.wrap_i64]; omega
  have W1 : Hid (IntKind.i64.wrap (IntKind.i64.wrap q - IntKind.i64.wrap p) = q - p) := a1
  clear a1
  clear G S h h1 h2 hq he hs ho hy eI oI
  go_enter Try.func21, Try.ntmps21
  go_wp2_with fail
  refine (C2.out _).mono ?_
  rintro e' w2 ⟨rfl, hb⟩
  have B1 : Hid (_) := B0.out.step hb
  clear hb B0
  obtain ⟨⟨l0, l1⟩, ⟨p0, p1, p2, p3, p4, p5, p6⟩, s0, s1, s2, s3⟩ := B1.out.x.facts
  go_wp2_with fail
  have L2 : Hid (w.heap.size + 1 + 1 < w2.heap.size) := B1.out.an.lt
  have e0 : ¬ w.heap.size = w2.heap.size := by have := L2.out; omega
  have e1 : ¬ w.heap.size + 1 = w2.heap.size := by have := L2.out; omega
  have e2 : ¬ w2.heap.size = w.heap.size := by have := L2.out; omega
  have e3 : ¬ w2.heap.size = w.heap.size + 1 := by have := L2.out; omega
  go_upto_region 2 with (fail)
  go_cut [11, 12] (fun s13 s14 wc => ∃ b, s13 = .pointer (some ⟨b, 0, none⟩) ∧ s14 = .int .i32 o ∧ Hid (Sk w r m P I D lo hi g s t v b s' e wc))
  case first =>
    go_region_held3 (fun w' => (w'.cell? ⟨w.heap.size, 2, none⟩ = some (.int .i32 P) ∧ w'.cell? ⟨w.heap.size, 3, none⟩ = some (.int .i32 I) ∧ w'.cell? ⟨w.heap.size, 4, none⟩ = some (.int .i32 D) ∧ w'.cell? ⟨w.heap.size, 5, none⟩ = some (.int .i32 lo) ∧ w'.cell? ⟨w.heap.size, 6, none⟩ = some (.int .i32 hi)) ∧ w'.cell? ⟨w.heap.size + 1, 1, none⟩ = some (.int .i32 s) ∧ w'.cell? ⟨w.heap.size + 1, 2, none⟩ = some (.int .i32 t)) (go_keep) (first | (go_at_call 34; try rw [W1.out]; refine (C3.out _).mono ?_; rintro r w5 ⟨rfl, rfl⟩) | (go_at_call 33; refine (C4.out _).mono ?_; rintro r w3 ⟨rfl, hb⟩; have B3 : Hid (Sa w r m P I D lo hi g s t v w3) := (by first | exact ((B1.out.alloc _).step (Below.refl _ _).drew).step hb | exact (B1.out.step (Below.refl _ _).drew).step hb); obtain ⟨⟨l0', l1'⟩, ⟨p0', p1', p2', p3', p4', p5', p6'⟩, s0', s1', s2', s3'⟩ := B3.out.x.facts; try (have X3 : Hid (Cells w3 w2.heap.size [.int .i32 0, .int .i32 0]) := ((cells_new w2 #[.int .i32 0, .int .i32 0] 49).drew).step hb; have k0 := X3.out.cell 0 _ rfl; have k1 := X3.out.cell 1 _ rfl; have g0 := X3.out.froz 0 _ rfl; have g1 := X3.out.froz 1 _ rfl; have lk := X3.out.lt); clear hb))
    all_goals (try go_wp2)
    all_goals go_meet
    all_goals first | exact ⟨_, rfl, rfl, Sk.store B3.out X3.out L2.out _ _⟩ | exact ⟨_, rfl, rfl, Sk.new B3.out _ _ _⟩
  case rest =>
    obtain ⟨b, rfl, rfl, B4⟩ := hcut
    clear B1 L2 e0 e1 e2 e3 l0 l1 p0 p1 p2 p3 p4 p5 p6 s0 s1 s2 s3 C2 C3 C4
    obtain ⟨⟨l0, l1⟩, ⟨p0, p1, p2, p3, p4, p5, p6⟩, s0, s1, s2, s3⟩ := B4.out.a.x.facts
    go_wp2_with fail
    refine (C5.out _).mono ?_
    rintro e' w5 ⟨rfl, rfl⟩
    obtain ⟨l2, ⟨r0, r1, r2, r3⟩, f0, f1, f2, f3⟩ := B4.out.a.answer
    have k0 := B4.out.k.cell 0 _ rfl
    have k1 := B4.out.k.cell 1 _ rfl
    have lk := B4.out.k.lt
    go_wp2_with fail
    obtain ⟨w6, hw6, y0, y1, y2, y3, b3⟩ := B4.out.a.put q s' e y
    rw [hw6]
    refine bodyPost_ret (by simp [results, Try.results21, go_sem, y0, y1, y2, y3]; try rfl) rfl ?_
    exact ⟨rfl, b3⟩

end Go.Proofs.Ytihcioghbidblaa
