/-
  Contract of servo.Step where a servo and what it keeps are right.
-/
import Derived.Test.YtihcioghbidblaaSrv
namespace Go.Proofs.Ytihcioghbidblaa
open Go.RowKit
set_option linter.unusedVariables false

/-- all that Step reckons with are numbers of 32 bits -/
structure SI (r g t v x p : Int) : Prop where
  r : I32 r
  g : I32 g
  t : I32 t
  v : I32 v
  x : I32 x
  p : I32 p
theorem rateI_I {y x m : Int} (hm : I32 m) : I32 (rateI y x m) := by
  have := wide_in hm.1 hm.2
  have a := s32_I (y - wide m)
  have b := s32_I (y + wide m)
  rw [← rate_clamp hm.1 hm.2]
  exact clampI_I a b
theorem lowI_I {y x : Int} (n : Nat) (hy : I32 y) (hx : I32 x) : I32 (lowI y x n) := by
  have p := step_in (d := x - y) (pow2_pos n)
  obtain ⟨y1, y2⟩ := hy
  obtain ⟨x1, x2⟩ := hx
  unfold lowI
  exact ⟨by omega, by omega⟩

theorem Sa.other {w : World} {r m P I D lo hi g s t v : Int} {W : World} (h : Sa w r m P I D lo hi g s t v W) {b j : Nat} (hb : w.heap.size + 1 + 1 < b) (x : Value) : Sa w r m P I D lo hi g s t v (W.setCell ⟨b, j, none⟩ x) :=
  ⟨⟨h.x.bel.setCell (p := ⟨b, j, none⟩) (by simp; omega) _, h.x.sv.other (by omega) _, h.x.dr.other (by omega) _⟩, h.an.other (by omega) _⟩
/-- what lies behind pid.Step's call: the boxes, and one with what is kept -/
structure Sk (w : World) (r m P I D lo hi g s t v : Int) (b : Nat) (c d : Int) (W : World) : Prop where
  a : Sa w r m P I D lo hi g s t v W
  k : Cells W b [.int .i32 c, .int .i32 d]
theorem Sk.store {w : World} {r m P I D lo hi g s t v : Int} {b : Nat} {c d : Int} {W : World} (h : Sa w r m P I D lo hi g s t v W) (k : Cells W b [.int .i32 c, .int .i32 d]) (hb : w.heap.size + 1 + 1 < b) (c' d' : Int) : Sk w r m P I D lo hi g s t v b c' d' ((W.setCell ⟨b, 0, none⟩ (.int .i32 c')).setCell ⟨b, 1, none⟩ (.int .i32 d')) :=
  ⟨(h.other hb _).other hb _, (k.set (j := 0) (by simp) (.int .i32 c')).set (j := 1) (by simp) (.int .i32 d')⟩
theorem Sk.new {w : World} {r m P I D lo hi g s t v : Int} {W : World} (h : Sa w r m P I D lo hi g s t v W) (c d : Int) (ty : TypeId) : Sk w r m P I D lo hi g s t v W.heap.size c d (W.alloc (.cells #[.int .i32 c, .int .i32 d] ty)) :=
  ⟨h.alloc _, cells_new W #[.int .i32 c, .int .i32 d] ty⟩
theorem Sk.step {w : World} {r m P I D lo hi g s t v : Int} {b : Nat} {c d : Int} {W W' : World} (h : Sk w r m P I D lo hi g s t v b c d W) (hb : Below W.heap.size W W') : Sk w r m P I D lo hi g s t v b c d W' := ⟨h.a.step hb, h.k.step hb⟩

set_option maxHeartbeats 4000000 in
set_option maxRecDepth 100000 in
theorem srvStep_ok (r m P I D lo hi g s t v x p : Int) (w : World) (G : GI P I D lo hi) (S : SI r g t v x p) (h : OkV r m) (h1 : lo ≤ s) (h2 : s ≤ hi) (q e s' o y : Int) (hq : rateI g x r = q) (he : s32 (q - p) = e) (hs : stS P I D lo hi s t e = s') (ho : stO P I D lo hi s t e = o) (hy : lowI v o m.toNat = y) :
    Calls Try.prog 28 #[.agg #[.int .i32 r, .int .i64 m, .int .i32 P, .int .i32 I, .int .i32 D, .int .i32 lo, .int .i32 hi], .agg #[.int .i32 g, .int .i32 s, .int .i32 t, .int .i32 v], .int .i32 x, .int .i32 p] w fun e' w' => e' = .returned (.tuple #[.agg #[.int .i32 q, .int .i32 s', .int .i32 e, .int .i32 y], .int .i32 y, .int .i64 0]) ∧ Below w.heap.size w w' := by
  have B0 : Hid (_) := sa_new w r m P I D lo hi g s t v 29 51 51
  have C1 : Hid (_) := fun W => srvCheck_ok r m P I D lo hi g s t v W h h1 h2
  have qI : I32 q := by rw [← hq]; exact rateI_I S.r
  have eI : I32 e := by rw [← he]; exact s32_I _
  have oI : I32 o := by rw [← ho]; exact stO_I G.lo G.hi
  have C2 : Hid (∀ W, Calls Try.prog 41 #[.int .i32 g, .int .i32 x, .int .i32 r] W fun r w' => r = .returned (.int .i32 q) ∧ w' = W) := fun W => by
    rw [← hq]
    exact rate_any _ _ _ S.g.1 S.g.2 S.r.1 S.r.2 W
  have C3 : Hid (∀ W, Calls Try.prog 43 #[.int .i32 q, .int .i32 p] W fun r w' => r = .returned (.int .i32 e) ∧ w' = W) := fun W => by
    rw [← he]
    exact sub_any _ _ qI.1 qI.2 S.p.1 S.p.2 W
  have C4 : Hid (∀ W, Calls Try.prog 42 #[.agg #[.int .i32 P, .int .i32 I, .int .i32 D, .int .i32 lo, .int .i32 hi], .agg #[.int .i32 s, .int .i32 t], .int .i32 e] W fun r w' => r = .returned (.tuple #[.agg #[.int .i32 s', .int .i32 e], .int .i32 o, .int .i64 0]) ∧ Below W.heap.size W w') := fun W => by
    rw [← hs, ← ho]
    exact step_ok P I D lo hi s t e W G S.t eI h1 h2
  have C5 : Hid (∀ W, Calls Try.prog 44 #[.int .i32 v, .int .i32 o, .int .i64 m] W fun r w' => r = .returned (.tuple #[.int .i32 y, .int .i64 0]) ∧ w' = W) := fun W => by
    rw [← hy]
    obtain ⟨n, rfl⟩ : ∃ n : Nat, m = n := ⟨m.toNat, by have := h.2.1; omega⟩
    exact low_any _ _ _ S.v.1 S.v.2 oI.1 oI.2 (by have := h.2.2; omega) W
  clear G S h h1 h2 hq he hs ho hy qI eI oI
  go_enter Try.func28, Try.ntmps28
  go_wp2_with fail
  refine (C1.out _).mono ?_
  rintro e' w1 ⟨rfl, hb⟩
  have B1 : Hid (_) := B0.out.step hb
  clear hb B0 C1
  obtain ⟨⟨l0, l1⟩, ⟨p0, p1, p2, p3, p4, p5, p6⟩, s0, s1, s2, s3⟩ := B1.out.x.facts
  go_wp2_with fail
  refine (C2.out _).mono ?_
  rintro e' w2 ⟨rfl, rfl⟩
  go_wp2_with fail
  have L2 : Hid (w.heap.size + 1 + 1 < w2.heap.size) := B1.out.an.lt
  have e0 : ¬ w.heap.size = w2.heap.size := by have := L2.out; omega
  have e1 : ¬ w.heap.size + 1 = w2.heap.size := by have := L2.out; omega
  have e2 : ¬ w2.heap.size = w.heap.size := by have := L2.out; omega
  have e3 : ¬ w2.heap.size = w.heap.size + 1 := by have := L2.out; omega
  go_upto_region 5 with (fail)
  go_cut [13, 14] (fun s13 s14 wc => ∃ b, s13 = .pointer (some ⟨b, 0, none⟩) ∧ s14 = .int .i32 o ∧ Hid (Sk w r m P I D lo hi g s t v b s' e wc))
  case first =>
    go_region_held3 (fun w' => (w'.cell? ⟨w.heap.size, 2, none⟩ = some (.int .i32 P) ∧ w'.cell? ⟨w.heap.size, 3, none⟩ = some (.int .i32 I) ∧ w'.cell? ⟨w.heap.size, 4, none⟩ = some (.int .i32 D) ∧ w'.cell? ⟨w.heap.size, 5, none⟩ = some (.int .i32 lo) ∧ w'.cell? ⟨w.heap.size, 6, none⟩ = some (.int .i32 hi)) ∧ w'.cell? ⟨w.heap.size + 1, 1, none⟩ = some (.int .i32 s) ∧ w'.cell? ⟨w.heap.size + 1, 2, none⟩ = some (.int .i32 t)) (go_keep) (first | (go_at_call 43; refine (C3.out _).mono ?_; rintro r w5 ⟨rfl, rfl⟩) | (go_at_call 42; refine (C4.out _).mono ?_; rintro r w3 ⟨rfl, hb⟩; have B3 : Hid (Sa w r m P I D lo hi g s t v w3) := (by first | exact ((B1.out.alloc _).step (Below.refl _ _).drew).step hb | exact (B1.out.step (Below.refl _ _).drew).step hb); obtain ⟨⟨l0', l1'⟩, ⟨p0', p1', p2', p3', p4', p5', p6'⟩, s0', s1', s2', s3'⟩ := B3.out.x.facts; try (have X3 : Hid (Cells w3 w2.heap.size [.int .i32 0, .int .i32 0]) := ((cells_new w2 #[.int .i32 0, .int .i32 0] 49).drew).step hb; have k0 := X3.out.cell 0 _ rfl; have k1 := X3.out.cell 1 _ rfl; have g0 := X3.out.froz 0 _ rfl; have g1 := X3.out.froz 1 _ rfl; have lk := X3.out.lt); clear hb))
    all_goals (try go_wp2)
    all_goals go_meet
    all_goals first | exact ⟨_, rfl, rfl, Sk.store B3.out X3.out L2.out _ _⟩ | exact ⟨_, rfl, rfl, Sk.new B3.out _ _ _⟩
  case rest =>
    obtain ⟨b, rfl, rfl, B4⟩ := hcut
    clear B1 L2 e0 e1 e2 e3 l0 l1 p0 p1 p2 p3 p4 p5 p6 s0 s1 s2 s3 C2 C3 C4
    obtain ⟨⟨l0, l1⟩, ⟨p0, p1, p2, p3, p4, p5, p6⟩, s0, s1, s2, s3⟩ := B4.out.a.x.facts
    go_wp2_with fail
    refine (C5.out _).mono ?_
    rintro e' w5 ⟨rfl, rfl⟩
    obtain ⟨l2, ⟨r0, r1, r2, r3⟩, f0, f1, f2, f3⟩ := B4.out.a.answer
    have k0 := B4.out.k.cell 0 _ rfl
    have k1 := B4.out.k.cell 1 _ rfl
    have lk := B4.out.k.lt
    go_wp2_with fail
    obtain ⟨w6, hw6, y0, y1, y2, y3, b3⟩ := B4.out.a.put q s' e y
    rw [hw6]
    refine bodyPost_ret (by simp [results, Try.results28, go_sem, y0, y1, y2, y3]; try rfl) rfl ?_
    exact ⟨rfl, b3⟩

end Go.Proofs.Ytihcioghbidblaa
