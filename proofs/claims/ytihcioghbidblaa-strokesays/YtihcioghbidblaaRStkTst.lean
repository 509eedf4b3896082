/-
  Contract of the document's own Test (package steadref) where all is right.
-/
import Derived.Test.YtihcioghbidblaaRStk
import Derived.Deep.DeepCutAuto
namespace Go.Proofs.Ytihcioghbidblaa
open Go.RowKit
set_option linter.unusedVariables false

set_option maxHeartbeats 32000000 in
set_option maxRecDepth 100000 in
theorem rtest_core (x : Tri) (a : Option Addr) (n c : Nat) (l : Nat → Pt) (w : World) (h : RowP w a n l) (Z : Nat → Sta) (Q : Nat → Nat → Sta) (F : Nat → Bool) (VA PU : Nat → Nat → Int) (MX : Nat → Int)
    (CP : Hid (∀ W, RowP W a n l → Calls Try.prog 6 #[.slice a n c] W fun e w' => e = .returned (.int .i64 0) ∧ Below W.heap.size W w'))
    (CB : Hid (∀ W, Calls Try.prog 19 #[.agg #[.int .i32 x.g, .int .i64 x.n, .int .i32 x.lo, .int .i32 x.hi], .agg #[.int .i32 (Z 0).p, .int .i32 (Z 0).v]] W fun e w' => e = .returned (.int .i64 0) ∧ Below W.heap.size W w'))
    (CS : Hid (∀ W, Calls Try.prog 20 #[.agg #[.int .i32 x.r, .int .i64 x.m, .int .i32 x.P, .int .i32 x.I, .int .i32 x.D, .int .i32 x.a, .int .i32 x.b], .agg #[.int .i32 0, .int .i32 0, .int .i32 0, .int .i32 0]] W fun e w' => e = .returned (.int .i64 0) ∧ Below W.heap.size W w'))
    (Z0 : Hid ((Z 0).q = (Z 0).p ∧ (Z 0).s = 0 ∧ (Z 0).t = 0 ∧ (Z 0).y = 0))
    (CV : Hid (∀ (j k : Nat) W, j < n → Calls Try.prog 21 #[.agg #[.int .i32 x.r, .int .i64 x.m, .int .i32 x.P, .int .i32 x.I, .int .i32 x.D, .int .i32 x.a, .int .i32 x.b], .agg #[.int .i32 (Q j k).q, .int .i32 (Q j k).s, .int .i32 (Q j k).t, .int .i32 (Q j k).y], .int .i32 (l j).w, .int .i32 (Q j k).p] W fun e w' => e = .returned (.tuple #[.agg #[.int .i32 (Q j (k + 1)).q, .int .i32 (Q j (k + 1)).s, .int .i32 (Q j (k + 1)).t, .int .i32 (Q j (k + 1)).y], .int .i32 (Q j (k + 1)).y]) ∧ Below W.heap.size W w'))
    (HV : Hid (∀ j k, x.k = true ∧ VA j k = 0 ∨ x.k = false ∧ VA j k = (Q j (k + 1)).y))
    (HU : Hid (∀ j k, (0 < x.o ∧ ∀ W, Calls Try.prog 22 #[.int .i32 (VA j k), .int .i32 x.o] W fun e w' => e = .returned (.int .i32 (PU j k)) ∧ w' = W) ∨ (¬ 0 < x.o ∧ PU j k = 0)))
    (CR : Hid (∀ (j k : Nat) W, j < n → Calls Try.prog 23 #[.agg #[.int .i32 x.g, .int .i64 x.n, .int .i32 x.lo, .int .i32 x.hi], .agg #[.int .i32 (Q j k).p, .int .i32 (Q j k).v], .agg #[.int .i32 (PU j k), .int .i32 0, .int .i32 0, .int .i32 0], .agg #[.int .i64 1, .int .i64 0, .int .i64 0, .int .i64 0], .int .i32 x.l] W fun e w' => e = .returned (.tuple #[.agg #[.int .i32 (Q j (k + 1)).p, .int .i32 (Q j (k + 1)).v], .int .i64 0]) ∧ Below W.heap.size W w'))
    (Q0 : Hid (∀ j, Q j 0 = Z j)) (Q1 : Hid (∀ j, Q j (l j).f.toNat = Z (j + 1)))
    (CI : Hid (∀ j W, j < n → Calls Try.prog 24 #[.int .i32 (Z (j + 1)).p, .int .i32 (l j).w] W fun e w' => e = .returned (.int .i64 (MX j)) ∧ w' = W))
    (HM : Hid (∀ j, F j = decide ((l j).d < MX j)))
    (HD : Hid (∀ j, I32 (l j).d))
    (HO : Hid (okPs l n)) (hn16 : n ≤ 16) :
    Calls Try.prog 9 #[.agg #[.int .i32 x.g, .int .i64 x.n, .int .i32 x.lo, .int .i32 x.hi, .int .i32 (Z 0).p, .int .i32 (Z 0).v, .int .i32 x.r, .int .i64 x.m, .int .i32 x.P, .int .i32 x.I, .int .i32 x.D, .int .i32 x.a, .int .i32 x.b, .int .i32 x.o, .int .i32 x.l, .bool x.k], .slice a n c] w fun e w' => e = .returned (.tuple #[.int .i64 (fiB F n : Nat), .agg #[.int .i32 (Z (min (fiB F n + 1) n)).p, .int .i32 (Z (min (fiB F n + 1) n)).v], .int .i64 0]) ∧ Below w.heap.size w w' := by
  have B0 : Hid (_) := bxsII w #[.int .i32 x.g, .int .i64 x.n, .int .i32 x.lo, .int .i32 x.hi, .int .i32 (Z 0).p, .int .i32 (Z 0).v, .int .i32 x.r, .int .i64 x.m, .int .i32 x.P, .int .i32 x.I, .int .i32 x.D, .int .i32 x.a, .int .i32 x.b, .int .i32 x.o, .int .i32 x.l, .bool x.k] #[.int .i32 0, .int .i32 0] 31 25
  have HR : Hid (RowP w a n l) := h
  have HN : Hid (n ≤ 16) := hn16
  clear h hn16
  go_enter Try.func9, Try.ntmps9
  go_upto_region 1 with (fail)
  obtain ⟨w0, hw0⟩ : ∃ w0, (w.alloc (.cells #[.int .i32 x.g, .int .i64 x.n, .int .i32 x.lo, .int .i32 x.hi, .int .i32 (Z 0).p, .int .i32 (Z 0).v, .int .i32 x.r, .int .i64 x.m, .int .i32 x.P, .int .i32 x.I, .int .i32 x.D, .int .i32 x.a, .int .i32 x.b, .int .i32 x.o, .int .i32 x.l, .bool x.k] 31)).alloc (.cells #[.int .i32 0, .int .i32 0] 25) = w0 := ⟨_, rfl⟩
  have A0 : Hid (Bxs w [(w.heap.size, [.int .i32 x.g, .int .i64 x.n, .int .i32 x.lo, .int .i32 x.hi, .int .i32 (Z 0).p, .int .i32 (Z 0).v, .int .i32 x.r, .int .i64 x.m, .int .i32 x.P, .int .i32 x.I, .int .i32 x.D, .int .i32 x.a, .int .i32 x.b, .int .i32 x.o, .int .i32 x.l, .bool x.k]), (w.heap.size + 1, [.int .i32 0, .int .i32 0])] w0) := by rw [← hw0]; exact B0.out
  rw [hw0]
  clear hw0 B0
  have tl := (A0.out.box 0 _ _ rfl).lt
  have t0 := (A0.out.box 0 _ _ rfl).cell 0 _ rfl
  have t1 := (A0.out.box 0 _ _ rfl).cell 1 _ rfl
  have t2 := (A0.out.box 0 _ _ rfl).cell 2 _ rfl
  have t3 := (A0.out.box 0 _ _ rfl).cell 3 _ rfl
  have t4 := (A0.out.box 0 _ _ rfl).cell 4 _ rfl
  have t5 := (A0.out.box 0 _ _ rfl).cell 5 _ rfl
  have t6 := (A0.out.box 0 _ _ rfl).cell 6 _ rfl
  have t7 := (A0.out.box 0 _ _ rfl).cell 7 _ rfl
  have t8 := (A0.out.box 0 _ _ rfl).cell 8 _ rfl
  have t9 := (A0.out.box 0 _ _ rfl).cell 9 _ rfl
  have t10 := (A0.out.box 0 _ _ rfl).cell 10 _ rfl
  have t11 := (A0.out.box 0 _ _ rfl).cell 11 _ rfl
  have t12 := (A0.out.box 0 _ _ rfl).cell 12 _ rfl
  have t13 := (A0.out.box 0 _ _ rfl).cell 13 _ rfl
  have t14 := (A0.out.box 0 _ _ rfl).cell 14 _ rfl
  have t15 := (A0.out.box 0 _ _ rfl).cell 15 _ rfl
  go_region_held3 (fun w' => w'.cell? ⟨w.heap.size, 0, none⟩ = some (.int .i32 x.g) ∧ w'.cell? ⟨w.heap.size, 1, none⟩ = some (.int .i64 x.n) ∧ w'.cell? ⟨w.heap.size, 2, none⟩ = some (.int .i32 x.lo) ∧ w'.cell? ⟨w.heap.size, 3, none⟩ = some (.int .i32 x.hi) ∧ w'.cell? ⟨w.heap.size, 4, none⟩ = some (.int .i32 (Z 0).p) ∧ w'.cell? ⟨w.heap.size, 5, none⟩ = some (.int .i32 (Z 0).v) ∧ w'.cell? ⟨w.heap.size, 6, none⟩ = some (.int .i32 x.r) ∧ w'.cell? ⟨w.heap.size, 7, none⟩ = some (.int .i64 x.m) ∧ w'.cell? ⟨w.heap.size, 8, none⟩ = some (.int .i32 x.P) ∧ w'.cell? ⟨w.heap.size, 9, none⟩ = some (.int .i32 x.I) ∧ w'.cell? ⟨w.heap.size, 10, none⟩ = some (.int .i32 x.D) ∧ w'.cell? ⟨w.heap.size, 11, none⟩ = some (.int .i32 x.a) ∧ w'.cell? ⟨w.heap.size, 12, none⟩ = some (.int .i32 x.b)) (go_keep) (first | (go_at_call 6; refine (CP.out _ (HR.out.step A0.out.drew.bel)).mono ?_; rintro r w3 ⟨rfl, hb⟩; have A3 : Hid (Bxs w [(w.heap.size, [.int .i32 x.g, .int .i64 x.n, .int .i32 x.lo, .int .i32 x.hi, .int .i32 (Z 0).p, .int .i32 (Z 0).v, .int .i32 x.r, .int .i64 x.m, .int .i32 x.P, .int .i32 x.I, .int .i32 x.D, .int .i32 x.a, .int .i32 x.b, .int .i32 x.o, .int .i32 x.l, .bool x.k]), (w.heap.size + 1, [.int .i32 0, .int .i32 0])] w3) := A0.out.drew.step hb; clear hb; have pp0 := (A3.out.box 0 _ _ rfl).cell 0 _ rfl; have pp1 := (A3.out.box 0 _ _ rfl).cell 1 _ rfl; have pp2 := (A3.out.box 0 _ _ rfl).cell 2 _ rfl; have pp3 := (A3.out.box 0 _ _ rfl).cell 3 _ rfl; have pp4 := (A3.out.box 0 _ _ rfl).cell 4 _ rfl; have pp5 := (A3.out.box 0 _ _ rfl).cell 5 _ rfl; have pp6 := (A3.out.box 0 _ _ rfl).cell 6 _ rfl; have pp7 := (A3.out.box 0 _ _ rfl).cell 7 _ rfl; have pp8 := (A3.out.box 0 _ _ rfl).cell 8 _ rfl; have pp9 := (A3.out.box 0 _ _ rfl).cell 9 _ rfl; have pp10 := (A3.out.box 0 _ _ rfl).cell 10 _ rfl; have pp11 := (A3.out.box 0 _ _ rfl).cell 11 _ rfl; have pp12 := (A3.out.box 0 _ _ rfl).cell 12 _ rfl; have ppl := (A3.out.box 0 _ _ rfl).lt) | (go_at_call 19; refine (CB.out _).mono ?_; rintro r w4 ⟨rfl, hb⟩; have A4 : Hid (Bxs w [(w.heap.size, [.int .i32 x.g, .int .i64 x.n, .int .i32 x.lo, .int .i32 x.hi, .int .i32 (Z 0).p, .int .i32 (Z 0).v, .int .i32 x.r, .int .i64 x.m, .int .i32 x.P, .int .i32 x.I, .int .i32 x.D, .int .i32 x.a, .int .i32 x.b, .int .i32 x.o, .int .i32 x.l, .bool x.k]), (w.heap.size + 1, [.int .i32 0, .int .i32 0])] w4) := A3.out.step hb; clear hb; have qq0 := (A4.out.box 0 _ _ rfl).cell 0 _ rfl; have qq1 := (A4.out.box 0 _ _ rfl).cell 1 _ rfl; have qq2 := (A4.out.box 0 _ _ rfl).cell 2 _ rfl; have qq3 := (A4.out.box 0 _ _ rfl).cell 3 _ rfl; have qq4 := (A4.out.box 0 _ _ rfl).cell 4 _ rfl; have qq5 := (A4.out.box 0 _ _ rfl).cell 5 _ rfl; have qq6 := (A4.out.box 0 _ _ rfl).cell 6 _ rfl; have qq7 := (A4.out.box 0 _ _ rfl).cell 7 _ rfl; have qq8 := (A4.out.box 0 _ _ rfl).cell 8 _ rfl; have qq9 := (A4.out.box 0 _ _ rfl).cell 9 _ rfl; have qq10 := (A4.out.box 0 _ _ rfl).cell 10 _ rfl; have qq11 := (A4.out.box 0 _ _ rfl).cell 11 _ rfl; have qq12 := (A4.out.box 0 _ _ rfl).cell 12 _ rfl; have qql := (A4.out.box 0 _ _ rfl).lt) | (go_at_call 20; refine (CS.out _).mono ?_; rintro r w5 ⟨rfl, hb⟩; have A5 : Hid (Bxs w [(w.heap.size, [.int .i32 x.g, .int .i64 x.n, .int .i32 x.lo, .int .i32 x.hi, .int .i32 (Z 0).p, .int .i32 (Z 0).v, .int .i32 x.r, .int .i64 x.m, .int .i32 x.P, .int .i32 x.I, .int .i32 x.D, .int .i32 x.a, .int .i32 x.b, .int .i32 x.o, .int .i32 x.l, .bool x.k]), (w.heap.size + 1, [.int .i32 0, .int .i32 0])] w5) := A4.out.step hb; clear hb; have rr0 := (A5.out.box 0 _ _ rfl).cell 0 _ rfl; have rr1 := (A5.out.box 0 _ _ rfl).cell 1 _ rfl; have rr2 := (A5.out.box 0 _ _ rfl).cell 2 _ rfl; have rr3 := (A5.out.box 0 _ _ rfl).cell 3 _ rfl; have rr4 := (A5.out.box 0 _ _ rfl).cell 4 _ rfl; have rr5 := (A5.out.box 0 _ _ rfl).cell 5 _ rfl; have rr6 := (A5.out.box 0 _ _ rfl).cell 6 _ rfl; have rr7 := (A5.out.box 0 _ _ rfl).cell 7 _ rfl; have rr8 := (A5.out.box 0 _ _ rfl).cell 8 _ rfl; have rr9 := (A5.out.box 0 _ _ rfl).cell 9 _ rfl; have rr10 := (A5.out.box 0 _ _ rfl).cell 10 _ rfl; have rr11 := (A5.out.box 0 _ _ rfl).cell 11 _ rfl; have rr12 := (A5.out.box 0 _ _ rfl).cell 12 _ rfl; have rrl := (A5.out.box 0 _ _ rfl).lt))
  clear A0 A3 A4 t0 t1 t2 t3 t4 t5 t6 t7 t8 t9 t10 t11 t12 t13 t14 t15 tl pp0 pp1 pp2 pp3 pp4 pp5 pp6 pp7 pp8 pp9 pp10 pp11 pp12 ppl qq0 qq1 qq2 qq3 qq4 qq5 qq6 qq7 qq8 qq9 qq10 qq11 qq12 qql rr0 rr1 rr2 rr3 rr4 rr5 rr6 rr7 rr8 rr9 rr10 rr11 rr12 rrl CP CB CS
  obtain ⟨S, w6, hw6, hS, A6', lS⟩ := A5.out.new #[.int .i64 0, .int .i64 0, .int .i64 0] 33
  rw [hw6, hS]
  have A6 : Hid (_) := A6'
  have A7 : Hid (Bxs w [(w.heap.size, [.int .i32 x.g, .int .i64 x.n, .int .i32 x.lo, .int .i32 x.hi, .int .i32 (Z 0).p, .int .i32 (Z 0).v, .int .i32 x.r, .int .i64 x.m, .int .i32 x.P, .int .i32 x.I, .int .i32 x.D, .int .i32 x.a, .int .i32 x.b, .int .i32 x.o, .int .i32 x.l, .bool x.k]), (w.heap.size + 1, [.int .i32 0, .int .i32 0])] w6) := Bxs.front (L := [_, _]) A6.out
  clear A6' hw6 hS A5 lS
  have sl := (A6.out.box 2 _ _ rfl).lt
  have s0 := (A6.out.box 2 _ _ rfl).cell 0 _ rfl
  have s1 := (A6.out.box 2 _ _ rfl).cell 1 _ rfl
  have s2 := (A6.out.box 2 _ _ rfl).cell 2 _ rfl
  go_wp2_with fail
  go_rounds 4
  clear sl s0 s1 s2
  clear A6
  have tl := (A7.out.box 0 _ _ rfl).lt
  have t0 := (A7.out.box 0 _ _ rfl).cell 0 _ rfl
  have t1 := (A7.out.box 0 _ _ rfl).cell 1 _ rfl
  have t2 := (A7.out.box 0 _ _ rfl).cell 2 _ rfl
  have t3 := (A7.out.box 0 _ _ rfl).cell 3 _ rfl
  have t4 := (A7.out.box 0 _ _ rfl).cell 4 _ rfl
  have t5 := (A7.out.box 0 _ _ rfl).cell 5 _ rfl
  have t6 := (A7.out.box 0 _ _ rfl).cell 6 _ rfl
  have t7 := (A7.out.box 0 _ _ rfl).cell 7 _ rfl
  have t8 := (A7.out.box 0 _ _ rfl).cell 8 _ rfl
  have t9 := (A7.out.box 0 _ _ rfl).cell 9 _ rfl
  have t10 := (A7.out.box 0 _ _ rfl).cell 10 _ rfl
  have t11 := (A7.out.box 0 _ _ rfl).cell 11 _ rfl
  have t12 := (A7.out.box 0 _ _ rfl).cell 12 _ rfl
  have t13 := (A7.out.box 0 _ _ rfl).cell 13 _ rfl
  have t14 := (A7.out.box 0 _ _ rfl).cell 14 _ rfl
  have t15 := (A7.out.box 0 _ _ rfl).cell 15 _ rfl
  go_wp2_with fail
  have X1 : Hid (Bxs w [(w.heap.size, [.int .i32 x.g, .int .i64 x.n, .int .i32 x.lo, .int .i32 x.hi, .int .i32 (Z 0).p, .int .i32 (Z 0).v, .int .i32 x.r, .int .i64 x.m, .int .i32 x.P, .int .i32 x.I, .int .i32 x.D, .int .i32 x.a, .int .i32 x.b, .int .i32 x.o, .int .i32 x.l, .bool x.k]), (w.heap.size + 1, [.int .i32 0, .int .i32 0]), (w6.heap.size, [.int .i32 (Z 0).p, .int .i32 (Z 0).v]), (w6.heap.size + 1, [.int .i32 (Z 0).q, .int .i32 (Z 0).s, .int .i32 (Z 0).t, .int .i32 (Z 0).y])] ((w6.alloc (.cells #[.int .i32 (Z 0).p, .int .i32 (Z 0).v] 25)).alloc (.cells #[.int .i32 (Z 0).p, .int .i32 0, .int .i32 0, .int .i32 0] 51)).drew) := by
    have := (A7.out.push #[.int .i32 (Z 0).p, .int .i32 (Z 0).v] 25).push #[.int .i32 (Z 0).p, .int .i32 0, .int .i32 0, .int .i32 0] 51
    simp only [lay_size] at this
    have e := Z0.out
    rw [e.1, e.2.1, e.2.2.1, e.2.2.2]
    exact this.drew
  have X2 : Hid (Bxs w [(w.heap.size, [.int .i32 x.g, .int .i64 x.n, .int .i32 x.lo, .int .i32 x.hi, .int .i32 (Z 0).p, .int .i32 (Z 0).v, .int .i32 x.r, .int .i64 x.m, .int .i32 x.P, .int .i32 x.I, .int .i32 x.D, .int .i32 x.a, .int .i32 x.b, .int .i32 x.o, .int .i32 x.l, .bool x.k]), (w.heap.size + 1, [.int .i32 0, .int .i32 0]), (w6.heap.size + 1, [.int .i32 (Z 0).p, .int .i32 (Z 0).v]), (w6.heap.size, [.int .i32 (Z 0).q, .int .i32 (Z 0).s, .int .i32 (Z 0).t, .int .i32 (Z 0).y])] ((w6.alloc (.cells #[.int .i32 (Z 0).p, .int .i32 0, .int .i32 0, .int .i32 0] 51)).alloc (.cells #[.int .i32 (Z 0).p, .int .i32 (Z 0).v] 25)).drew) := by
    have := (A7.out.push #[.int .i32 (Z 0).p, .int .i32 0, .int .i32 0, .int .i32 0] 51).push #[.int .i32 (Z 0).p, .int .i32 (Z 0).v] 25
    simp only [lay_size] at this
    have e := Z0.out
    rw [e.1, e.2.1, e.2.2.1, e.2.2.2]
    exact (Bxs.swap (L := [_, _]) this).drew
  go_cut [9, 10] (fun s9 s10 wc => ∃ R D, s9 = .pointer (some ⟨R, 0, none⟩) ∧ s10 = .pointer (some ⟨D, 0, none⟩) ∧ Hid (Bxs w [(w.heap.size, [.int .i32 x.g, .int .i64 x.n, .int .i32 x.lo, .int .i32 x.hi, .int .i32 (Z 0).p, .int .i32 (Z 0).v, .int .i32 x.r, .int .i64 x.m, .int .i32 x.P, .int .i32 x.I, .int .i32 x.D, .int .i32 x.a, .int .i32 x.b, .int .i32 x.o, .int .i32 x.l, .bool x.k]), (w.heap.size + 1, [.int .i32 0, .int .i32 0]), (R, [.int .i32 (Z 0).p, .int .i32 (Z 0).v]), (D, [.int .i32 (Z 0).q, .int .i32 (Z 0).s, .int .i32 (Z 0).t, .int .i32 (Z 0).y])] wc))
  case first =>
    go_region_held3 (fun w' => w'.cell? ⟨w.heap.size, 4, none⟩ = some (.int .i32 (Z 0).p) ∧ w'.cell? ⟨w.heap.size, 5, none⟩ = some (.int .i32 (Z 0).v)) (go_keep) (fail)
    all_goals (try go_wp2)
    all_goals go_meet
    all_goals first | exact ⟨_, _, rfl, rfl, X1⟩ | exact ⟨_, _, rfl, rfl, X2⟩
  case rest =>
    obtain ⟨R, D, rfl, rfl, B3'⟩ := hcut
    have B3 : Hid (_) := B3'
    clear B3' X1 X2 A7 Z0
    clear tl t0 t1 t2 t3 t4 t5 t6 t7 t8 t9 t10 t11 t12 t13 t14 t15
    go_wp2_with fail
    go_loopg [45] (n + 1) (fun g s wr => ∃ j : Nat, s = .int .i64 j ∧ n - j < g ∧ j ≤ n ∧ Hid (∀ i, i < j → F i = false) ∧ Hid (Bxs w [(w.heap.size, [.int .i32 x.g, .int .i64 x.n, .int .i32 x.lo, .int .i32 x.hi, .int .i32 (Z 0).p, .int .i32 (Z 0).v, .int .i32 x.r, .int .i64 x.m, .int .i32 x.P, .int .i32 x.I, .int .i32 x.D, .int .i32 x.a, .int .i32 x.b, .int .i32 x.o, .int .i32 x.l, .bool x.k]), (w.heap.size + 1, [.int .i32 0, .int .i32 0]), (R, [.int .i32 (Z j).p, .int .i32 (Z j).v]), (D, [.int .i32 (Z j).q, .int .i32 (Z j).s, .int .i32 (Z j).t, .int .i32 (Z j).y])] wr))
    case atStart => exact ⟨0, rfl, by omega, by omega, fun i hi => absurd hi (by omega), B3⟩
    case round =>
      clear B3
      obtain ⟨j, rfl, hg, hj, HMM, HB⟩ := hrel
      by_cases hlt : j < n
      · have z1 : (j : Int) < (n : Int) := by omega
        have HQ : Hid (RowP wr a n l) := HR.out.step HB.out.bel
        obtain ⟨b, o, rfl, hb, hc⟩ := HQ.out (by omega)
        obtain ⟨x0, x1, x2⟩ := hc j hlt
        go_wp2_with fail
        obtain ⟨M, w4, hw4, hM, B4', lM⟩ := HB.out.new #[.int .i32 (l j).w, .int .i64 (l j).f, .int .i32 (l j).d] 40
        rw [hw4, hM]
        have B4 : Hid (_) := B4'
        clear B4' hw4 hM hc x0 x1 x2 hb HQ
        have cl := (B4.out.box 4 _ _ rfl).lt
        have c0 := (B4.out.box 4 _ _ rfl).cell 0 _ rfl
        have c1 := (B4.out.box 4 _ _ rfl).cell 1 _ rfl
        have c2 := (B4.out.box 4 _ _ rfl).cell 2 _ rfl
        go_wp2_with fail
        clear cl c0 c1 c2
        have HF : Hid (1 ≤ (l j).f ∧ (l j).f ≤ 200) := ⟨(HO.out j hlt).1, (HO.out j hlt).2.1⟩
        go_loopg [52] ((l j).f.toNat + 1) (fun g s wr => ∃ k : Nat, s = .int .i64 k ∧ (l j).f.toNat - k < g ∧ k ≤ (l j).f.toNat ∧ Hid (Bxs w [(w.heap.size, [.int .i32 x.g, .int .i64 x.n, .int .i32 x.lo, .int .i32 x.hi, .int .i32 (Z 0).p, .int .i32 (Z 0).v, .int .i32 x.r, .int .i64 x.m, .int .i32 x.P, .int .i32 x.I, .int .i32 x.D, .int .i32 x.a, .int .i32 x.b, .int .i32 x.o, .int .i32 x.l, .bool x.k]), (w.heap.size + 1, [.int .i32 0, .int .i32 0]), (R, [.int .i32 (Q j k).p, .int .i32 (Q j k).v]), (D, [.int .i32 (Q j k).q, .int .i32 (Q j k).s, .int .i32 (Q j k).t, .int .i32 (Q j k).y]), (M, [.int .i32 (l j).w, .int .i64 (l j).f, .int .i32 (l j).d])] wr))
        case atStart => exact ⟨0, rfl, by omega, by omega, by rw [Q0.out]; exact B4⟩
        case round =>
          clear B4
          obtain ⟨k, rfl, hg2, hk, HB2⟩ := hrel
          by_cases hlt2 : k < (l j).f.toNat
          · have z2 : (k : Int) < (l j).f := by omega
            have z3 : (k : Int) < 200 := by have := HF.out.2; omega
            have tl := (HB2.out.box 0 _ _ rfl).lt
            have t0 := (HB2.out.box 0 _ _ rfl).cell 0 _ rfl
            have t1 := (HB2.out.box 0 _ _ rfl).cell 1 _ rfl
            have t2 := (HB2.out.box 0 _ _ rfl).cell 2 _ rfl
            have t3 := (HB2.out.box 0 _ _ rfl).cell 3 _ rfl
            have t4 := (HB2.out.box 0 _ _ rfl).cell 4 _ rfl
            have t5 := (HB2.out.box 0 _ _ rfl).cell 5 _ rfl
            have t6 := (HB2.out.box 0 _ _ rfl).cell 6 _ rfl
            have t7 := (HB2.out.box 0 _ _ rfl).cell 7 _ rfl
            have t8 := (HB2.out.box 0 _ _ rfl).cell 8 _ rfl
            have t9 := (HB2.out.box 0 _ _ rfl).cell 9 _ rfl
            have t10 := (HB2.out.box 0 _ _ rfl).cell 10 _ rfl
            have t11 := (HB2.out.box 0 _ _ rfl).cell 11 _ rfl
            have t12 := (HB2.out.box 0 _ _ rfl).cell 12 _ rfl
            have t13 := (HB2.out.box 0 _ _ rfl).cell 13 _ rfl
            have t14 := (HB2.out.box 0 _ _ rfl).cell 14 _ rfl
            have t15 := (HB2.out.box 0 _ _ rfl).cell 15 _ rfl
            have rl := (HB2.out.box 2 _ _ rfl).lt
            have r0 := (HB2.out.box 2 _ _ rfl).cell 0 _ rfl
            have r1 := (HB2.out.box 2 _ _ rfl).cell 1 _ rfl
            have dl := (HB2.out.box 3 _ _ rfl).lt
            have d0 := (HB2.out.box 3 _ _ rfl).cell 0 _ rfl
            have d1 := (HB2.out.box 3 _ _ rfl).cell 1 _ rfl
            have d2 := (HB2.out.box 3 _ _ rfl).cell 2 _ rfl
            have d3 := (HB2.out.box 3 _ _ rfl).cell 3 _ rfl
            have cl := (HB2.out.box 4 _ _ rfl).lt
            have c0 := (HB2.out.box 4 _ _ rfl).cell 0 _ rfl
            have c1 := (HB2.out.box 4 _ _ rfl).cell 1 _ rfl
            have c2 := (HB2.out.box 4 _ _ rfl).cell 2 _ rfl
            go_wp2_with fail
            refine (CV.out j k _ hlt).mono ?_
            rintro e w5 ⟨rfl, hb⟩
            have B5 : Hid (_) := HB2.out.step hb
            clear hb HB2
            clear tl t0 t1 t2 t3 t4 t5 t6 t7 t8 t9 t10 t11 t12 t13 t14 t15
            clear rl r0 r1
            clear dl d0 d1 d2 d3
            clear cl c0 c1 c2
            have tl := (B5.out.box 0 _ _ rfl).lt
            have t0 := (B5.out.box 0 _ _ rfl).cell 0 _ rfl
            have t1 := (B5.out.box 0 _ _ rfl).cell 1 _ rfl
            have t2 := (B5.out.box 0 _ _ rfl).cell 2 _ rfl
            have t3 := (B5.out.box 0 _ _ rfl).cell 3 _ rfl
            have t4 := (B5.out.box 0 _ _ rfl).cell 4 _ rfl
            have t5 := (B5.out.box 0 _ _ rfl).cell 5 _ rfl
            have t6 := (B5.out.box 0 _ _ rfl).cell 6 _ rfl
            have t7 := (B5.out.box 0 _ _ rfl).cell 7 _ rfl
            have t8 := (B5.out.box 0 _ _ rfl).cell 8 _ rfl
            have t9 := (B5.out.box 0 _ _ rfl).cell 9 _ rfl
            have t10 := (B5.out.box 0 _ _ rfl).cell 10 _ rfl
            have t11 := (B5.out.box 0 _ _ rfl).cell 11 _ rfl
            have t12 := (B5.out.box 0 _ _ rfl).cell 12 _ rfl
            have t13 := (B5.out.box 0 _ _ rfl).cell 13 _ rfl
            have t14 := (B5.out.box 0 _ _ rfl).cell 14 _ rfl
            have t15 := (B5.out.box 0 _ _ rfl).cell 15 _ rfl
            have rl := (B5.out.box 2 _ _ rfl).lt
            have r0 := (B5.out.box 2 _ _ rfl).cell 0 _ rfl
            have r1 := (B5.out.box 2 _ _ rfl).cell 1 _ rfl
            have rf0 := (B5.out.box 2 _ _ rfl).froz 0 _ rfl
            have rf1 := (B5.out.box 2 _ _ rfl).froz 1 _ rfl
            have dl := (B5.out.box 3 _ _ rfl).lt
            have d0 := (B5.out.box 3 _ _ rfl).cell 0 _ rfl
            have d1 := (B5.out.box 3 _ _ rfl).cell 1 _ rfl
            have d2 := (B5.out.box 3 _ _ rfl).cell 2 _ rfl
            have d3 := (B5.out.box 3 _ _ rfl).cell 3 _ rfl
            have df0 := (B5.out.box 3 _ _ rfl).froz 0 _ rfl
            have df1 := (B5.out.box 3 _ _ rfl).froz 1 _ rfl
            have df2 := (B5.out.box 3 _ _ rfl).froz 2 _ rfl
            have df3 := (B5.out.box 3 _ _ rfl).froz 3 _ rfl
            have h30 : ¬ D = w.heap.size := B5.out.nd 3 0 _ _ _ _ rfl rfl (by omega)
            have g30 : ¬ w.heap.size = D := fun h => h30 h.symm
            have h32 : ¬ D = R := B5.out.nd 3 2 _ _ _ _ rfl rfl (by omega)
            have g32 : ¬ R = D := fun h => h32 h.symm
            rcases HV.out j k with ⟨k1, k2⟩ | ⟨k1, k2⟩
            · rcases HU.out j k with ⟨o1, o2⟩ | ⟨o1, o2⟩
              · have O2 : Hid (_) := o2
                have CR2 := CR.out j k
                rw [k2] at O2
                rw [k1] at t15
                clear k1 k2 o2
                go_wp2_with fail
                obtain ⟨w6, hw6, B6'⟩ := B5.out.to4 3 D (.int .i32 (Q j (k + 1)).q) (.int .i32 (Q j (k + 1)).s) (.int .i32 (Q j (k + 1)).t) (.int .i32 (Q j (k + 1)).y) rfl
                rw [hw6]
                have B6 : Hid (_) := B6'
                clear B6' hw6 B5 rf0 rf1 df0 df1 df2 df3
                clear tl t0 t1 t2 t3 t4 t5 t6 t7 t8 t9 t10 t11 t12 t13 t14 t15
                clear rl r0 r1
                clear dl d0 d1 d2 d3
                refine (O2.out _).mono ?_
                rintro e w7 ⟨rfl, rfl⟩
                have tl := (B6.out.box 0 _ _ rfl).lt
                have t0 := (B6.out.box 0 _ _ rfl).cell 0 _ rfl
                have t1 := (B6.out.box 0 _ _ rfl).cell 1 _ rfl
                have t2 := (B6.out.box 0 _ _ rfl).cell 2 _ rfl
                have t3 := (B6.out.box 0 _ _ rfl).cell 3 _ rfl
                have t4 := (B6.out.box 0 _ _ rfl).cell 4 _ rfl
                have t5 := (B6.out.box 0 _ _ rfl).cell 5 _ rfl
                have t6 := (B6.out.box 0 _ _ rfl).cell 6 _ rfl
                have t7 := (B6.out.box 0 _ _ rfl).cell 7 _ rfl
                have t8 := (B6.out.box 0 _ _ rfl).cell 8 _ rfl
                have t9 := (B6.out.box 0 _ _ rfl).cell 9 _ rfl
                have t10 := (B6.out.box 0 _ _ rfl).cell 10 _ rfl
                have t11 := (B6.out.box 0 _ _ rfl).cell 11 _ rfl
                have t12 := (B6.out.box 0 _ _ rfl).cell 12 _ rfl
                have t13 := (B6.out.box 0 _ _ rfl).cell 13 _ rfl
                have t14 := (B6.out.box 0 _ _ rfl).cell 14 _ rfl
                have t15 := (B6.out.box 0 _ _ rfl).cell 15 _ rfl
                have rl := (B6.out.box 2 _ _ rfl).lt
                have r0 := (B6.out.box 2 _ _ rfl).cell 0 _ rfl
                have r1 := (B6.out.box 2 _ _ rfl).cell 1 _ rfl
                go_wp2_with fail
                refine (CR2 _ hlt).mono ?_
                rintro e w8 ⟨rfl, hb⟩
                have B8 : Hid (_) := B6.out.step hb
                clear hb B6 CR2 O2 o1
                clear tl t0 t1 t2 t3 t4 t5 t6 t7 t8 t9 t10 t11 t12 t13 t14 t15
                clear rl r0 r1
                have rl := (B8.out.box 2 _ _ rfl).lt
                have r0 := (B8.out.box 2 _ _ rfl).cell 0 _ rfl
                have r1 := (B8.out.box 2 _ _ rfl).cell 1 _ rfl
                have rf0 := (B8.out.box 2 _ _ rfl).froz 0 _ rfl
                have rf1 := (B8.out.box 2 _ _ rfl).froz 1 _ rfl
                go_wp2_with fail
                obtain ⟨w9, hw9, B9'⟩ := B8.out.to2 2 R (.int .i32 (Q j (k + 1)).p) (.int .i32 (Q j (k + 1)).v) rfl
                rw [hw9]
                have B9 : Hid (_) := B9'
                clear B9' hw9 B8 h30 g30 h32 g32
                clear rl r0 r1
                clear rf0 rf1
                go_roundg ((l j).f.toNat - (k + 1) + 1)
                case measure => omega
                case rel => exact ⟨k + 1, by go_num, by omega, by omega, B9⟩
              · have CR2 := CR.out j k
                rw [o2] at CR2
                rw [k1] at t15
                clear k1 k2 o2
                go_wp2_with fail
                obtain ⟨w6, hw6, B6'⟩ := B5.out.to4 3 D (.int .i32 (Q j (k + 1)).q) (.int .i32 (Q j (k + 1)).s) (.int .i32 (Q j (k + 1)).t) (.int .i32 (Q j (k + 1)).y) rfl
                rw [hw6]
                have B6 : Hid (_) := B6'
                clear B6' hw6 B5 rf0 rf1 df0 df1 df2 df3
                clear tl t0 t1 t2 t3 t4 t5 t6 t7 t8 t9 t10 t11 t12 t13 t14 t15
                clear rl r0 r1
                clear dl d0 d1 d2 d3
                refine (CR2 _ hlt).mono ?_
                rintro e w8 ⟨rfl, hb⟩
                have B8 : Hid (_) := B6.out.step hb
                clear hb B6 CR2 o1
                have rl := (B8.out.box 2 _ _ rfl).lt
                have r0 := (B8.out.box 2 _ _ rfl).cell 0 _ rfl
                have r1 := (B8.out.box 2 _ _ rfl).cell 1 _ rfl
                have rf0 := (B8.out.box 2 _ _ rfl).froz 0 _ rfl
                have rf1 := (B8.out.box 2 _ _ rfl).froz 1 _ rfl
                go_wp2_with fail
                obtain ⟨w9, hw9, B9'⟩ := B8.out.to2 2 R (.int .i32 (Q j (k + 1)).p) (.int .i32 (Q j (k + 1)).v) rfl
                rw [hw9]
                have B9 : Hid (_) := B9'
                clear B9' hw9 B8 h30 g30 h32 g32
                clear rl r0 r1
                clear rf0 rf1
                go_roundg ((l j).f.toNat - (k + 1) + 1)
                case measure => omega
                case rel => exact ⟨k + 1, by go_num, by omega, by omega, B9⟩
            · rcases HU.out j k with ⟨o1, o2⟩ | ⟨o1, o2⟩
              · have O2 : Hid (_) := o2
                have CR2 := CR.out j k
                rw [k2] at O2
                rw [k1] at t15
                clear k1 k2 o2
                go_wp2_with fail
                obtain ⟨w6, hw6, B6'⟩ := B5.out.to4 3 D (.int .i32 (Q j (k + 1)).q) (.int .i32 (Q j (k + 1)).s) (.int .i32 (Q j (k + 1)).t) (.int .i32 (Q j (k + 1)).y) rfl
                rw [hw6]
                have B6 : Hid (_) := B6'
                clear B6' hw6 B5 rf0 rf1 df0 df1 df2 df3
                clear tl t0 t1 t2 t3 t4 t5 t6 t7 t8 t9 t10 t11 t12 t13 t14 t15
                clear rl r0 r1
                clear dl d0 d1 d2 d3
                refine (O2.out _).mono ?_
                rintro e w7 ⟨rfl, rfl⟩
                have tl := (B6.out.box 0 _ _ rfl).lt
                have t0 := (B6.out.box 0 _ _ rfl).cell 0 _ rfl
                have t1 := (B6.out.box 0 _ _ rfl).cell 1 _ rfl
                have t2 := (B6.out.box 0 _ _ rfl).cell 2 _ rfl
                have t3 := (B6.out.box 0 _ _ rfl).cell 3 _ rfl
                have t4 := (B6.out.box 0 _ _ rfl).cell 4 _ rfl
                have t5 := (B6.out.box 0 _ _ rfl).cell 5 _ rfl
                have t6 := (B6.out.box 0 _ _ rfl).cell 6 _ rfl
                have t7 := (B6.out.box 0 _ _ rfl).cell 7 _ rfl
                have t8 := (B6.out.box 0 _ _ rfl).cell 8 _ rfl
                have t9 := (B6.out.box 0 _ _ rfl).cell 9 _ rfl
                have t10 := (B6.out.box 0 _ _ rfl).cell 10 _ rfl
                have t11 := (B6.out.box 0 _ _ rfl).cell 11 _ rfl
                have t12 := (B6.out.box 0 _ _ rfl).cell 12 _ rfl
                have t13 := (B6.out.box 0 _ _ rfl).cell 13 _ rfl
                have t14 := (B6.out.box 0 _ _ rfl).cell 14 _ rfl
                have t15 := (B6.out.box 0 _ _ rfl).cell 15 _ rfl
                have rl := (B6.out.box 2 _ _ rfl).lt
                have r0 := (B6.out.box 2 _ _ rfl).cell 0 _ rfl
                have r1 := (B6.out.box 2 _ _ rfl).cell 1 _ rfl
                go_wp2_with fail
                refine (CR2 _ hlt).mono ?_
                rintro e w8 ⟨rfl, hb⟩
                have B8 : Hid (_) := B6.out.step hb
                clear hb B6 CR2 O2 o1
                clear tl t0 t1 t2 t3 t4 t5 t6 t7 t8 t9 t10 t11 t12 t13 t14 t15
                clear rl r0 r1
                have rl := (B8.out.box 2 _ _ rfl).lt
                have r0 := (B8.out.box 2 _ _ rfl).cell 0 _ rfl
                have r1 := (B8.out.box 2 _ _ rfl).cell 1 _ rfl
                have rf0 := (B8.out.box 2 _ _ rfl).froz 0 _ rfl
                have rf1 := (B8.out.box 2 _ _ rfl).froz 1 _ rfl
                go_wp2_with fail
                obtain ⟨w9, hw9, B9'⟩ := B8.out.to2 2 R (.int .i32 (Q j (k + 1)).p) (.int .i32 (Q j (k + 1)).v) rfl
                rw [hw9]
                have B9 : Hid (_) := B9'
                clear B9' hw9 B8 h30 g30 h32 g32
                clear rl r0 r1
                clear rf0 rf1
                go_roundg ((l j).f.toNat - (k + 1) + 1)
                case measure => omega
                case rel => exact ⟨k + 1, by go_num, by omega, by omega, B9⟩
              · have CR2 := CR.out j k
                rw [o2] at CR2
                rw [k1] at t15
                clear k1 k2 o2
                go_wp2_with fail
                obtain ⟨w6, hw6, B6'⟩ := B5.out.to4 3 D (.int .i32 (Q j (k + 1)).q) (.int .i32 (Q j (k + 1)).s) (.int .i32 (Q j (k + 1)).t) (.int .i32 (Q j (k + 1)).y) rfl
                rw [hw6]
                have B6 : Hid (_) := B6'
                clear B6' hw6 B5 rf0 rf1 df0 df1 df2 df3
                clear tl t0 t1 t2 t3 t4 t5 t6 t7 t8 t9 t10 t11 t12 t13 t14 t15
                clear rl r0 r1
                clear dl d0 d1 d2 d3
                refine (CR2 _ hlt).mono ?_
                rintro e w8 ⟨rfl, hb⟩
                have B8 : Hid (_) := B6.out.step hb
                clear hb B6 CR2 o1
                have rl := (B8.out.box 2 _ _ rfl).lt
                have r0 := (B8.out.box 2 _ _ rfl).cell 0 _ rfl
                have r1 := (B8.out.box 2 _ _ rfl).cell 1 _ rfl
                have rf0 := (B8.out.box 2 _ _ rfl).froz 0 _ rfl
                have rf1 := (B8.out.box 2 _ _ rfl).froz 1 _ rfl
                go_wp2_with fail
                obtain ⟨w9, hw9, B9'⟩ := B8.out.to2 2 R (.int .i32 (Q j (k + 1)).p) (.int .i32 (Q j (k + 1)).v) rfl
                rw [hw9]
                have B9 : Hid (_) := B9'
                clear B9' hw9 B8 h30 g30 h32 g32
                clear rl r0 r1
                clear rf0 rf1
                go_roundg ((l j).f.toNat - (k + 1) + 1)
                case measure => omega
                case rel => exact ⟨k + 1, by go_num, by omega, by omega, B9⟩
          · have z2 : ¬ (k : Int) < (l j).f := by omega
            obtain rfl : k = (l j).f.toNat := by omega
            have HB3 : Hid (Bxs w [(w.heap.size, [.int .i32 x.g, .int .i64 x.n, .int .i32 x.lo, .int .i32 x.hi, .int .i32 (Z 0).p, .int .i32 (Z 0).v, .int .i32 x.r, .int .i64 x.m, .int .i32 x.P, .int .i32 x.I, .int .i32 x.D, .int .i32 x.a, .int .i32 x.b, .int .i32 x.o, .int .i32 x.l, .bool x.k]), (w.heap.size + 1, [.int .i32 0, .int .i32 0]), (R, [.int .i32 (Z (j + 1)).p, .int .i32 (Z (j + 1)).v]), (D, [.int .i32 (Z (j + 1)).q, .int .i32 (Z (j + 1)).s, .int .i32 (Z (j + 1)).t, .int .i32 (Z (j + 1)).y]), (M, [.int .i32 (l j).w, .int .i64 (l j).f, .int .i32 (l j).d])] wr) := by
              have := HB2.out
              rw [Q1.out j] at this
              exact this
            clear HB2
            obtain ⟨d1, d2⟩ := HD.out j
            have C9 : Hid (∀ W, Calls Try.prog 24 #[.int .i32 (Z (j + 1)).p, .int .i32 (l j).w] W fun e w' => e = .returned (.int .i64 (MX j)) ∧ w' = W) := fun W => CI.out j W hlt
            have rl := (HB3.out.box 2 _ _ rfl).lt
            have r0 := (HB3.out.box 2 _ _ rfl).cell 0 _ rfl
            have r1 := (HB3.out.box 2 _ _ rfl).cell 1 _ rfl
            have cl := (HB3.out.box 4 _ _ rfl).lt
            have c0 := (HB3.out.box 4 _ _ rfl).cell 0 _ rfl
            have c1 := (HB3.out.box 4 _ _ rfl).cell 1 _ rfl
            have c2 := (HB3.out.box 4 _ _ rfl).cell 2 _ rfl
            go_wp2_with fail
            go_quiet (first | (go_at_call 24; exact Calls.quiet_of_same (C9.out _)))
            have B5 : Hid (Bxs w [(w.heap.size, [.int .i32 x.g, .int .i64 x.n, .int .i32 x.lo, .int .i32 x.hi, .int .i32 (Z 0).p, .int .i32 (Z 0).v, .int .i32 x.r, .int .i64 x.m, .int .i32 x.P, .int .i32 x.I, .int .i32 x.D, .int .i32 x.a, .int .i32 x.b, .int .i32 x.o, .int .i32 x.l, .bool x.k]), (w.heap.size + 1, [.int .i32 0, .int .i32 0]), (R, [.int .i32 (Z (j + 1)).p, .int .i32 (Z (j + 1)).v]), (D, [.int .i32 (Z (j + 1)).q, .int .i32 (Z (j + 1)).s, .int .i32 (Z (j + 1)).t, .int .i32 (Z (j + 1)).y]), (M, [.int .i32 (l j).w, .int .i64 (l j).f, .int .i32 (l j).d])] (wr.drewN nq)) := HB3.out.step (drewN_step _ _)
            clear HB3 C9
            clear rl r0 r1
            clear cl c0 c1 c2
            generalize wr.drewN nq = W5 at *
            by_cases hF : (l j).d < MX j
            · have hF2 : F j = true := by rw [HM.out j]; exact decide_eq_true hF
              have K : Hid (fiB F n = j ∧ min (fiB F n + 1) n = j + 1) := fiB_min_at HMM.out hF2 hlt
              clear hF2
              have al := (B5.out.box 1 _ _ rfl).lt
              have a0 := (B5.out.box 1 _ _ rfl).cell 0 _ rfl
              have a1 := (B5.out.box 1 _ _ rfl).cell 1 _ rfl
              have af0 := (B5.out.box 1 _ _ rfl).froz 0 _ rfl
              have af1 := (B5.out.box 1 _ _ rfl).froz 1 _ rfl
              have rl := (B5.out.box 2 _ _ rfl).lt
              have r0 := (B5.out.box 2 _ _ rfl).cell 0 _ rfl
              have r1 := (B5.out.box 2 _ _ rfl).cell 1 _ rfl
              go_wp2_with fail
              go_region
              all_goals (try go_wp2_with fail)
              obtain ⟨w7, hw7, B7⟩ := B5.out.to2 1 _ (.int .i32 (Z (j + 1)).p) (.int .i32 (Z (j + 1)).v) rfl
              rw [hw7]
              have B9 := B7.drew
              generalize w7.drew = w9 at *
              have yl := (B9.box 1 _ _ rfl).lt
              have y0 := (B9.box 1 _ _ rfl).cell 0 _ rfl
              have y1 := (B9.box 1 _ _ rfl).cell 1 _ rfl
              refine bodyPost_ret (by simp [results, Try.results9, go_sem, y0, y1]; try rfl) rfl ?_
              exact ⟨by rw [K.out.2, K.out.1], B9.bel⟩
            · have hF2 : F j = false := by rw [HM.out j]; exact decide_eq_false hF
              have HM2 : Hid (∀ i, i < j + 1 → F i = false) := fun i hi => by
                by_cases e : i < j
                · exact HMM.out i e
                · obtain rfl : i = j := by omega
                  exact hF2
              clear hF2
              have z4 : (j : Int) < 16 := by have := HN.out; omega
              go_wp2_with fail
              go_roundg (n - (j + 1) + 1)
              case measure => omega
              case rel => exact ⟨j + 1, by go_num, by omega, by omega, HM2, Bxs.front (L := [_, _, _, _]) B5.out⟩
      · have z1 : ¬ (j : Int) < (n : Int) := by omega
        obtain rfl : j = n := by omega
        have K : Hid (fiB F j = j ∧ min (fiB F j + 1) j = j) := fiB_min_none HMM.out
        have al := (HB.out.box 1 _ _ rfl).lt
        have a0 := (HB.out.box 1 _ _ rfl).cell 0 _ rfl
        have a1 := (HB.out.box 1 _ _ rfl).cell 1 _ rfl
        have af0 := (HB.out.box 1 _ _ rfl).froz 0 _ rfl
        have af1 := (HB.out.box 1 _ _ rfl).froz 1 _ rfl
        have rl := (HB.out.box 2 _ _ rfl).lt
        have r0 := (HB.out.box 2 _ _ rfl).cell 0 _ rfl
        have r1 := (HB.out.box 2 _ _ rfl).cell 1 _ rfl
        go_wp2_with fail
        go_region
        all_goals (try go_wp2_with fail)
        obtain ⟨w7, hw7, B7⟩ := HB.out.to2 1 _ (.int .i32 (Z j).p) (.int .i32 (Z j).v) rfl
        rw [hw7]
        have B9 := B7.drew
        generalize w7.drew = w9 at *
        have yl := (B9.box 1 _ _ rfl).lt
        have y0 := (B9.box 1 _ _ rfl).cell 0 _ rfl
        have y1 := (B9.box 1 _ _ rfl).cell 1 _ rfl
        refine bodyPost_ret (by simp [results, Try.results9, go_sem, y0, y1]; try rfl) rfl ?_
        exact ⟨by rw [K.out.2, K.out.1], B9.bel⟩

end Go.Proofs.Ytihcioghbidblaa
