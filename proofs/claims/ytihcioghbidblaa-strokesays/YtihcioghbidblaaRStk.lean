/-
  Contract of the document's own Test (package steadref): the same as package stroke's.
-/
import Derived.Test.YtihcioghbidblaaStkTst
import Derived.Test.YtihcioghbidblaaRRam
import Derived.Test.YtihcioghbidblaaRSrv
import Derived.Deep.RegionHeld3
namespace Go.Proofs.Ytihcioghbidblaa
open Go.RowKit
set_option linter.unusedVariables false

set_option maxHeartbeats 1000000 in
theorem rapartP_any (a b : Int) (ha : I32 a) (hb : I32 b) (w : World) : Calls Try.prog 24 #[.int .i32 a, .int .i32 b] w fun e w' => e = .returned (.int .i64 (max (a - b) (-(a - b)))) ∧ w' = w := by
  obtain ⟨M, hM⟩ : ∃ M, max (a - b) (-(a - b)) = M := ⟨_, rfl⟩
  have MX : ∀ (ts : Array TypeId) (t : TypeId) W, (Builtin.max_ ts t #[.int .i64 (a - b), .int .i64 (-(a - b))]).run Try.prog W = .ok (.int .i64 M) W := fun ts t W => by
    rw [run_max_int2 W ts t .i64 .i64 (a - b) (-(a - b))]
    by_cases e : a - b < -(a - b)
    · rw [if_pos e, show M = -(a - b) from by omega]
    · rw [if_neg e, show M = a - b from by omega]
  rw [hM]
  clear hM
  obtain ⟨a1, a2⟩ := ha
  obtain ⟨b1, b2⟩ := hb
  go_enter Try.func24, Try.ntmps24
  go_wp2_with fail
  go_ret
  exact ⟨rfl, rfl⟩

/-- the two last boxes the other way round -/
theorem Bxs.swap {w : World} {L : List (Nat × List Value)} {a b : Nat × List Value} {W : World} (h : Bxs w (L ++ [a, b]) W) : Bxs w (L ++ [b, a]) W := by
  have key : ∀ (i : Nat) (q : Nat × List Value), (L ++ [b, a])[i]? = some q → ∃ j, (L ++ [a, b])[j]? = some q ∧ j = (if i < L.length then i else if i = L.length then L.length + 1 else if i = L.length + 1 then L.length else i) := by
    intro i q hi
    by_cases e : i < L.length
    · rw [List.getElem?_append_left e] at hi
      exact ⟨i, by rw [List.getElem?_append_left e]; exact hi, by rw [if_pos e]⟩
    · rw [List.getElem?_append_right (by omega)] at hi
      have hl := (List.getElem?_eq_some_iff.1 hi).1
      simp at hl
      rcases (show i = L.length ∨ i = L.length + 1 by omega) with rfl | rfl
      · refine ⟨L.length + 1, ?_, by simp⟩
        rw [List.getElem?_append_right (by omega)]
        simp at hi ⊢
        exact hi
      · refine ⟨L.length, ?_, by simp⟩
        rw [List.getElem?_append_right (by omega)]
        simp at hi ⊢
        exact hi
  refine ⟨h.bel, fun i c vs hi => ?_, fun i c vs hi => ?_, fun i j c d vs us hi hj hij => ?_⟩
  · obtain ⟨j, hj, _⟩ := key i _ hi
    exact h.box j c vs hj
  · obtain ⟨j, hj, _⟩ := key i _ hi
    exact h.own j c vs hj
  · obtain ⟨i2, hi2, e1⟩ := key i _ hi
    obtain ⟨j2, hj2, e2⟩ := key j _ hj
    refine h.nd i2 j2 c d vs us hi2 hj2 ?_
    rw [e1, e2]
    repeat' split
    all_goals omega

set_option maxHeartbeats 8000000 in
set_option maxRecDepth 100000 in
theorem rtest_bad (x : Tri) (p v : Int) (a : Option Addr) (n c : Nat) (l : Nat → Pt) (w : World) (h : RowP w a n l) (E1 E2 E3 E : Int)
    (CP : Hid (∀ W, RowP W a n l → Calls Try.prog 6 #[.slice a n c] W fun e w' => e = .returned (.int .i64 E1) ∧ Below W.heap.size W w'))
    (CB : Hid (∀ W, Calls Try.prog 19 #[.agg #[.int .i32 x.g, .int .i64 x.n, .int .i32 x.lo, .int .i32 x.hi], .agg #[.int .i32 p, .int .i32 v]] W fun e w' => e = .returned (.int .i64 E2) ∧ Below W.heap.size W w'))
    (CS : Hid (∀ W, Calls Try.prog 20 #[.agg #[.int .i32 x.r, .int .i64 x.m, .int .i32 x.P, .int .i32 x.I, .int .i32 x.D, .int .i32 x.a, .int .i32 x.b], .agg #[.int .i32 0, .int .i32 0, .int .i32 0, .int .i32 0]] W fun e w' => e = .returned (.int .i64 E3) ∧ Below W.heap.size W w'))
    (hE : (E1 ≠ 0 ∧ E = E1) ∨ (E1 = 0 ∧ E2 ≠ 0 ∧ E = E2) ∨ (E1 = 0 ∧ E2 = 0 ∧ E3 ≠ 0 ∧ E = E3)) :
    Calls Try.prog 9 #[.agg #[.int .i32 x.g, .int .i64 x.n, .int .i32 x.lo, .int .i32 x.hi, .int .i32 p, .int .i32 v, .int .i32 x.r, .int .i64 x.m, .int .i32 x.P, .int .i32 x.I, .int .i32 x.D, .int .i32 x.a, .int .i32 x.b, .int .i32 x.o, .int .i32 x.l, .bool x.k], .slice a n c] w fun e w' => e = .returned (.tuple #[.int .i64 0, .agg #[.int .i32 0, .int .i32 0], .int .i64 E]) ∧ Below w.heap.size w w' := by
  have B0 : Hid (_) := bxsII w #[.int .i32 x.g, .int .i64 x.n, .int .i32 x.lo, .int .i32 x.hi, .int .i32 p, .int .i32 v, .int .i32 x.r, .int .i64 x.m, .int .i32 x.P, .int .i32 x.I, .int .i32 x.D, .int .i32 x.a, .int .i32 x.b, .int .i32 x.o, .int .i32 x.l, .bool x.k] #[.int .i32 0, .int .i32 0] 31 25
  have HR : Hid (RowP w a n l) := h
  have HE : Hid ((E1 ≠ 0 ∧ E = E1) ∨ (E1 = 0 ∧ E2 ≠ 0 ∧ E = E2) ∨ (E1 = 0 ∧ E2 = 0 ∧ E3 ≠ 0 ∧ E = E3)) := hE
  clear h hE
  go_enter Try.func9, Try.ntmps9
  go_upto_region 1 with (fail)
  obtain ⟨w0, hw0⟩ : ∃ w0, (w.alloc (.cells #[.int .i32 x.g, .int .i64 x.n, .int .i32 x.lo, .int .i32 x.hi, .int .i32 p, .int .i32 v, .int .i32 x.r, .int .i64 x.m, .int .i32 x.P, .int .i32 x.I, .int .i32 x.D, .int .i32 x.a, .int .i32 x.b, .int .i32 x.o, .int .i32 x.l, .bool x.k] 31)).alloc (.cells #[.int .i32 0, .int .i32 0] 25) = w0 := ⟨_, rfl⟩
  have A0 : Hid (Bxs w [(w.heap.size, [.int .i32 x.g, .int .i64 x.n, .int .i32 x.lo, .int .i32 x.hi, .int .i32 p, .int .i32 v, .int .i32 x.r, .int .i64 x.m, .int .i32 x.P, .int .i32 x.I, .int .i32 x.D, .int .i32 x.a, .int .i32 x.b, .int .i32 x.o, .int .i32 x.l, .bool x.k]), (w.heap.size + 1, [.int .i32 0, .int .i32 0])] w0) := by rw [← hw0]; exact B0.out
  rw [hw0]
  clear hw0 B0
  have tl := (A0.out.box 0 _ _ rfl).lt
  have t0 := (A0.out.box 0 _ _ rfl).cell 0 _ rfl
  have t1 := (A0.out.box 0 _ _ rfl).cell 1 _ rfl
  have t2 := (A0.out.box 0 _ _ rfl).cell 2 _ rfl
  have t3 := (A0.out.box 0 _ _ rfl).cell 3 _ rfl
  have t4 := (A0.out.box 0 _ _ rfl).cell 4 _ rfl
  have t5 := (A0.out.box 0 _ _ rfl).cell 5 _ rfl
  have t6 := (A0.out.box 0 _ _ rfl).cell 6 _ rfl
  have t7 := (A0.out.box 0 _ _ rfl).cell 7 _ rfl
  have t8 := (A0.out.box 0 _ _ rfl).cell 8 _ rfl
  have t9 := (A0.out.box 0 _ _ rfl).cell 9 _ rfl
  have t10 := (A0.out.box 0 _ _ rfl).cell 10 _ rfl
  have t11 := (A0.out.box 0 _ _ rfl).cell 11 _ rfl
  have t12 := (A0.out.box 0 _ _ rfl).cell 12 _ rfl
  have t13 := (A0.out.box 0 _ _ rfl).cell 13 _ rfl
  have t14 := (A0.out.box 0 _ _ rfl).cell 14 _ rfl
  have t15 := (A0.out.box 0 _ _ rfl).cell 15 _ rfl
  go_region_held3 (fun w' => w'.cell? ⟨w.heap.size, 0, none⟩ = some (.int .i32 x.g) ∧ w'.cell? ⟨w.heap.size, 1, none⟩ = some (.int .i64 x.n) ∧ w'.cell? ⟨w.heap.size, 2, none⟩ = some (.int .i32 x.lo) ∧ w'.cell? ⟨w.heap.size, 3, none⟩ = some (.int .i32 x.hi) ∧ w'.cell? ⟨w.heap.size, 4, none⟩ = some (.int .i32 p) ∧ w'.cell? ⟨w.heap.size, 5, none⟩ = some (.int .i32 v) ∧ w'.cell? ⟨w.heap.size, 6, none⟩ = some (.int .i32 x.r) ∧ w'.cell? ⟨w.heap.size, 7, none⟩ = some (.int .i64 x.m) ∧ w'.cell? ⟨w.heap.size, 8, none⟩ = some (.int .i32 x.P) ∧ w'.cell? ⟨w.heap.size, 9, none⟩ = some (.int .i32 x.I) ∧ w'.cell? ⟨w.heap.size, 10, none⟩ = some (.int .i32 x.D) ∧ w'.cell? ⟨w.heap.size, 11, none⟩ = some (.int .i32 x.a) ∧ w'.cell? ⟨w.heap.size, 12, none⟩ = some (.int .i32 x.b)) (go_keep) (first | (go_at_call 6; refine (CP.out _ (HR.out.step A0.out.drew.bel)).mono ?_; rintro r w3 ⟨rfl, hb⟩; have A3 : Hid (Bxs w [(w.heap.size, [.int .i32 x.g, .int .i64 x.n, .int .i32 x.lo, .int .i32 x.hi, .int .i32 p, .int .i32 v, .int .i32 x.r, .int .i64 x.m, .int .i32 x.P, .int .i32 x.I, .int .i32 x.D, .int .i32 x.a, .int .i32 x.b, .int .i32 x.o, .int .i32 x.l, .bool x.k]), (w.heap.size + 1, [.int .i32 0, .int .i32 0])] w3) := A0.out.drew.step hb; clear hb; have pp0 := (A3.out.box 0 _ _ rfl).cell 0 _ rfl; have pp1 := (A3.out.box 0 _ _ rfl).cell 1 _ rfl; have pp2 := (A3.out.box 0 _ _ rfl).cell 2 _ rfl; have pp3 := (A3.out.box 0 _ _ rfl).cell 3 _ rfl; have pp4 := (A3.out.box 0 _ _ rfl).cell 4 _ rfl; have pp5 := (A3.out.box 0 _ _ rfl).cell 5 _ rfl; have pp6 := (A3.out.box 0 _ _ rfl).cell 6 _ rfl; have pp7 := (A3.out.box 0 _ _ rfl).cell 7 _ rfl; have pp8 := (A3.out.box 0 _ _ rfl).cell 8 _ rfl; have pp9 := (A3.out.box 0 _ _ rfl).cell 9 _ rfl; have pp10 := (A3.out.box 0 _ _ rfl).cell 10 _ rfl; have pp11 := (A3.out.box 0 _ _ rfl).cell 11 _ rfl; have pp12 := (A3.out.box 0 _ _ rfl).cell 12 _ rfl; have ppl := (A3.out.box 0 _ _ rfl).lt) | (go_at_call 19; refine (CB.out _).mono ?_; rintro r w4 ⟨rfl, hb⟩; have A4 : Hid (Bxs w [(w.heap.size, [.int .i32 x.g, .int .i64 x.n, .int .i32 x.lo, .int .i32 x.hi, .int .i32 p, .int .i32 v, .int .i32 x.r, .int .i64 x.m, .int .i32 x.P, .int .i32 x.I, .int .i32 x.D, .int .i32 x.a, .int .i32 x.b, .int .i32 x.o, .int .i32 x.l, .bool x.k]), (w.heap.size + 1, [.int .i32 0, .int .i32 0])] w4) := A3.out.step hb; clear hb; have qq0 := (A4.out.box 0 _ _ rfl).cell 0 _ rfl; have qq1 := (A4.out.box 0 _ _ rfl).cell 1 _ rfl; have qq2 := (A4.out.box 0 _ _ rfl).cell 2 _ rfl; have qq3 := (A4.out.box 0 _ _ rfl).cell 3 _ rfl; have qq4 := (A4.out.box 0 _ _ rfl).cell 4 _ rfl; have qq5 := (A4.out.box 0 _ _ rfl).cell 5 _ rfl; have qq6 := (A4.out.box 0 _ _ rfl).cell 6 _ rfl; have qq7 := (A4.out.box 0 _ _ rfl).cell 7 _ rfl; have qq8 := (A4.out.box 0 _ _ rfl).cell 8 _ rfl; have qq9 := (A4.out.box 0 _ _ rfl).cell 9 _ rfl; have qq10 := (A4.out.box 0 _ _ rfl).cell 10 _ rfl; have qq11 := (A4.out.box 0 _ _ rfl).cell 11 _ rfl; have qq12 := (A4.out.box 0 _ _ rfl).cell 12 _ rfl; have qql := (A4.out.box 0 _ _ rfl).lt) | (go_at_call 20; refine (CS.out _).mono ?_; rintro r w5 ⟨rfl, hb⟩; have A5 : Hid (Bxs w [(w.heap.size, [.int .i32 x.g, .int .i64 x.n, .int .i32 x.lo, .int .i32 x.hi, .int .i32 p, .int .i32 v, .int .i32 x.r, .int .i64 x.m, .int .i32 x.P, .int .i32 x.I, .int .i32 x.D, .int .i32 x.a, .int .i32 x.b, .int .i32 x.o, .int .i32 x.l, .bool x.k]), (w.heap.size + 1, [.int .i32 0, .int .i32 0])] w5) := A4.out.step hb; clear hb; have rr0 := (A5.out.box 0 _ _ rfl).cell 0 _ rfl; have rr1 := (A5.out.box 0 _ _ rfl).cell 1 _ rfl; have rr2 := (A5.out.box 0 _ _ rfl).cell 2 _ rfl; have rr3 := (A5.out.box 0 _ _ rfl).cell 3 _ rfl; have rr4 := (A5.out.box 0 _ _ rfl).cell 4 _ rfl; have rr5 := (A5.out.box 0 _ _ rfl).cell 5 _ rfl; have rr6 := (A5.out.box 0 _ _ rfl).cell 6 _ rfl; have rr7 := (A5.out.box 0 _ _ rfl).cell 7 _ rfl; have rr8 := (A5.out.box 0 _ _ rfl).cell 8 _ rfl; have rr9 := (A5.out.box 0 _ _ rfl).cell 9 _ rfl; have rr10 := (A5.out.box 0 _ _ rfl).cell 10 _ rfl; have rr11 := (A5.out.box 0 _ _ rfl).cell 11 _ rfl; have rr12 := (A5.out.box 0 _ _ rfl).cell 12 _ rfl; have rrl := (A5.out.box 0 _ _ rfl).lt))
  clear A0 A3 A4 t0 t1 t2 t3 t4 t5 t6 t7 t8 t9 t10 t11 t12 t13 t14 t15 tl pp0 pp1 pp2 pp3 pp4 pp5 pp6 pp7 pp8 pp9 pp10 pp11 pp12 ppl qq0 qq1 qq2 qq3 qq4 qq5 qq6 qq7 qq8 qq9 qq10 qq11 qq12 qql rr0 rr1 rr2 rr3 rr4 rr5 rr6 rr7 rr8 rr9 rr10 rr11 rr12 rrl
  obtain ⟨S, w6, hw6, hS, A6', lS⟩ := A5.out.new #[.int .i64 E1, .int .i64 E2, .int .i64 E3] 33
  rw [hw6, hS]
  have A6 : Hid (_) := A6'
  clear A6' hw6 hS A5
  have sl := (A6.out.box 2 _ _ rfl).lt
  have s0 := (A6.out.box 2 _ _ rfl).cell 0 _ rfl
  have s1 := (A6.out.box 2 _ _ rfl).cell 1 _ rfl
  have s2 := (A6.out.box 2 _ _ rfl).cell 2 _ rfl
  have al := (A6.out.box 1 _ _ rfl).lt
  have a0 := (A6.out.box 1 _ _ rfl).cell 0 _ rfl
  have a1 := (A6.out.box 1 _ _ rfl).cell 1 _ rfl
  have af0 := (A6.out.box 1 _ _ rfl).froz 0 _ rfl
  have af1 := (A6.out.box 1 _ _ rfl).froz 1 _ rfl
  rcases HE.out with ⟨h1, h2⟩ | ⟨h1, h2, h3⟩ | ⟨h1, h2, h3, h4⟩
  · have q1 : (E1 != 0) = true := by simpa using h1
    subst h2
    clear h1 HE CP CB CS
    go_wp2_with fail
    go_rounds 1
    obtain ⟨w7, hw7, B7⟩ := A6.out.to2 1 _ (.int .i32 0) (.int .i32 0) rfl
    rw [hw7]
    have yl := (B7.box 1 _ _ rfl).lt
    have y0 := (B7.box 1 _ _ rfl).cell 0 _ rfl
    have y1 := (B7.box 1 _ _ rfl).cell 1 _ rfl
    refine bodyPost_ret (by simp [results, Try.results9, go_sem, y0, y1]; try rfl) rfl ?_
    exact ⟨rfl, B7.bel⟩
  · have q1 : (E2 != 0) = true := by simpa using h2
    subst h1
    subst h3
    clear h2 HE CP CB CS
    go_wp2_with fail
    go_rounds 2
    obtain ⟨w7, hw7, B7⟩ := A6.out.to2 1 _ (.int .i32 0) (.int .i32 0) rfl
    rw [hw7]
    have yl := (B7.box 1 _ _ rfl).lt
    have y0 := (B7.box 1 _ _ rfl).cell 0 _ rfl
    have y1 := (B7.box 1 _ _ rfl).cell 1 _ rfl
    refine bodyPost_ret (by simp [results, Try.results9, go_sem, y0, y1]; try rfl) rfl ?_
    exact ⟨rfl, B7.bel⟩
  · have q1 : (E3 != 0) = true := by simpa using h3
    subst h1
    subst h2
    subst h4
    clear h3 HE CP CB CS
    go_wp2_with fail
    go_rounds 3
    obtain ⟨w7, hw7, B7⟩ := A6.out.to2 1 _ (.int .i32 0) (.int .i32 0) rfl
    rw [hw7]
    have yl := (B7.box 1 _ _ rfl).lt
    have y0 := (B7.box 1 _ _ rfl).cell 0 _ rfl
    have y1 := (B7.box 1 _ _ rfl).cell 1 _ rfl
    refine bodyPost_ret (by simp [results, Try.results9, go_sem, y0, y1]; try rfl) rfl ?_
    exact ⟨rfl, B7.bel⟩

end Go.Proofs.Ytihcioghbidblaa
