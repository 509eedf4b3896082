/-
  Contract of stroke.Test.
-/
import Derived.Test.YtihcioghbidblaaStkFrm
namespace Go.Proofs.Ytihcioghbidblaa
open Go.RowKit
set_option linter.unusedVariables false

/-- another ram stored into a trial's box -/
theorem Bxs.ram {w : World} {L : List (Nat × List Value)} {W : World} (h : Bxs w L W) (i b : Nat) {x : Tri} {p v : Int} (p' v' : Int) (hi : L[i]? = some (b, [.int .i32 x.g, .int .i64 x.n, .int .i32 x.lo, .int .i32 x.hi, .int .i32 p, .int .i32 v, .int .i32 x.r, .int .i64 x.m, .int .i32 x.P, .int .i32 x.I, .int .i32 x.D, .int .i32 x.a, .int .i32 x.b, .int .i32 x.o, .int .i32 x.l, .bool x.k])) :
    ∃ w3, ((W.setCell ⟨b, 4, none⟩ (.int .i32 p')).setCell ⟨b, 5, none⟩ (.int .i32 v')) = w3 ∧ Bxs w (L.set i (b, [.int .i32 x.g, .int .i64 x.n, .int .i32 x.lo, .int .i32 x.hi, .int .i32 p', .int .i32 v', .int .i32 x.r, .int .i64 x.m, .int .i32 x.P, .int .i32 x.I, .int .i32 x.D, .int .i32 x.a, .int .i32 x.b, .int .i32 x.o, .int .i32 x.l, .bool x.k])) w3 :=
  ⟨_, rfl, (h.set i b 4 [.int .i32 x.g, .int .i64 x.n, .int .i32 x.lo, .int .i32 x.hi, .int .i32 p, .int .i32 v, .int .i32 x.r, .int .i64 x.m, .int .i32 x.P, .int .i32 x.I, .int .i32 x.D, .int .i32 x.a, .int .i32 x.b, .int .i32 x.o, .int .i32 x.l, .bool x.k] (.int .i32 p') hi (by simp)).again (j := 5) (.int .i32 v') hi (by simp)⟩
theorem fiB_min_at {F : Nat → Bool} {n j : Nat} (h : ∀ i, i < j → F i = false) (hj : F j = true) (hn : j < n) : fiB F n = j ∧ min (fiB F n + 1) n = j + 1 := by
  have := fiB_at h hj hn
  rw [this]
  omega
theorem fiB_min_none {F : Nat → Bool} {n : Nat} (h : ∀ i, i < n → F i = false) : fiB F n = n ∧ min (fiB F n + 1) n = n := by
  have := fiB_none h
  rw [this]
  omega
theorem bool_two (b : Bool) : b = false ∨ b = true := by cases b <;> simp

/-- without the last one -/
theorem Bxs.front {w : World} {L : List (Nat × List Value)} {e : Nat × List Value} {W : World} (h : Bxs w (L ++ [e]) W) : Bxs w L W :=
  have key : ∀ {i : Nat} {q : Nat × List Value}, L[i]? = some q → (L ++ [e])[i]? = some q := fun {i q} hi => by rw [List.getElem?_append_left (List.getElem?_eq_some_iff.1 hi).1]; exact hi
  ⟨h.bel, fun i b vs hi => h.box i b vs (key hi), fun i b vs hi => h.own i b vs (key hi), fun i j b c vs us hi hj => h.nd i j b c vs us (key hi) (key hj)⟩

set_option maxHeartbeats 2000000 in
theorem test_bad (x : Tri) (p v : Int) (a : Option Addr) (n c : Nat) (l : Nat → Pt) (w : World) (h : RowP w a n l) (E : Int) (hE : tsE x p l n = E) (h0 : E ≠ 0) :
    Calls Try.prog 8 #[.agg #[.int .i32 x.g, .int .i64 x.n, .int .i32 x.lo, .int .i32 x.hi, .int .i32 p, .int .i32 v, .int .i32 x.r, .int .i64 x.m, .int .i32 x.P, .int .i32 x.I, .int .i32 x.D, .int .i32 x.a, .int .i32 x.b, .int .i32 x.o, .int .i32 x.l, .bool x.k], .slice a n c] w fun e w' => e = .returned (.tuple #[.int .i64 0, .agg #[.int .i32 0, .int .i32 0], .int .i64 E]) ∧ Below w.heap.size w w' := by
  have B0 : Hid (_) := bxsII w #[.int .i32 x.g, .int .i64 x.n, .int .i32 x.lo, .int .i32 x.hi, .int .i32 p, .int .i32 v, .int .i32 x.r, .int .i64 x.m, .int .i32 x.P, .int .i32 x.I, .int .i32 x.D, .int .i32 x.a, .int .i32 x.b, .int .i32 x.o, .int .i32 x.l, .bool x.k] #[.int .i32 0, .int .i32 0] 31 25
  have HR : Hid (RowP w a n l) := h
  have CA : Hid (∀ W, RowP W a n l → Calls Try.prog 15 #[.agg #[.int .i32 x.g, .int .i64 x.n, .int .i32 x.lo, .int .i32 x.hi, .int .i32 p, .int .i32 v, .int .i32 x.r, .int .i64 x.m, .int .i32 x.P, .int .i32 x.I, .int .i32 x.D, .int .i32 x.a, .int .i32 x.b, .int .i32 x.o, .int .i32 x.l, .bool x.k], .slice a n c] W fun e w' => e = .returned (.int .i64 E) ∧ Below W.heap.size W w') := fun W hW => by
    rw [← hE]
    exact ckA_any x p v a n c l W hW
  have q : (E != 0) = true := by simpa using h0
  clear h hE h0
  go_enter Try.func8, Try.ntmps8
  go_wp2_with fail
  refine (CA.out _ (HR.out.step B0.out.bel)).mono ?_
  rintro e w1 ⟨rfl, hb⟩
  have B1 : Hid (_) := B0.out.step hb
  clear hb B0
  have al := (B1.out.box 1 _ _ rfl).lt
  have a0 := (B1.out.box 1 _ _ rfl).cell 0 _ rfl
  have a1 := (B1.out.box 1 _ _ rfl).cell 1 _ rfl
  have af0 := (B1.out.box 1 _ _ rfl).froz 0 _ rfl
  have af1 := (B1.out.box 1 _ _ rfl).froz 1 _ rfl
  go_wp2_with fail
  obtain ⟨w3, hw3, B3⟩ := B1.out.to2 1 _ (.int .i32 0) (.int .i32 0) rfl
  rw [hw3]
  have yl := (B3.box 1 _ _ rfl).lt
  have y0 := (B3.box 1 _ _ rfl).cell 0 _ rfl
  have y1 := (B3.box 1 _ _ rfl).cell 1 _ rfl
  refine bodyPost_ret (by simp [results, Try.results8, go_sem, y0, y1]; try rfl) rfl ?_
  exact ⟨rfl, B3.bel⟩

set_option maxHeartbeats 16000000 in
set_option maxRecDepth 100000 in
theorem test_core (x : Tri) (a : Option Addr) (n c : Nat) (l : Nat → Pt) (w : World) (h : RowP w a n l) (Z : Nat → Sta) (R : Nat → Nat → Sta) (F : Nat → Bool)
    (CA : Hid (∀ W, RowP W a n l → Calls Try.prog 15 #[.agg #[.int .i32 x.g, .int .i64 x.n, .int .i32 x.lo, .int .i32 x.hi, .int .i32 (Z 0).p, .int .i32 (Z 0).v, .int .i32 x.r, .int .i64 x.m, .int .i32 x.P, .int .i32 x.I, .int .i32 x.D, .int .i32 x.a, .int .i32 x.b, .int .i32 x.o, .int .i32 x.l, .bool x.k], .slice a n c] W fun e w' => e = .returned (.int .i64 0) ∧ Below W.heap.size W w'))
    (CR : Hid (∀ W, Calls Try.prog 16 #[.agg #[.int .i32 0, .int .i32 0, .int .i32 0, .int .i32 0], .int .i32 (Z 0).p] W fun e w' => e = .returned (.agg #[.int .i32 (Z 0).q, .int .i32 (Z 0).s, .int .i32 (Z 0).t, .int .i32 (Z 0).y]) ∧ Below W.heap.size W w'))
    (CF : Hid (∀ (j k : Nat) W, j < n → Calls Try.prog 17 #[.agg #[.int .i32 x.g, .int .i64 x.n, .int .i32 x.lo, .int .i32 x.hi, .int .i32 (R j k).p, .int .i32 (R j k).v, .int .i32 x.r, .int .i64 x.m, .int .i32 x.P, .int .i32 x.I, .int .i32 x.D, .int .i32 x.a, .int .i32 x.b, .int .i32 x.o, .int .i32 x.l, .bool x.k], .agg #[.int .i32 (R j k).q, .int .i32 (R j k).s, .int .i32 (R j k).t, .int .i32 (R j k).y], .int .i32 (l j).w] W fun e w' => e = .returned (.tuple #[.agg #[.int .i32 (R j (k + 1)).q, .int .i32 (R j (k + 1)).s, .int .i32 (R j (k + 1)).t, .int .i32 (R j (k + 1)).y], .agg #[.int .i32 (R j (k + 1)).p, .int .i32 (R j (k + 1)).v]]) ∧ Below W.heap.size W w'))
    (R0 : Hid (∀ j, R j 0 = Z j)) (R1 : Hid (∀ j, R j (l j).f.toNat = Z (j + 1)))
    (CI : Hid (∀ j W, j < n → Calls Try.prog 18 #[.int .i32 (Z (j + 1)).p, .agg #[.int .i32 (l j).w, .int .i64 (l j).f, .int .i32 (l j).d]] W fun e w' => e = .returned (.bool (F j)) ∧ Below W.heap.size W w'))
    (HO : Hid (okPs l n)) (hn16 : n ≤ 16) :
    Calls Try.prog 8 #[.agg #[.int .i32 x.g, .int .i64 x.n, .int .i32 x.lo, .int .i32 x.hi, .int .i32 (Z 0).p, .int .i32 (Z 0).v, .int .i32 x.r, .int .i64 x.m, .int .i32 x.P, .int .i32 x.I, .int .i32 x.D, .int .i32 x.a, .int .i32 x.b, .int .i32 x.o, .int .i32 x.l, .bool x.k], .slice a n c] w fun e w' => e = .returned (.tuple #[.int .i64 (fiB F n : Nat), .agg #[.int .i32 (Z (min (fiB F n + 1) n)).p, .int .i32 (Z (min (fiB F n + 1) n)).v], .int .i64 0]) ∧ Below w.heap.size w w' := by
  have B0 : Hid (_) := bxsII w #[.int .i32 x.g, .int .i64 x.n, .int .i32 x.lo, .int .i32 x.hi, .int .i32 (Z 0).p, .int .i32 (Z 0).v, .int .i32 x.r, .int .i64 x.m, .int .i32 x.P, .int .i32 x.I, .int .i32 x.D, .int .i32 x.a, .int .i32 x.b, .int .i32 x.o, .int .i32 x.l, .bool x.k] #[.int .i32 0, .int .i32 0] 31 25
  have HR : Hid (RowP w a n l) := h
  have HN : Hid (n ≤ 16) := hn16
  clear h hn16
  go_enter Try.func8, Try.ntmps8
  go_wp2_with fail
  refine (CA.out _ (HR.out.step B0.out.bel)).mono ?_
  rintro e w1 ⟨rfl, hb⟩
  have B1 : Hid (_) := B0.out.step hb
  clear hb B0
  have tl := (B1.out.box 0 _ _ rfl).lt
  have t0 := (B1.out.box 0 _ _ rfl).cell 0 _ rfl
  have t1 := (B1.out.box 0 _ _ rfl).cell 1 _ rfl
  have t2 := (B1.out.box 0 _ _ rfl).cell 2 _ rfl
  have t3 := (B1.out.box 0 _ _ rfl).cell 3 _ rfl
  have t4 := (B1.out.box 0 _ _ rfl).cell 4 _ rfl
  have t5 := (B1.out.box 0 _ _ rfl).cell 5 _ rfl
  have t6 := (B1.out.box 0 _ _ rfl).cell 6 _ rfl
  have t7 := (B1.out.box 0 _ _ rfl).cell 7 _ rfl
  have t8 := (B1.out.box 0 _ _ rfl).cell 8 _ rfl
  have t9 := (B1.out.box 0 _ _ rfl).cell 9 _ rfl
  have t10 := (B1.out.box 0 _ _ rfl).cell 10 _ rfl
  have t11 := (B1.out.box 0 _ _ rfl).cell 11 _ rfl
  have t12 := (B1.out.box 0 _ _ rfl).cell 12 _ rfl
  have t13 := (B1.out.box 0 _ _ rfl).cell 13 _ rfl
  have t14 := (B1.out.box 0 _ _ rfl).cell 14 _ rfl
  have t15 := (B1.out.box 0 _ _ rfl).cell 15 _ rfl
  go_wp2_with fail
  refine (CR.out _).mono ?_
  rintro e w2 ⟨rfl, hb⟩
  have B2 : Hid (_) := B1.out.step hb
  clear hb B1
  clear tl t0 t1 t2 t3 t4 t5 t6 t7 t8 t9 t10 t11 t12 t13 t14 t15
  go_wp2_with fail
  obtain ⟨D, w3, hw3, hD, B3', lD⟩ := B2.out.new #[.int .i32 (Z 0).q, .int .i32 (Z 0).s, .int .i32 (Z 0).t, .int .i32 (Z 0).y] 51
  rw [hw3, hD]
  have B3 : Hid (_) := B3'
  clear B3' hw3 hD B2 lD
  go_loopg [25] (n + 1) (fun g s wr => ∃ j : Nat, s = .int .i64 j ∧ n - j < g ∧ j ≤ n ∧ Hid (∀ i, i < j → F i = false) ∧ Hid (Bxs w [(w.heap.size, [.int .i32 x.g, .int .i64 x.n, .int .i32 x.lo, .int .i32 x.hi, .int .i32 (Z j).p, .int .i32 (Z j).v, .int .i32 x.r, .int .i64 x.m, .int .i32 x.P, .int .i32 x.I, .int .i32 x.D, .int .i32 x.a, .int .i32 x.b, .int .i32 x.o, .int .i32 x.l, .bool x.k]), (w.heap.size + 1, [.int .i32 0, .int .i32 0]), (D, [.int .i32 (Z j).q, .int .i32 (Z j).s, .int .i32 (Z j).t, .int .i32 (Z j).y])] wr))
  case atStart => exact ⟨0, rfl, by omega, by omega, fun i hi => absurd hi (by omega), B3⟩
  case round =>
    clear B3
    obtain ⟨j, rfl, hg, hj, HM, HB⟩ := hrel
    by_cases hlt : j < n
    · have z1 : (j : Int) < (n : Int) := by omega
      have HQ : Hid (RowP wr a n l) := HR.out.step HB.out.bel
      obtain ⟨b, o, rfl, hb, hc⟩ := HQ.out (by omega)
      obtain ⟨x0, x1, x2⟩ := hc j hlt
      go_wp2_with fail
      obtain ⟨M, w4, hw4, hM, B4', lM⟩ := HB.out.new #[.int .i32 (l j).w, .int .i64 (l j).f, .int .i32 (l j).d] 40
      rw [hw4, hM]
      have B4 : Hid (_) := B4'
      clear B4' hw4 hM hc x0 x1 x2 hb HQ
      have cl := (B4.out.box 3 _ _ rfl).lt
      have c0 := (B4.out.box 3 _ _ rfl).cell 0 _ rfl
      have c1 := (B4.out.box 3 _ _ rfl).cell 1 _ rfl
      have c2 := (B4.out.box 3 _ _ rfl).cell 2 _ rfl
      go_wp2_with fail
      clear cl c0 c1 c2
      have HF : Hid (1 ≤ (l j).f ∧ (l j).f ≤ 200) := ⟨(HO.out j hlt).1, (HO.out j hlt).2.1⟩
      go_loopg [32] ((l j).f.toNat + 1) (fun g s wr => ∃ k : Nat, s = .int .i64 k ∧ (l j).f.toNat - k < g ∧ k ≤ (l j).f.toNat ∧ Hid (Bxs w [(w.heap.size, [.int .i32 x.g, .int .i64 x.n, .int .i32 x.lo, .int .i32 x.hi, .int .i32 (R j k).p, .int .i32 (R j k).v, .int .i32 x.r, .int .i64 x.m, .int .i32 x.P, .int .i32 x.I, .int .i32 x.D, .int .i32 x.a, .int .i32 x.b, .int .i32 x.o, .int .i32 x.l, .bool x.k]), (w.heap.size + 1, [.int .i32 0, .int .i32 0]), (D, [.int .i32 (R j k).q, .int .i32 (R j k).s, .int .i32 (R j k).t, .int .i32 (R j k).y]), (M, [.int .i32 (l j).w, .int .i64 (l j).f, .int .i32 (l j).d])] wr))
      case atStart => exact ⟨0, rfl, by omega, by omega, by rw [R0.out]; exact B4⟩
      case round =>
        clear B4
        obtain ⟨k, rfl, hg2, hk, HB2⟩ := hrel
        by_cases hlt2 : k < (l j).f.toNat
        · have z2 : (k : Int) < (l j).f := by omega
          have z3 : (k : Int) < 200 := by have := HF.out.2; omega
          have tl := (HB2.out.box 0 _ _ rfl).lt
          have t0 := (HB2.out.box 0 _ _ rfl).cell 0 _ rfl
          have t1 := (HB2.out.box 0 _ _ rfl).cell 1 _ rfl
          have t2 := (HB2.out.box 0 _ _ rfl).cell 2 _ rfl
          have t3 := (HB2.out.box 0 _ _ rfl).cell 3 _ rfl
          have t4 := (HB2.out.box 0 _ _ rfl).cell 4 _ rfl
          have t5 := (HB2.out.box 0 _ _ rfl).cell 5 _ rfl
          have t6 := (HB2.out.box 0 _ _ rfl).cell 6 _ rfl
          have t7 := (HB2.out.box 0 _ _ rfl).cell 7 _ rfl
          have t8 := (HB2.out.box 0 _ _ rfl).cell 8 _ rfl
          have t9 := (HB2.out.box 0 _ _ rfl).cell 9 _ rfl
          have t10 := (HB2.out.box 0 _ _ rfl).cell 10 _ rfl
          have t11 := (HB2.out.box 0 _ _ rfl).cell 11 _ rfl
          have t12 := (HB2.out.box 0 _ _ rfl).cell 12 _ rfl
          have t13 := (HB2.out.box 0 _ _ rfl).cell 13 _ rfl
          have t14 := (HB2.out.box 0 _ _ rfl).cell 14 _ rfl
          have t15 := (HB2.out.box 0 _ _ rfl).cell 15 _ rfl
          have dl := (HB2.out.box 2 _ _ rfl).lt
          have d0 := (HB2.out.box 2 _ _ rfl).cell 0 _ rfl
          have d1 := (HB2.out.box 2 _ _ rfl).cell 1 _ rfl
          have d2 := (HB2.out.box 2 _ _ rfl).cell 2 _ rfl
          have d3 := (HB2.out.box 2 _ _ rfl).cell 3 _ rfl
          have cl := (HB2.out.box 3 _ _ rfl).lt
          have c0 := (HB2.out.box 3 _ _ rfl).cell 0 _ rfl
          have c1 := (HB2.out.box 3 _ _ rfl).cell 1 _ rfl
          have c2 := (HB2.out.box 3 _ _ rfl).cell 2 _ rfl
          go_wp2_with fail
          refine (CF.out j k _ hlt).mono ?_
          rintro e w5 ⟨rfl, hb⟩
          have B5 : Hid (_) := HB2.out.step hb
          clear hb HB2
          clear tl t0 t1 t2 t3 t4 t5 t6 t7 t8 t9 t10 t11 t12 t13 t14 t15
          clear dl d0 d1 d2 d3
          clear cl c0 c1 c2
          have tl := (B5.out.box 0 _ _ rfl).lt
          have t0 := (B5.out.box 0 _ _ rfl).cell 0 _ rfl
          have t1 := (B5.out.box 0 _ _ rfl).cell 1 _ rfl
          have t2 := (B5.out.box 0 _ _ rfl).cell 2 _ rfl
          have t3 := (B5.out.box 0 _ _ rfl).cell 3 _ rfl
          have t4 := (B5.out.box 0 _ _ rfl).cell 4 _ rfl
          have t5 := (B5.out.box 0 _ _ rfl).cell 5 _ rfl
          have t6 := (B5.out.box 0 _ _ rfl).cell 6 _ rfl
          have t7 := (B5.out.box 0 _ _ rfl).cell 7 _ rfl
          have t8 := (B5.out.box 0 _ _ rfl).cell 8 _ rfl
          have t9 := (B5.out.box 0 _ _ rfl).cell 9 _ rfl
          have t10 := (B5.out.box 0 _ _ rfl).cell 10 _ rfl
          have t11 := (B5.out.box 0 _ _ rfl).cell 11 _ rfl
          have t12 := (B5.out.box 0 _ _ rfl).cell 12 _ rfl
          have t13 := (B5.out.box 0 _ _ rfl).cell 13 _ rfl
          have t14 := (B5.out.box 0 _ _ rfl).cell 14 _ rfl
          have t15 := (B5.out.box 0 _ _ rfl).cell 15 _ rfl
          have tf0 := (B5.out.box 0 _ _ rfl).froz 0 _ rfl
          have tf1 := (B5.out.box 0 _ _ rfl).froz 1 _ rfl
          have tf2 := (B5.out.box 0 _ _ rfl).froz 2 _ rfl
          have tf3 := (B5.out.box 0 _ _ rfl).froz 3 _ rfl
          have tf4 := (B5.out.box 0 _ _ rfl).froz 4 _ rfl
          have tf5 := (B5.out.box 0 _ _ rfl).froz 5 _ rfl
          have tf6 := (B5.out.box 0 _ _ rfl).froz 6 _ rfl
          have tf7 := (B5.out.box 0 _ _ rfl).froz 7 _ rfl
          have tf8 := (B5.out.box 0 _ _ rfl).froz 8 _ rfl
          have tf9 := (B5.out.box 0 _ _ rfl).froz 9 _ rfl
          have tf10 := (B5.out.box 0 _ _ rfl).froz 10 _ rfl
          have tf11 := (B5.out.box 0 _ _ rfl).froz 11 _ rfl
          have tf12 := (B5.out.box 0 _ _ rfl).froz 12 _ rfl
          have tf13 := (B5.out.box 0 _ _ rfl).froz 13 _ rfl
          have tf14 := (B5.out.box 0 _ _ rfl).froz 14 _ rfl
          have tf15 := (B5.out.box 0 _ _ rfl).froz 15 _ rfl
          have dl := (B5.out.box 2 _ _ rfl).lt
          have d0 := (B5.out.box 2 _ _ rfl).cell 0 _ rfl
          have d1 := (B5.out.box 2 _ _ rfl).cell 1 _ rfl
          have d2 := (B5.out.box 2 _ _ rfl).cell 2 _ rfl
          have d3 := (B5.out.box 2 _ _ rfl).cell 3 _ rfl
          have df0 := (B5.out.box 2 _ _ rfl).froz 0 _ rfl
          have df1 := (B5.out.box 2 _ _ rfl).froz 1 _ rfl
          have df2 := (B5.out.box 2 _ _ rfl).froz 2 _ rfl
          have df3 := (B5.out.box 2 _ _ rfl).froz 3 _ rfl
          have h20 : ¬ D = w.heap.size := B5.out.nd 2 0 _ _ _ _ rfl rfl (by omega)
          have g20 : ¬ w.heap.size = D := fun h => h20 h.symm
          go_wp2_with fail
          obtain ⟨w6, hw6, B6⟩ := B5.out.to4 2 D (.int .i32 (R j (k + 1)).q) (.int .i32 (R j (k + 1)).s) (.int .i32 (R j (k + 1)).t) (.int .i32 (R j (k + 1)).y) rfl
          rw [hw6]
          obtain ⟨w7, hw7, B7'⟩ := B6.ram 0 _ (R j (k + 1)).p (R j (k + 1)).v rfl
          rw [hw7]
          have B7 : Hid (_) := B7'
          clear B7' hw7 B6 hw6 B5 h20 g20
          clear tl t0 t1 t2 t3 t4 t5 t6 t7 t8 t9 t10 t11 t12 t13 t14 t15
          clear tf0 tf1 tf2 tf3 tf4 tf5 tf6 tf7 tf8 tf9 tf10 tf11 tf12 tf13 tf14 tf15
          clear dl d0 d1 d2 d3
          clear df0 df1 df2 df3
          go_roundg ((l j).f.toNat - (k + 1) + 1)
          case measure => omega
          case rel => exact ⟨k + 1, by go_num, by omega, by omega, B7⟩
        · have z2 : ¬ (k : Int) < (l j).f := by omega
          obtain rfl : k = (l j).f.toNat := by omega
          have HB3 : Hid (Bxs w [(w.heap.size, [.int .i32 x.g, .int .i64 x.n, .int .i32 x.lo, .int .i32 x.hi, .int .i32 (Z (j + 1)).p, .int .i32 (Z (j + 1)).v, .int .i32 x.r, .int .i64 x.m, .int .i32 x.P, .int .i32 x.I, .int .i32 x.D, .int .i32 x.a, .int .i32 x.b, .int .i32 x.o, .int .i32 x.l, .bool x.k]), (w.heap.size + 1, [.int .i32 0, .int .i32 0]), (D, [.int .i32 (Z (j + 1)).q, .int .i32 (Z (j + 1)).s, .int .i32 (Z (j + 1)).t, .int .i32 (Z (j + 1)).y]), (M, [.int .i32 (l j).w, .int .i64 (l j).f, .int .i32 (l j).d])] wr) := by
            have := HB2.out
            rw [R1.out j] at this
            exact this
          clear HB2
          have tl := (HB3.out.box 0 _ _ rfl).lt
          have t0 := (HB3.out.box 0 _ _ rfl).cell 0 _ rfl
          have t1 := (HB3.out.box 0 _ _ rfl).cell 1 _ rfl
          have t2 := (HB3.out.box 0 _ _ rfl).cell 2 _ rfl
          have t3 := (HB3.out.box 0 _ _ rfl).cell 3 _ rfl
          have t4 := (HB3.out.box 0 _ _ rfl).cell 4 _ rfl
          have t5 := (HB3.out.box 0 _ _ rfl).cell 5 _ rfl
          have t6 := (HB3.out.box 0 _ _ rfl).cell 6 _ rfl
          have t7 := (HB3.out.box 0 _ _ rfl).cell 7 _ rfl
          have t8 := (HB3.out.box 0 _ _ rfl).cell 8 _ rfl
          have t9 := (HB3.out.box 0 _ _ rfl).cell 9 _ rfl
          have t10 := (HB3.out.box 0 _ _ rfl).cell 10 _ rfl
          have t11 := (HB3.out.box 0 _ _ rfl).cell 11 _ rfl
          have t12 := (HB3.out.box 0 _ _ rfl).cell 12 _ rfl
          have t13 := (HB3.out.box 0 _ _ rfl).cell 13 _ rfl
          have t14 := (HB3.out.box 0 _ _ rfl).cell 14 _ rfl
          have t15 := (HB3.out.box 0 _ _ rfl).cell 15 _ rfl
          have cl := (HB3.out.box 3 _ _ rfl).lt
          have c0 := (HB3.out.box 3 _ _ rfl).cell 0 _ rfl
          have c1 := (HB3.out.box 3 _ _ rfl).cell 1 _ rfl
          have c2 := (HB3.out.box 3 _ _ rfl).cell 2 _ rfl
          go_wp2_with fail
          refine (CI.out j _ hlt).mono ?_
          rintro e w5 ⟨rfl, hb⟩
          have B5 : Hid (_) := HB3.out.step hb
          clear hb HB3
          clear tl t0 t1 t2 t3 t4 t5 t6 t7 t8 t9 t10 t11 t12 t13 t14 t15
          clear cl c0 c1 c2
          rcases bool_two (F j) with hF | hF
          · have HM2 : Hid (∀ i, i < j + 1 → F i = false) := fun i hi => by
              by_cases e : i < j
              · exact HM.out i e
              · obtain rfl : i = j := by omega
                exact hF
            rw [hF]
            clear hF
            have B6 : Hid (Bxs w [(w.heap.size, [.int .i32 x.g, .int .i64 x.n, .int .i32 x.lo, .int .i32 x.hi, .int .i32 (Z (j + 1)).p, .int .i32 (Z (j + 1)).v, .int .i32 x.r, .int .i64 x.m, .int .i32 x.P, .int .i32 x.I, .int .i32 x.D, .int .i32 x.a, .int .i32 x.b, .int .i32 x.o, .int .i32 x.l, .bool x.k]), (w.heap.size + 1, [.int .i32 0, .int .i32 0]), (D, [.int .i32 (Z (j + 1)).q, .int .i32 (Z (j + 1)).s, .int .i32 (Z (j + 1)).t, .int .i32 (Z (j + 1)).y])] w5) := Bxs.front (L := [_, _, _]) B5.out
            clear B5
            have z4 : (j : Int) < 16 := by have := HN.out; omega
            go_wp2_with fail
            go_roundg (n - (j + 1) + 1)
            case measure => omega
            case rel => exact ⟨j + 1, by go_num, by omega, by omega, HM2, B6⟩
          · have K : Hid (fiB F n = j ∧ min (fiB F n + 1) n = j + 1) := fiB_min_at HM.out hF hlt
            rw [hF]
            clear hF
            have tl := (B5.out.box 0 _ _ rfl).lt
            have t0 := (B5.out.box 0 _ _ rfl).cell 0 _ rfl
            have t1 := (B5.out.box 0 _ _ rfl).cell 1 _ rfl
            have t2 := (B5.out.box 0 _ _ rfl).cell 2 _ rfl
            have t3 := (B5.out.box 0 _ _ rfl).cell 3 _ rfl
            have t4 := (B5.out.box 0 _ _ rfl).cell 4 _ rfl
            have t5 := (B5.out.box 0 _ _ rfl).cell 5 _ rfl
            have t6 := (B5.out.box 0 _ _ rfl).cell 6 _ rfl
            have t7 := (B5.out.box 0 _ _ rfl).cell 7 _ rfl
            have t8 := (B5.out.box 0 _ _ rfl).cell 8 _ rfl
            have t9 := (B5.out.box 0 _ _ rfl).cell 9 _ rfl
            have t10 := (B5.out.box 0 _ _ rfl).cell 10 _ rfl
            have t11 := (B5.out.box 0 _ _ rfl).cell 11 _ rfl
            have t12 := (B5.out.box 0 _ _ rfl).cell 12 _ rfl
            have t13 := (B5.out.box 0 _ _ rfl).cell 13 _ rfl
            have t14 := (B5.out.box 0 _ _ rfl).cell 14 _ rfl
            have t15 := (B5.out.box 0 _ _ rfl).cell 15 _ rfl
            have al := (B5.out.box 1 _ _ rfl).lt
            have a0 := (B5.out.box 1 _ _ rfl).cell 0 _ rfl
            have a1 := (B5.out.box 1 _ _ rfl).cell 1 _ rfl
            have af0 := (B5.out.box 1 _ _ rfl).froz 0 _ rfl
            have af1 := (B5.out.box 1 _ _ rfl).froz 1 _ rfl
            go_wp2_with fail
            go_region
            all_goals (try go_wp2_with fail)
            obtain ⟨w7, hw7, B7⟩ := B5.out.to2 1 _ (.int .i32 (Z (j + 1)).p) (.int .i32 (Z (j + 1)).v) rfl
            rw [hw7]
            have B9 := B7.drew
            generalize w7.drew = w9 at *
            have yl := (B9.box 1 _ _ rfl).lt
            have y0 := (B9.box 1 _ _ rfl).cell 0 _ rfl
            have y1 := (B9.box 1 _ _ rfl).cell 1 _ rfl
            refine bodyPost_ret (by simp [results, Try.results8, go_sem, y0, y1]; try rfl) rfl ?_
            exact ⟨by rw [K.out.2, K.out.1], B9.bel⟩
    · have z1 : ¬ (j : Int) < (n : Int) := by omega
      obtain rfl : j = n := by omega
      have K : Hid (fiB F j = j ∧ min (fiB F j + 1) j = j) := fiB_min_none HM.out
      have tl := (HB.out.box 0 _ _ rfl).lt
      have t0 := (HB.out.box 0 _ _ rfl).cell 0 _ rfl
      have t1 := (HB.out.box 0 _ _ rfl).cell 1 _ rfl
      have t2 := (HB.out.box 0 _ _ rfl).cell 2 _ rfl
      have t3 := (HB.out.box 0 _ _ rfl).cell 3 _ rfl
      have t4 := (HB.out.box 0 _ _ rfl).cell 4 _ rfl
      have t5 := (HB.out.box 0 _ _ rfl).cell 5 _ rfl
      have t6 := (HB.out.box 0 _ _ rfl).cell 6 _ rfl
      have t7 := (HB.out.box 0 _ _ rfl).cell 7 _ rfl
      have t8 := (HB.out.box 0 _ _ rfl).cell 8 _ rfl
      have t9 := (HB.out.box 0 _ _ rfl).cell 9 _ rfl
      have t10 := (HB.out.box 0 _ _ rfl).cell 10 _ rfl
      have t11 := (HB.out.box 0 _ _ rfl).cell 11 _ rfl
      have t12 := (HB.out.box 0 _ _ rfl).cell 12 _ rfl
      have t13 := (HB.out.box 0 _ _ rfl).cell 13 _ rfl
      have t14 := (HB.out.box 0 _ _ rfl).cell 14 _ rfl
      have t15 := (HB.out.box 0 _ _ rfl).cell 15 _ rfl
      have al := (HB.out.box 1 _ _ rfl).lt
      have a0 := (HB.out.box 1 _ _ rfl).cell 0 _ rfl
      have a1 := (HB.out.box 1 _ _ rfl).cell 1 _ rfl
      have af0 := (HB.out.box 1 _ _ rfl).froz 0 _ rfl
      have af1 := (HB.out.box 1 _ _ rfl).froz 1 _ rfl
      go_wp2_with fail
      go_region
      all_goals (try go_wp2_with fail)
      obtain ⟨w7, hw7, B7⟩ := HB.out.to2 1 _ (.int .i32 (Z j).p) (.int .i32 (Z j).v) rfl
      rw [hw7]
      have B9 := B7.drew
      generalize w7.drew = w9 at *
      have yl := (B9.box 1 _ _ rfl).lt
      have y0 := (B9.box 1 _ _ rfl).cell 0 _ rfl
      have y1 := (B9.box 1 _ _ rfl).cell 1 _ rfl
      refine bodyPost_ret (by simp [results, Try.results8, go_sem, y0, y1]; try rfl) rfl ?_
      exact ⟨by rw [K.out.2, K.out.1], B9.bel⟩

/-- what Test answers, whatever came in -/
theorem test_any (x : Tri) (p v : Int) (a : Option Addr) (n c : Nat) (l : Nat → Pt) (w : World) (h : RowP w a n l) (hT : TI x) (hp : I32 p) (hl : ∀ j, I32 (l j).w ∧ I32 (l j).d) (hE : tsE x p l n = 0) :
    Calls Try.prog 8 #[.agg #[.int .i32 x.g, .int .i64 x.n, .int .i32 x.lo, .int .i32 x.hi, .int .i32 p, .int .i32 v, .int .i32 x.r, .int .i64 x.m, .int .i32 x.P, .int .i32 x.I, .int .i32 x.D, .int .i32 x.a, .int .i32 x.b, .int .i32 x.o, .int .i32 x.l, .bool x.k], .slice a n c] w fun e w' => e = .returned (.tuple #[.int .i64 (tsN x (sta0 p v) l n : Nat), .agg #[.int .i32 (tsR x (sta0 p v) l n).p, .int .i32 (tsR x (sta0 p v) l n).v], .int .i64 0]) ∧ Below w.heap.size w w' := by
  obtain ⟨hC, hO⟩ := tsE_zero hE
  have h0 := sta0_ok (v := v) hO hp
  have hZ := ptF_ok hT hO h0 l
  exact test_core x a n c l w h (ptF x (sta0 p v) l) (fun j => rnF x (ptF x (sta0 p v) l j) (l j).w) (msF x (sta0 p v) l)
    (fun W hW => by
      have := ckA_any x p v a n c l W hW
      rw [hE] at this
      exact this)
    (fun W => rest_any 0 0 0 0 p W)
    (fun j k W hj => frame_any x (rnF x (ptF x (sta0 p v) l j) (l j).w k) (l j).w W hT hO (rnF_ok hT hO (hZ j) k) (hl j).1)
    (fun j => rfl) (fun j => rfl)
    (fun j W hj => isFarP_any _ (l j) W ⟨by have := hT.lo.1; have := (hZ (j + 1)).p1; omega, by have := hT.hi.2; have := (hZ (j + 1)).p2; omega⟩ (hl j).1 (hl j).2)
    (chP_zero hC).2.2 (chP_zero hC).2.1

end Go.Proofs.Ytihcioghbidblaa
