/-
  Contracts of watch.Step and the document's WatchStep.
-/
import Derived.Test.YthfbdnhhmnehaaaWatChk
import Derived.Test.YthfbdnhhmnehaaaCountRun
namespace Go.Proofs.Ythfbdnhhmnehaaa
open Go.RowKit
set_option linter.unusedVariables false

/-- the first j are the new ones -/
def upN (n o : Nat → Int) (j i : Nat) : Int := if i < j then n i else o i
def upB (n o : Nat → Bool) (j i : Nat) : Bool := if i < j then n i else o i

set_option maxHeartbeats 8000000 in
set_option maxRecDepth 100000 in
theorem wstep_bad (u d m : Int) (M N : Nat → Int) (S : Nat → Bool) (x0 x1 x2 x3 x4 x5 : Int) (v : Bool) (w : World) (h : ¬ OkW u d m M N) :
    Calls Try.prog 7 #[.agg #[.int .i32 (M 0), .int .i32 (M 1), .int .i32 (M 2), .int .i32 (M 3), .int .i32 (M 4), .int .i64 u, .int .i64 d, .int .i64 m], .agg #[.int .i64 (N 0), .bool (S 0), .int .i64 (N 1), .bool (S 1), .int .i64 (N 2), .bool (S 2), .int .i64 (N 3), .bool (S 3), .int .i64 (N 4), .bool (S 4)], .agg #[.int .i32 x0, .int .i32 x1, .int .i32 x2, .int .i32 x3, .int .i32 x4, .int .i32 x5, .bool v]] w fun e w' => e = .returned (.tuple #[.agg #[.int .i64 0, .bool false, .int .i64 0, .bool false, .int .i64 0, .bool false, .int .i64 0, .bool false, .int .i64 0, .bool false], .bool false, .int .i64 1]) ∧ Below w.heap.size w w' := by
  obtain ⟨W0, hW0, B0', Z0'⟩ := lay4n w #[.int .i32 (M 0), .int .i32 (M 1), .int .i32 (M 2), .int .i32 (M 3), .int .i32 (M 4), .int .i64 u, .int .i64 d, .int .i64 m] #[.int .i64 (N 0), .bool (S 0), .int .i64 (N 1), .bool (S 1), .int .i64 (N 2), .bool (S 2), .int .i64 (N 3), .bool (S 3), .int .i64 (N 4), .bool (S 4)] #[.int .i32 x0, .int .i32 x1, .int .i32 x2, .int .i32 x3, .int .i32 x4, .int .i32 x5, .bool v] #[.int .i64 0, .bool false, .int .i64 0, .bool false, .int .i64 0, .bool false, .int .i64 0, .bool false, .int .i64 0, .bool false] 26 29 31 29
  have HW : Hid (_) := hW0
  have B0 : Hid (_) := B0'
  clear hW0 B0' Z0'
  have CK : Hid (_) := fun W => wcheck_any u d m M N (S 0) (S 1) (S 2) (S 3) (S 4) 1 W (Or.inr ⟨h, rfl⟩)
  clear h
  go_enter Try.func7, Try.ntmps7
  go_wp2_with fail
  rw [HW.out]
  clear HW
  refine (CK.out _).mono ?_
  rintro e w1 ⟨rfl, hb⟩
  have B1 : Hid (_) := B0.out.step hb
  clear hb B0 CK
  have kl := (B1.out.blk 3 (w.heap.size + 1 + 1 + 1) _ rfl rfl).lt
  have k0 := (B1.out.blk 3 (w.heap.size + 1 + 1 + 1) _ rfl rfl).cell 0 _ rfl
  have k1 := (B1.out.blk 3 (w.heap.size + 1 + 1 + 1) _ rfl rfl).cell 1 _ rfl
  have k2 := (B1.out.blk 3 (w.heap.size + 1 + 1 + 1) _ rfl rfl).cell 2 _ rfl
  have k3 := (B1.out.blk 3 (w.heap.size + 1 + 1 + 1) _ rfl rfl).cell 3 _ rfl
  have k4 := (B1.out.blk 3 (w.heap.size + 1 + 1 + 1) _ rfl rfl).cell 4 _ rfl
  have k5 := (B1.out.blk 3 (w.heap.size + 1 + 1 + 1) _ rfl rfl).cell 5 _ rfl
  have k6 := (B1.out.blk 3 (w.heap.size + 1 + 1 + 1) _ rfl rfl).cell 6 _ rfl
  have k7 := (B1.out.blk 3 (w.heap.size + 1 + 1 + 1) _ rfl rfl).cell 7 _ rfl
  have k8 := (B1.out.blk 3 (w.heap.size + 1 + 1 + 1) _ rfl rfl).cell 8 _ rfl
  have k9 := (B1.out.blk 3 (w.heap.size + 1 + 1 + 1) _ rfl rfl).cell 9 _ rfl
  have kf0 := (B1.out.blk 3 (w.heap.size + 1 + 1 + 1) _ rfl rfl).froz 0 _ rfl
  have kf1 := (B1.out.blk 3 (w.heap.size + 1 + 1 + 1) _ rfl rfl).froz 1 _ rfl
  have kf2 := (B1.out.blk 3 (w.heap.size + 1 + 1 + 1) _ rfl rfl).froz 2 _ rfl
  have kf3 := (B1.out.blk 3 (w.heap.size + 1 + 1 + 1) _ rfl rfl).froz 3 _ rfl
  have kf4 := (B1.out.blk 3 (w.heap.size + 1 + 1 + 1) _ rfl rfl).froz 4 _ rfl
  have kf5 := (B1.out.blk 3 (w.heap.size + 1 + 1 + 1) _ rfl rfl).froz 5 _ rfl
  have kf6 := (B1.out.blk 3 (w.heap.size + 1 + 1 + 1) _ rfl rfl).froz 6 _ rfl
  have kf7 := (B1.out.blk 3 (w.heap.size + 1 + 1 + 1) _ rfl rfl).froz 7 _ rfl
  have kf8 := (B1.out.blk 3 (w.heap.size + 1 + 1 + 1) _ rfl rfl).froz 8 _ rfl
  have kf9 := (B1.out.blk 3 (w.heap.size + 1 + 1 + 1) _ rfl rfl).froz 9 _ rfl
  go_wp2_with fail
  obtain ⟨w3, hw3, B3⟩ := B1.out.put10 3 (w.heap.size + 1 + 1 + 1) (.int .i64 0) (.bool false) (.int .i64 0) (.bool false) (.int .i64 0) (.bool false) (.int .i64 0) (.bool false) (.int .i64 0) (.bool false) rfl rfl
  rw [hw3]
  have yl := (B3.blk 3 (w.heap.size + 1 + 1 + 1) _ rfl rfl).lt
  have y0 := (B3.blk 3 (w.heap.size + 1 + 1 + 1) _ rfl rfl).cell 0 _ rfl
  have y1 := (B3.blk 3 (w.heap.size + 1 + 1 + 1) _ rfl rfl).cell 1 _ rfl
  have y2 := (B3.blk 3 (w.heap.size + 1 + 1 + 1) _ rfl rfl).cell 2 _ rfl
  have y3 := (B3.blk 3 (w.heap.size + 1 + 1 + 1) _ rfl rfl).cell 3 _ rfl
  have y4 := (B3.blk 3 (w.heap.size + 1 + 1 + 1) _ rfl rfl).cell 4 _ rfl
  have y5 := (B3.blk 3 (w.heap.size + 1 + 1 + 1) _ rfl rfl).cell 5 _ rfl
  have y6 := (B3.blk 3 (w.heap.size + 1 + 1 + 1) _ rfl rfl).cell 6 _ rfl
  have y7 := (B3.blk 3 (w.heap.size + 1 + 1 + 1) _ rfl rfl).cell 7 _ rfl
  have y8 := (B3.blk 3 (w.heap.size + 1 + 1 + 1) _ rfl rfl).cell 8 _ rfl
  have y9 := (B3.blk 3 (w.heap.size + 1 + 1 + 1) _ rfl rfl).cell 9 _ rfl
  refine bodyPost_ret (by simp [results, Try.results7, go_sem, y0, y1, y2, y3, y4, y5, y6, y7, y8, y9]; try rfl) rfl ?_
  exact ⟨rfl, B3.bel⟩

set_option maxHeartbeats 8000000 in
set_option maxRecDepth 100000 in
theorem wstep_ok (u d m : Int) (M N : Nat → Int) (S B : Nat → Bool) (x0 x1 x2 x3 x4 x5 : Int) (v : Bool) (nn : Nat → Int) (ss A : Nat → Bool) (w : World) (h : OkW u d m M N) (CL : Hid (∀ W, Calls Try.prog 9 #[.agg #[.int .i32 (M 0), .int .i32 (M 1), .int .i32 (M 2), .int .i32 (M 3), .int .i32 (M 4), .int .i64 u, .int .i64 d, .int .i64 m], .agg #[.int .i32 x0, .int .i32 x1, .int .i32 x2, .int .i32 x3, .int .i32 x4, .int .i32 x5, .bool v]] W fun e w' => e = .returned (.agg #[.bool (B 0), .bool (B 1), .bool (B 2), .bool (B 3), .bool (B 4)]) ∧ Below W.heap.size W w')) (hn : ∀ j, nxI u d m (N j) (B j) = nn j) (hs : ∀ j, nxB m (nn j) (S j) = ss j) (hA0 : A 0 = false) (hA : ∀ j, A (j + 1) = (A j || ss j)) :
    Calls Try.prog 7 #[.agg #[.int .i32 (M 0), .int .i32 (M 1), .int .i32 (M 2), .int .i32 (M 3), .int .i32 (M 4), .int .i64 u, .int .i64 d, .int .i64 m], .agg #[.int .i64 (N 0), .bool (S 0), .int .i64 (N 1), .bool (S 1), .int .i64 (N 2), .bool (S 2), .int .i64 (N 3), .bool (S 3), .int .i64 (N 4), .bool (S 4)], .agg #[.int .i32 x0, .int .i32 x1, .int .i32 x2, .int .i32 x3, .int .i32 x4, .int .i32 x5, .bool v]] w fun e w' => e = .returned (.tuple #[.agg #[.int .i64 (nn 0), .bool (ss 0), .int .i64 (nn 1), .bool (ss 1), .int .i64 (nn 2), .bool (ss 2), .int .i64 (nn 3), .bool (ss 3), .int .i64 (nn 4), .bool (ss 4)], .bool (A 5), .int .i64 0]) ∧ Below w.heap.size w w' := by
  obtain ⟨W0, hW0, B0', Z0'⟩ := lay4n w #[.int .i32 (M 0), .int .i32 (M 1), .int .i32 (M 2), .int .i32 (M 3), .int .i32 (M 4), .int .i64 u, .int .i64 d, .int .i64 m] #[.int .i64 (N 0), .bool (S 0), .int .i64 (N 1), .bool (S 1), .int .i64 (N 2), .bool (S 2), .int .i64 (N 3), .bool (S 3), .int .i64 (N 4), .bool (S 4)] #[.int .i32 x0, .int .i32 x1, .int .i32 x2, .int .i32 x3, .int .i32 x4, .int .i32 x5, .bool v] #[.int .i64 0, .bool false, .int .i64 0, .bool false, .int .i64 0, .bool false, .int .i64 0, .bool false, .int .i64 0, .bool false] 26 29 31 29
  have HW : Hid (_) := hW0
  have B0 : Hid (_) := B0'
  clear hW0 B0' Z0'
  have CK : Hid (_) := fun W => wcheck_any u d m M N (S 0) (S 1) (S 2) (S 3) (S 4) 0 W (Or.inl ⟨h, rfl⟩)
  have CS : Hid (∀ j, j < 5 → ∀ W, Calls Try.prog 13 #[.agg #[.int .i64 u, .int .i64 d, .int .i64 m], .agg #[.int .i64 (N j), .bool (S j)], .bool (B j)] W fun r w' => r = .returned (.tuple #[.agg #[.int .i64 (nn j), .bool (ss j)], .int .i64 0]) ∧ Below W.heap.size W w') := fun j hj W => by
    rw [← hs, ← hn]
    exact step_ok u d m (N j) (S j) (B j) W (h j hj).2
  have HA : Hid (∀ j, A (j + 1) = (A j || ss j)) := hA
  have HA0 : Hid (A 0 = false) := hA0
  obtain ⟨i0, i1, i2, i3, i4⟩ := ixB (B 0) (B 1) (B 2) (B 3) (B 4)
  clear h hn hs hA hA0
  go_enter Try.func7, Try.ntmps7
  go_wp2_with fail
  rw [HW.out]
  clear HW
  refine (CK.out _).mono ?_
  rintro e w1 ⟨rfl, hb⟩
  have B1 : Hid (_) := B0.out.step hb
  clear hb B0 CK
  have pl := (B1.out.blk 0 (w.heap.size) _ rfl rfl).lt
  have p0 := (B1.out.blk 0 (w.heap.size) _ rfl rfl).cell 0 _ rfl
  have p1 := (B1.out.blk 0 (w.heap.size) _ rfl rfl).cell 1 _ rfl
  have p2 := (B1.out.blk 0 (w.heap.size) _ rfl rfl).cell 2 _ rfl
  have p3 := (B1.out.blk 0 (w.heap.size) _ rfl rfl).cell 3 _ rfl
  have p4 := (B1.out.blk 0 (w.heap.size) _ rfl rfl).cell 4 _ rfl
  have p5 := (B1.out.blk 0 (w.heap.size) _ rfl rfl).cell 5 _ rfl
  have p6 := (B1.out.blk 0 (w.heap.size) _ rfl rfl).cell 6 _ rfl
  have p7 := (B1.out.blk 0 (w.heap.size) _ rfl rfl).cell 7 _ rfl
  have rl := (B1.out.blk 2 (w.heap.size + 1 + 1) _ rfl rfl).lt
  have r0 := (B1.out.blk 2 (w.heap.size + 1 + 1) _ rfl rfl).cell 0 _ rfl
  have r1 := (B1.out.blk 2 (w.heap.size + 1 + 1) _ rfl rfl).cell 1 _ rfl
  have r2 := (B1.out.blk 2 (w.heap.size + 1 + 1) _ rfl rfl).cell 2 _ rfl
  have r3 := (B1.out.blk 2 (w.heap.size + 1 + 1) _ rfl rfl).cell 3 _ rfl
  have r4 := (B1.out.blk 2 (w.heap.size + 1 + 1) _ rfl rfl).cell 4 _ rfl
  have r5 := (B1.out.blk 2 (w.heap.size + 1 + 1) _ rfl rfl).cell 5 _ rfl
  have r6 := (B1.out.blk 2 (w.heap.size + 1 + 1) _ rfl rfl).cell 6 _ rfl
  go_wp2_with fail
  refine (CL.out _).mono ?_
  rintro e w2 ⟨rfl, hb⟩
  have B2 : Hid (_) := B1.out.step hb
  clear hb B1 CL
  clear pl p0 p1 p2 p3 p4 p5 p6 p7
  clear rl r0 r1 r2 r3 r4 r5 r6
  go_wp2_with fail
  go_loopg [23, 10] (6) (fun g q s wr => ∃ j : Nat, q = .int .i64 j ∧ s = .bool (A j) ∧ 5 - j < g ∧ j ≤ 5 ∧ Hid (Lay w [[.int .i32 (M 0), .int .i32 (M 1), .int .i32 (M 2), .int .i32 (M 3), .int .i32 (M 4), .int .i64 u, .int .i64 d, .int .i64 m], [.int .i64 (upN nn N j 0), .bool (upB ss S j 0), .int .i64 (upN nn N j 1), .bool (upB ss S j 1), .int .i64 (upN nn N j 2), .bool (upB ss S j 2), .int .i64 (upN nn N j 3), .bool (upB ss S j 3), .int .i64 (upN nn N j 4), .bool (upB ss S j 4)], [.int .i32 x0, .int .i32 x1, .int .i32 x2, .int .i32 x3, .int .i32 x4, .int .i32 x5, .bool v], [.int .i64 0, .bool false, .int .i64 0, .bool false, .int .i64 0, .bool false, .int .i64 0, .bool false, .int .i64 0, .bool false]] wr))
  case atStart => exact ⟨0, rfl, by rw [HA0.out], by omega, by omega, B2⟩
  case round =>
    obtain ⟨j, rfl, rfl, hg, hj, HB⟩ := hrel
    clear B2
    by_cases hlt : j < 5
    · obtain rfl | rfl | rfl | rfl | rfl := cases5 hlt
      · have H1 : Hid (Lay w [[.int .i32 (M 0), .int .i32 (M 1), .int .i32 (M 2), .int .i32 (M 3), .int .i32 (M 4), .int .i64 u, .int .i64 d, .int .i64 m], [.int .i64 (N 0), .bool (S 0), .int .i64 (N 1), .bool (S 1), .int .i64 (N 2), .bool (S 2), .int .i64 (N 3), .bool (S 3), .int .i64 (N 4), .bool (S 4)], [.int .i32 x0, .int .i32 x1, .int .i32 x2, .int .i32 x3, .int .i32 x4, .int .i32 x5, .bool v], [.int .i64 0, .bool false, .int .i64 0, .bool false, .int .i64 0, .bool false, .int .i64 0, .bool false, .int .i64 0, .bool false]] wr) := HB
        clear HB
        have p5 := (H1.out.blk 0 (w.heap.size) _ rfl rfl).cell 5 _ rfl
        have p6 := (H1.out.blk 0 (w.heap.size) _ rfl rfl).cell 6 _ rfl
        have p7 := (H1.out.blk 0 (w.heap.size) _ rfl rfl).cell 7 _ rfl
        have pl := (H1.out.blk 0 (w.heap.size) _ rfl rfl).lt
        have q0 := (H1.out.blk 1 (w.heap.size + 1) _ rfl rfl).cell 0 _ rfl
        have q1 := (H1.out.blk 1 (w.heap.size + 1) _ rfl rfl).cell 1 _ rfl
        have ql := (H1.out.blk 1 (w.heap.size + 1) _ rfl rfl).lt
        have g0 := (H1.out.blk 1 (w.heap.size + 1) _ rfl rfl).froz 0 _ rfl
        have g1 := (H1.out.blk 1 (w.heap.size + 1) _ rfl rfl).froz 1 _ rfl
        go_upto_region 9 with (fail)
        go_cut [27] (fun s27 wc => Hid (Lay w [[.int .i32 (M 0), .int .i32 (M 1), .int .i32 (M 2), .int .i32 (M 3), .int .i32 (M 4), .int .i64 u, .int .i64 d, .int .i64 m], [.int .i64 (nn 0), .bool (ss 0), .int .i64 (N 1), .bool (S 1), .int .i64 (N 2), .bool (S 2), .int .i64 (N 3), .bool (S 3), .int .i64 (N 4), .bool (S 4)], [.int .i32 x0, .int .i32 x1, .int .i32 x2, .int .i32 x3, .int .i32 x4, .int .i32 x5, .bool v], [.int .i64 0, .bool false, .int .i64 0, .bool false, .int .i64 0, .bool false, .int .i64 0, .bool false, .int .i64 0, .bool false]] wc))
        case first =>
          go_region_with (first | (go_at_call 13; refine (CS.out 0 (by omega) _).mono ?_; rintro r w5 ⟨rfl, hb⟩; have B5 : Hid (Lay w [[.int .i32 (M 0), .int .i32 (M 1), .int .i32 (M 2), .int .i32 (M 3), .int .i32 (M 4), .int .i64 u, .int .i64 d, .int .i64 m], [.int .i64 (N 0), .bool (S 0), .int .i64 (N 1), .bool (S 1), .int .i64 (N 2), .bool (S 2), .int .i64 (N 3), .bool (S 3), .int .i64 (N 4), .bool (S 4)], [.int .i32 x0, .int .i32 x1, .int .i32 x2, .int .i32 x3, .int .i32 x4, .int .i32 x5, .bool v], [.int .i64 0, .bool false, .int .i64 0, .bool false, .int .i64 0, .bool false, .int .i64 0, .bool false, .int .i64 0, .bool false]] w5) := H1.out.drew.step hb; have c0 := (B5.out.blk 1 (w.heap.size + 1) _ rfl rfl).cell 0 _ rfl; have c1 := (B5.out.blk 1 (w.heap.size + 1) _ rfl rfl).cell 1 _ rfl; have cl := (B5.out.blk 1 (w.heap.size + 1) _ rfl rfl).lt; have d0 := (B5.out.blk 1 (w.heap.size + 1) _ rfl rfl).froz 0 _ rfl; have d1 := (B5.out.blk 1 (w.heap.size + 1) _ rfl rfl).froz 1 _ rfl; clear hb))
          all_goals (try go_wp2_with fail)
          all_goals go_meet
          all_goals exact ((B5.out.set 1 (w.heap.size + 1) 0 _ _ rfl rfl (by simp)).set 1 (w.heap.size + 1) 1 _ _ rfl rfl (by simp))
        case rest =>
          have B6 : Hid (Lay w [[.int .i32 (M 0), .int .i32 (M 1), .int .i32 (M 2), .int .i32 (M 3), .int .i32 (M 4), .int .i64 u, .int .i64 d, .int .i64 m], [.int .i64 (nn 0), .bool (ss 0), .int .i64 (N 1), .bool (S 1), .int .i64 (N 2), .bool (S 2), .int .i64 (N 3), .bool (S 3), .int .i64 (N 4), .bool (S 4)], [.int .i32 x0, .int .i32 x1, .int .i32 x2, .int .i32 x3, .int .i32 x4, .int .i32 x5, .bool v], [.int .i64 0, .bool false, .int .i64 0, .bool false, .int .i64 0, .bool false, .int .i64 0, .bool false, .int .i64 0, .bool false]] wc) := hcut
          clear hcut H1 p5 p6 p7 pl q0 q1 ql g0 g1
          have q1 := (B6.out.blk 1 (w.heap.size + 1) _ rfl rfl).cell 1 _ rfl
          have ql := (B6.out.blk 1 (w.heap.size + 1) _ rfl rfl).lt
          cases hf : A 0
          · go_wp2_with fail
            go_roundg (5 - (0 + 1) + 1)
            case measure => omega
            case rel => exact ⟨1, rfl, by rw [HA.out 0, hf]; rfl, by omega, by omega, B6⟩
          · go_wp2_with fail
            go_roundg (5 - (0 + 1) + 1)
            case measure => omega
            case rel => exact ⟨1, rfl, by rw [HA.out 0, hf]; rfl, by omega, by omega, B6⟩
      · have H1 : Hid (Lay w [[.int .i32 (M 0), .int .i32 (M 1), .int .i32 (M 2), .int .i32 (M 3), .int .i32 (M 4), .int .i64 u, .int .i64 d, .int .i64 m], [.int .i64 (nn 0), .bool (ss 0), .int .i64 (N 1), .bool (S 1), .int .i64 (N 2), .bool (S 2), .int .i64 (N 3), .bool (S 3), .int .i64 (N 4), .bool (S 4)], [.int .i32 x0, .int .i32 x1, .int .i32 x2, .int .i32 x3, .int .i32 x4, .int .i32 x5, .bool v], [.int .i64 0, .bool false, .int .i64 0, .bool false, .int .i64 0, .bool false, .int .i64 0, .bool false, .int .i64 0, .bool false]] wr) := HB
        clear HB
        have p5 := (H1.out.blk 0 (w.heap.size) _ rfl rfl).cell 5 _ rfl
        have p6 := (H1.out.blk 0 (w.heap.size) _ rfl rfl).cell 6 _ rfl
        have p7 := (H1.out.blk 0 (w.heap.size) _ rfl rfl).cell 7 _ rfl
        have pl := (H1.out.blk 0 (w.heap.size) _ rfl rfl).lt
        have q0 := (H1.out.blk 1 (w.heap.size + 1) _ rfl rfl).cell 2 _ rfl
        have q1 := (H1.out.blk 1 (w.heap.size + 1) _ rfl rfl).cell 3 _ rfl
        have ql := (H1.out.blk 1 (w.heap.size + 1) _ rfl rfl).lt
        have g0 := (H1.out.blk 1 (w.heap.size + 1) _ rfl rfl).froz 2 _ rfl
        have g1 := (H1.out.blk 1 (w.heap.size + 1) _ rfl rfl).froz 3 _ rfl
        go_upto_region 9 with (fail)
        go_cut [27] (fun s27 wc => Hid (Lay w [[.int .i32 (M 0), .int .i32 (M 1), .int .i32 (M 2), .int .i32 (M 3), .int .i32 (M 4), .int .i64 u, .int .i64 d, .int .i64 m], [.int .i64 (nn 0), .bool (ss 0), .int .i64 (nn 1), .bool (ss 1), .int .i64 (N 2), .bool (S 2), .int .i64 (N 3), .bool (S 3), .int .i64 (N 4), .bool (S 4)], [.int .i32 x0, .int .i32 x1, .int .i32 x2, .int .i32 x3, .int .i32 x4, .int .i32 x5, .bool v], [.int .i64 0, .bool false, .int .i64 0, .bool false, .int .i64 0, .bool false, .int .i64 0, .bool false, .int .i64 0, .bool false]] wc))
        case first =>
          go_region_with (first | (go_at_call 13; refine (CS.out 1 (by omega) _).mono ?_; rintro r w5 ⟨rfl, hb⟩; have B5 : Hid (Lay w [[.int .i32 (M 0), .int .i32 (M 1), .int .i32 (M 2), .int .i32 (M 3), .int .i32 (M 4), .int .i64 u, .int .i64 d, .int .i64 m], [.int .i64 (nn 0), .bool (ss 0), .int .i64 (N 1), .bool (S 1), .int .i64 (N 2), .bool (S 2), .int .i64 (N 3), .bool (S 3), .int .i64 (N 4), .bool (S 4)], [.int .i32 x0, .int .i32 x1, .int .i32 x2, .int .i32 x3, .int .i32 x4, .int .i32 x5, .bool v], [.int .i64 0, .bool false, .int .i64 0, .bool false, .int .i64 0, .bool false, .int .i64 0, .bool false, .int .i64 0, .bool false]] w5) := H1.out.drew.step hb; have c0 := (B5.out.blk 1 (w.heap.size + 1) _ rfl rfl).cell 2 _ rfl; have c1 := (B5.out.blk 1 (w.heap.size + 1) _ rfl rfl).cell 3 _ rfl; have cl := (B5.out.blk 1 (w.heap.size + 1) _ rfl rfl).lt; have d0 := (B5.out.blk 1 (w.heap.size + 1) _ rfl rfl).froz 2 _ rfl; have d1 := (B5.out.blk 1 (w.heap.size + 1) _ rfl rfl).froz 3 _ rfl; clear hb))
          all_goals (try go_wp2_with fail)
          all_goals go_meet
          all_goals exact ((B5.out.set 1 (w.heap.size + 1) 2 _ _ rfl rfl (by simp)).set 1 (w.heap.size + 1) 3 _ _ rfl rfl (by simp))
        case rest =>
          have B6 : Hid (Lay w [[.int .i32 (M 0), .int .i32 (M 1), .int .i32 (M 2), .int .i32 (M 3), .int .i32 (M 4), .int .i64 u, .int .i64 d, .int .i64 m], [.int .i64 (nn 0), .bool (ss 0), .int .i64 (nn 1), .bool (ss 1), .int .i64 (N 2), .bool (S 2), .int .i64 (N 3), .bool (S 3), .int .i64 (N 4), .bool (S 4)], [.int .i32 x0, .int .i32 x1, .int .i32 x2, .int .i32 x3, .int .i32 x4, .int .i32 x5, .bool v], [.int .i64 0, .bool false, .int .i64 0, .bool false, .int .i64 0, .bool false, .int .i64 0, .bool false, .int .i64 0, .bool false]] wc) := hcut
          clear hcut H1 p5 p6 p7 pl q0 q1 ql g0 g1
          have q1 := (B6.out.blk 1 (w.heap.size + 1) _ rfl rfl).cell 3 _ rfl
          have ql := (B6.out.blk 1 (w.heap.size + 1) _ rfl rfl).lt
          cases hf : A 1
          · go_wp2_with fail
            go_roundg (5 - (1 + 1) + 1)
            case measure => omega
            case rel => exact ⟨2, rfl, by rw [HA.out 1, hf]; rfl, by omega, by omega, B6⟩
          · go_wp2_with fail
            go_roundg (5 - (1 + 1) + 1)
            case measure => omega
            case rel => exact ⟨2, rfl, by rw [HA.out 1, hf]; rfl, by omega, by omega, B6⟩
      · have H1 : Hid (Lay w [[.int .i32 (M 0), .int .i32 (M 1), .int .i32 (M 2), .int .i32 (M 3), .int .i32 (M 4), .int .i64 u, .int .i64 d, .int .i64 m], [.int .i64 (nn 0), .bool (ss 0), .int .i64 (nn 1), .bool (ss 1), .int .i64 (N 2), .bool (S 2), .int .i64 (N 3), .bool (S 3), .int .i64 (N 4), .bool (S 4)], [.int .i32 x0, .int .i32 x1, .int .i32 x2, .int .i32 x3, .int .i32 x4, .int .i32 x5, .bool v], [.int .i64 0, .bool false, .int .i64 0, .bool false, .int .i64 0, .bool false, .int .i64 0, .bool false, .int .i64 0, .bool false]] wr) := HB
        clear HB
        have p5 := (H1.out.blk 0 (w.heap.size) _ rfl rfl).cell 5 _ rfl
        have p6 := (H1.out.blk 0 (w.heap.size) _ rfl rfl).cell 6 _ rfl
        have p7 := (H1.out.blk 0 (w.heap.size) _ rfl rfl).cell 7 _ rfl
        have pl := (H1.out.blk 0 (w.heap.size) _ rfl rfl).lt
        have q0 := (H1.out.blk 1 (w.heap.size + 1) _ rfl rfl).cell 4 _ rfl
        have q1 := (H1.out.blk 1 (w.heap.size + 1) _ rfl rfl).cell 5 _ rfl
        have ql := (H1.out.blk 1 (w.heap.size + 1) _ rfl rfl).lt
        have g0 := (H1.out.blk 1 (w.heap.size + 1) _ rfl rfl).froz 4 _ rfl
        have g1 := (H1.out.blk 1 (w.heap.size + 1) _ rfl rfl).froz 5 _ rfl
        go_upto_region 9 with (fail)
        go_cut [27] (fun s27 wc => Hid (Lay w [[.int .i32 (M 0), .int .i32 (M 1), .int .i32 (M 2), .int .i32 (M 3), .int .i32 (M 4), .int .i64 u, .int .i64 d, .int .i64 m], [.int .i64 (nn 0), .bool (ss 0), .int .i64 (nn 1), .bool (ss 1), .int .i64 (nn 2), .bool (ss 2), .int .i64 (N 3), .bool (S 3), .int .i64 (N 4), .bool (S 4)], [.int .i32 x0, .int .i32 x1, .int .i32 x2, .int .i32 x3, .int .i32 x4, .int .i32 x5, .bool v], [.int .i64 0, .bool false, .int .i64 0, .bool false, .int .i64 0, .bool false, .int .i64 0, .bool false, .int .i64 0, .bool false]] wc))
        case first =>
          go_region_with (first | (go_at_call 13; refine (CS.out 2 (by omega) _).mono ?_; rintro r w5 ⟨rfl, hb⟩; have B5 : Hid (Lay w [[.int .i32 (M 0), .int .i32 (M 1), .int .i32 (M 2), .int .i32 (M 3), .int .i32 (M 4), .int .i64 u, .int .i64 d, .int .i64 m], [.int .i64 (nn 0), .bool (ss 0), .int .i64 (nn 1), .bool (ss 1), .int .i64 (N 2), .bool (S 2), .int .i64 (N 3), .bool (S 3), .int .i64 (N 4), .bool (S 4)], [.int .i32 x0, .int .i32 x1, .int .i32 x2, .int .i32 x3, .int .i32 x4, .int .i32 x5, .bool v], [.int .i64 0, .bool false, .int .i64 0, .bool false, .int .i64 0, .bool false, .int .i64 0, .bool false, .int .i64 0, .bool false]] w5) := H1.out.drew.step hb; have c0 := (B5.out.blk 1 (w.heap.size + 1) _ rfl rfl).cell 4 _ rfl; have c1 := (B5.out.blk 1 (w.heap.size + 1) _ rfl rfl).cell 5 _ rfl; have cl := (B5.out.blk 1 (w.heap.size + 1) _ rfl rfl).lt; have d0 := (B5.out.blk 1 (w.heap.size + 1) _ rfl rfl).froz 4 _ rfl; have d1 := (B5.out.blk 1 (w.heap.size + 1) _ rfl rfl).froz 5 _ rfl; clear hb))
          all_goals (try go_wp2_with fail)
          all_goals go_meet
          all_goals exact ((B5.out.set 1 (w.heap.size + 1) 4 _ _ rfl rfl (by simp)).set 1 (w.heap.size + 1) 5 _ _ rfl rfl (by simp))
        case rest =>
          have B6 : Hid (Lay w [[.int .i32 (M 0), .int .i32 (M 1), .int .i32 (M 2), .int .i32 (M 3), .int .i32 (M 4), .int .i64 u, .int .i64 d, .int .i64 m], [.int .i64 (nn 0), .bool (ss 0), .int .i64 (nn 1), .bool (ss 1), .int .i64 (nn 2), .bool (ss 2), .int .i64 (N 3), .bool (S 3), .int .i64 (N 4), .bool (S 4)], [.int .i32 x0, .int .i32 x1, .int .i32 x2, .int .i32 x3, .int .i32 x4, .int .i32 x5, .bool v], [.int .i64 0, .bool false, .int .i64 0, .bool false, .int .i64 0, .bool false, .int .i64 0, .bool false, .int .i64 0, .bool false]] wc) := hcut
          clear hcut H1 p5 p6 p7 pl q0 q1 ql g0 g1
          have q1 := (B6.out.blk 1 (w.heap.size + 1) _ rfl rfl).cell 5 _ rfl
          have ql := (B6.out.blk 1 (w.heap.size + 1) _ rfl rfl).lt
          cases hf : A 2
          · go_wp2_with fail
            go_roundg (5 - (2 + 1) + 1)
            case measure => omega
            case rel => exact ⟨3, rfl, by rw [HA.out 2, hf]; rfl, by omega, by omega, B6⟩
          · go_wp2_with fail
            go_roundg (5 - (2 + 1) + 1)
            case measure => omega
            case rel => exact ⟨3, rfl, by rw [HA.out 2, hf]; rfl, by omega, by omega, B6⟩
      · have H1 : Hid (Lay w [[.int .i32 (M 0), .int .i32 (M 1), .int .i32 (M 2), .int .i32 (M 3), .int .i32 (M 4), .int .i64 u, .int .i64 d, .int .i64 m], [.int .i64 (nn 0), .bool (ss 0), .int .i64 (nn 1), .bool (ss 1), .int .i64 (nn 2), .bool (ss 2), .int .i64 (N 3), .bool (S 3), .int .i64 (N 4), .bool (S 4)], [.int .i32 x0, .int .i32 x1, .int .i32 x2, .int .i32 x3, .int .i32 x4, .int .i32 x5, .bool v], [.int .i64 0, .bool false, .int .i64 0, .bool false, .int .i64 0, .bool false, .int .i64 0, .bool false, .int .i64 0, .bool false]] wr) := HB
        clear HB
        have p5 := (H1.out.blk 0 (w.heap.size) _ rfl rfl).cell 5 _ rfl
        have p6 := (H1.out.blk 0 (w.heap.size) _ rfl rfl).cell 6 _ rfl
        have p7 := (H1.out.blk 0 (w.heap.size) _ rfl rfl).cell 7 _ rfl
        have pl := (H1.out.blk 0 (w.heap.size) _ rfl rfl).lt
        have q0 := (H1.out.blk 1 (w.heap.size + 1) _ rfl rfl).cell 6 _ rfl
        have q1 := (H1.out.blk 1 (w.heap.size + 1) _ rfl rfl).cell 7 _ rfl
        have ql := (H1.out.blk 1 (w.heap.size + 1) _ rfl rfl).lt
        have g0 := (H1.out.blk 1 (w.heap.size + 1) _ rfl rfl).froz 6 _ rfl
        have g1 := (H1.out.blk 1 (w.heap.size + 1) _ rfl rfl).froz 7 _ rfl
        go_upto_region 9 with (fail)
        go_cut [27] (fun s27 wc => Hid (Lay w [[.int .i32 (M 0), .int .i32 (M 1), .int .i32 (M 2), .int .i32 (M 3), .int .i32 (M 4), .int .i64 u, .int .i64 d, .int .i64 m], [.int .i64 (nn 0), .bool (ss 0), .int .i64 (nn 1), .bool (ss 1), .int .i64 (nn 2), .bool (ss 2), .int .i64 (nn 3), .bool (ss 3), .int .i64 (N 4), .bool (S 4)], [.int .i32 x0, .int .i32 x1, .int .i32 x2, .int .i32 x3, .int .i32 x4, .int .i32 x5, .bool v], [.int .i64 0, .bool false, .int .i64 0, .bool false, .int .i64 0, .bool false, .int .i64 0, .bool false, .int .i64 0, .bool false]] wc))
        case first =>
          go_region_with (first | (go_at_call 13; refine (CS.out 3 (by omega) _).mono ?_; rintro r w5 ⟨rfl, hb⟩; have B5 : Hid (Lay w [[.int .i32 (M 0), .int .i32 (M 1), .int .i32 (M 2), .int .i32 (M 3), .int .i32 (M 4), .int .i64 u, .int .i64 d, .int .i64 m], [.int .i64 (nn 0), .bool (ss 0), .int .i64 (nn 1), .bool (ss 1), .int .i64 (nn 2), .bool (ss 2), .int .i64 (N 3), .bool (S 3), .int .i64 (N 4), .bool (S 4)], [.int .i32 x0, .int .i32 x1, .int .i32 x2, .int .i32 x3, .int .i32 x4, .int .i32 x5, .bool v], [.int .i64 0, .bool false, .int .i64 0, .bool false, .int .i64 0, .bool false, .int .i64 0, .bool false, .int .i64 0, .bool false]] w5) := H1.out.drew.step hb; have c0 := (B5.out.blk 1 (w.heap.size + 1) _ rfl rfl).cell 6 _ rfl; have c1 := (B5.out.blk 1 (w.heap.size + 1) _ rfl rfl).cell 7 _ rfl; have cl := (B5.out.blk 1 (w.heap.size + 1) _ rfl rfl).lt; have d0 := (B5.out.blk 1 (w.heap.size + 1) _ rfl rfl).froz 6 _ rfl; have d1 := (B5.out.blk 1 (w.heap.size + 1) _ rfl rfl).froz 7 _ rfl; clear hb))
          all_goals (try go_wp2_with fail)
          all_goals go_meet
          all_goals exact ((B5.out.set 1 (w.heap.size + 1) 6 _ _ rfl rfl (by simp)).set 1 (w.heap.size + 1) 7 _ _ rfl rfl (by simp))
        case rest =>
          have B6 : Hid (Lay w [[.int .i32 (M 0), .int .i32 (M 1), .int .i32 (M 2), .int .i32 (M 3), .int .i32 (M 4), .int .i64 u, .int .i64 d, .int .i64 m], [.int .i64 (nn 0), .bool (ss 0), .int .i64 (nn 1), .bool (ss 1), .int .i64 (nn 2), .bool (ss 2), .int .i64 (nn 3), .bool (ss 3), .int .i64 (N 4), .bool (S 4)], [.int .i32 x0, .int .i32 x1, .int .i32 x2, .int .i32 x3, .int .i32 x4, .int .i32 x5, .bool v], [.int .i64 0, .bool false, .int .i64 0, .bool false, .int .i64 0, .bool false, .int .i64 0, .bool false, .int .i64 0, .bool false]] wc) := hcut
          clear hcut H1 p5 p6 p7 pl q0 q1 ql g0 g1
          have q1 := (B6.out.blk 1 (w.heap.size + 1) _ rfl rfl).cell 7 _ rfl
          have ql := (B6.out.blk 1 (w.heap.size + 1) _ rfl rfl).lt
          cases hf : A 3
          · go_wp2_with fail
            go_roundg (5 - (3 + 1) + 1)
            case measure => omega
            case rel => exact ⟨4, rfl, by rw [HA.out 3, hf]; rfl, by omega, by omega, B6⟩
          · go_wp2_with fail
            go_roundg (5 - (3 + 1) + 1)
            case measure => omega
            case rel => exact ⟨4, rfl, by rw [HA.out 3, hf]; rfl, by omega, by omega, B6⟩
      · have H1 : Hid (Lay w [[.int .i32 (M 0), .int .i32 (M 1), .int .i32 (M 2), .int .i32 (M 3), .int .i32 (M 4), .int .i64 u, .int .i64 d, .int .i64 m], [.int .i64 (nn 0), .bool (ss 0), .int .i64 (nn 1), .bool (ss 1), .int .i64 (nn 2), .bool (ss 2), .int .i64 (nn 3), .bool (ss 3), .int .i64 (N 4), .bool (S 4)], [.int .i32 x0, .int .i32 x1, .int .i32 x2, .int .i32 x3, .int .i32 x4, .int .i32 x5, .bool v], [.int .i64 0, .bool false, .int .i64 0, .bool false, .int .i64 0, .bool false, .int .i64 0, .bool false, .int .i64 0, .bool false]] wr) := HB
        clear HB
        have p5 := (H1.out.blk 0 (w.heap.size) _ rfl rfl).cell 5 _ rfl
        have p6 := (H1.out.blk 0 (w.heap.size) _ rfl rfl).cell 6 _ rfl
        have p7 := (H1.out.blk 0 (w.heap.size) _ rfl rfl).cell 7 _ rfl
        have pl := (H1.out.blk 0 (w.heap.size) _ rfl rfl).lt
        have q0 := (H1.out.blk 1 (w.heap.size + 1) _ rfl rfl).cell 8 _ rfl
        have q1 := (H1.out.blk 1 (w.heap.size + 1) _ rfl rfl).cell 9 _ rfl
        have ql := (H1.out.blk 1 (w.heap.size + 1) _ rfl rfl).lt
        have g0 := (H1.out.blk 1 (w.heap.size + 1) _ rfl rfl).froz 8 _ rfl
        have g1 := (H1.out.blk 1 (w.heap.size + 1) _ rfl rfl).froz 9 _ rfl
        go_upto_region 9 with (fail)
        go_cut [27] (fun s27 wc => Hid (Lay w [[.int .i32 (M 0), .int .i32 (M 1), .int .i32 (M 2), .int .i32 (M 3), .int .i32 (M 4), .int .i64 u, .int .i64 d, .int .i64 m], [.int .i64 (nn 0), .bool (ss 0), .int .i64 (nn 1), .bool (ss 1), .int .i64 (nn 2), .bool (ss 2), .int .i64 (nn 3), .bool (ss 3), .int .i64 (nn 4), .bool (ss 4)], [.int .i32 x0, .int .i32 x1, .int .i32 x2, .int .i32 x3, .int .i32 x4, .int .i32 x5, .bool v], [.int .i64 0, .bool false, .int .i64 0, .bool false, .int .i64 0, .bool false, .int .i64 0, .bool false, .int .i64 0, .bool false]] wc))
        case first =>
          go_region_with (first | (go_at_call 13; refine (CS.out 4 (by omega) _).mono ?_; rintro r w5 ⟨rfl, hb⟩; have B5 : Hid (Lay w [[.int .i32 (M 0), .int .i32 (M 1), .int .i32 (M 2), .int .i32 (M 3), .int .i32 (M 4), .int .i64 u, .int .i64 d, .int .i64 m], [.int .i64 (nn 0), .bool (ss 0), .int .i64 (nn 1), .bool (ss 1), .int .i64 (nn 2), .bool (ss 2), .int .i64 (nn 3), .bool (ss 3), .int .i64 (N 4), .bool (S 4)], [.int .i32 x0, .int .i32 x1, .int .i32 x2, .int .i32 x3, .int .i32 x4, .int .i32 x5, .bool v], [.int .i64 0, .bool false, .int .i64 0, .bool false, .int .i64 0, .bool false, .int .i64 0, .bool false, .int .i64 0, .bool false]] w5) := H1.out.drew.step hb; have c0 := (B5.out.blk 1 (w.heap.size + 1) _ rfl rfl).cell 8 _ rfl; have c1 := (B5.out.blk 1 (w.heap.size + 1) _ rfl rfl).cell 9 _ rfl; have cl := (B5.out.blk 1 (w.heap.size + 1) _ rfl rfl).lt; have d0 := (B5.out.blk 1 (w.heap.size + 1) _ rfl rfl).froz 8 _ rfl; have d1 := (B5.out.blk 1 (w.heap.size + 1) _ rfl rfl).froz 9 _ rfl; clear hb))
          all_goals (try go_wp2_with fail)
          all_goals go_meet
          all_goals exact ((B5.out.set 1 (w.heap.size + 1) 8 _ _ rfl rfl (by simp)).set 1 (w.heap.size + 1) 9 _ _ rfl rfl (by simp))
        case rest =>
          have B6 : Hid (Lay w [[.int .i32 (M 0), .int .i32 (M 1), .int .i32 (M 2), .int .i32 (M 3), .int .i32 (M 4), .int .i64 u, .int .i64 d, .int .i64 m], [.int .i64 (nn 0), .bool (ss 0), .int .i64 (nn 1), .bool (ss 1), .int .i64 (nn 2), .bool (ss 2), .int .i64 (nn 3), .bool (ss 3), .int .i64 (nn 4), .bool (ss 4)], [.int .i32 x0, .int .i32 x1, .int .i32 x2, .int .i32 x3, .int .i32 x4, .int .i32 x5, .bool v], [.int .i64 0, .bool false, .int .i64 0, .bool false, .int .i64 0, .bool false, .int .i64 0, .bool false, .int .i64 0, .bool false]] wc) := hcut
          clear hcut H1 p5 p6 p7 pl q0 q1 ql g0 g1
          have q1 := (B6.out.blk 1 (w.heap.size + 1) _ rfl rfl).cell 9 _ rfl
          have ql := (B6.out.blk 1 (w.heap.size + 1) _ rfl rfl).lt
          cases hf : A 4
          · go_wp2_with fail
            go_roundg (5 - (4 + 1) + 1)
            case measure => omega
            case rel => exact ⟨5, rfl, by rw [HA.out 4, hf]; rfl, by omega, by omega, B6⟩
          · go_wp2_with fail
            go_roundg (5 - (4 + 1) + 1)
            case measure => omega
            case rel => exact ⟨5, rfl, by rw [HA.out 4, hf]; rfl, by omega, by omega, B6⟩
    · obtain rfl : j = 5 := by omega
      have H1 : Hid (Lay w [[.int .i32 (M 0), .int .i32 (M 1), .int .i32 (M 2), .int .i32 (M 3), .int .i32 (M 4), .int .i64 u, .int .i64 d, .int .i64 m], [.int .i64 (nn 0), .bool (ss 0), .int .i64 (nn 1), .bool (ss 1), .int .i64 (nn 2), .bool (ss 2), .int .i64 (nn 3), .bool (ss 3), .int .i64 (nn 4), .bool (ss 4)], [.int .i32 x0, .int .i32 x1, .int .i32 x2, .int .i32 x3, .int .i32 x4, .int .i32 x5, .bool v], [.int .i64 0, .bool false, .int .i64 0, .bool false, .int .i64 0, .bool false, .int .i64 0, .bool false, .int .i64 0, .bool false]] wr) := HB
      clear HB
      have ql := (H1.out.blk 1 (w.heap.size + 1) _ rfl rfl).lt
      have q0 := (H1.out.blk 1 (w.heap.size + 1) _ rfl rfl).cell 0 _ rfl
      have q1 := (H1.out.blk 1 (w.heap.size + 1) _ rfl rfl).cell 1 _ rfl
      have q2 := (H1.out.blk 1 (w.heap.size + 1) _ rfl rfl).cell 2 _ rfl
      have q3 := (H1.out.blk 1 (w.heap.size + 1) _ rfl rfl).cell 3 _ rfl
      have q4 := (H1.out.blk 1 (w.heap.size + 1) _ rfl rfl).cell 4 _ rfl
      have q5 := (H1.out.blk 1 (w.heap.size + 1) _ rfl rfl).cell 5 _ rfl
      have q6 := (H1.out.blk 1 (w.heap.size + 1) _ rfl rfl).cell 6 _ rfl
      have q7 := (H1.out.blk 1 (w.heap.size + 1) _ rfl rfl).cell 7 _ rfl
      have q8 := (H1.out.blk 1 (w.heap.size + 1) _ rfl rfl).cell 8 _ rfl
      have q9 := (H1.out.blk 1 (w.heap.size + 1) _ rfl rfl).cell 9 _ rfl
      have kl := (H1.out.blk 3 (w.heap.size + 1 + 1 + 1) _ rfl rfl).lt
      have k0 := (H1.out.blk 3 (w.heap.size + 1 + 1 + 1) _ rfl rfl).cell 0 _ rfl
      have k1 := (H1.out.blk 3 (w.heap.size + 1 + 1 + 1) _ rfl rfl).cell 1 _ rfl
      have k2 := (H1.out.blk 3 (w.heap.size + 1 + 1 + 1) _ rfl rfl).cell 2 _ rfl
      have k3 := (H1.out.blk 3 (w.heap.size + 1 + 1 + 1) _ rfl rfl).cell 3 _ rfl
      have k4 := (H1.out.blk 3 (w.heap.size + 1 + 1 + 1) _ rfl rfl).cell 4 _ rfl
      have k5 := (H1.out.blk 3 (w.heap.size + 1 + 1 + 1) _ rfl rfl).cell 5 _ rfl
      have k6 := (H1.out.blk 3 (w.heap.size + 1 + 1 + 1) _ rfl rfl).cell 6 _ rfl
      have k7 := (H1.out.blk 3 (w.heap.size + 1 + 1 + 1) _ rfl rfl).cell 7 _ rfl
      have k8 := (H1.out.blk 3 (w.heap.size + 1 + 1 + 1) _ rfl rfl).cell 8 _ rfl
      have k9 := (H1.out.blk 3 (w.heap.size + 1 + 1 + 1) _ rfl rfl).cell 9 _ rfl
      have kf0 := (H1.out.blk 3 (w.heap.size + 1 + 1 + 1) _ rfl rfl).froz 0 _ rfl
      have kf1 := (H1.out.blk 3 (w.heap.size + 1 + 1 + 1) _ rfl rfl).froz 1 _ rfl
      have kf2 := (H1.out.blk 3 (w.heap.size + 1 + 1 + 1) _ rfl rfl).froz 2 _ rfl
      have kf3 := (H1.out.blk 3 (w.heap.size + 1 + 1 + 1) _ rfl rfl).froz 3 _ rfl
      have kf4 := (H1.out.blk 3 (w.heap.size + 1 + 1 + 1) _ rfl rfl).froz 4 _ rfl
      have kf5 := (H1.out.blk 3 (w.heap.size + 1 + 1 + 1) _ rfl rfl).froz 5 _ rfl
      have kf6 := (H1.out.blk 3 (w.heap.size + 1 + 1 + 1) _ rfl rfl).froz 6 _ rfl
      have kf7 := (H1.out.blk 3 (w.heap.size + 1 + 1 + 1) _ rfl rfl).froz 7 _ rfl
      have kf8 := (H1.out.blk 3 (w.heap.size + 1 + 1 + 1) _ rfl rfl).froz 8 _ rfl
      have kf9 := (H1.out.blk 3 (w.heap.size + 1 + 1 + 1) _ rfl rfl).froz 9 _ rfl
      go_wp2_with fail
      obtain ⟨w3, hw3, B3⟩ := H1.out.put10 3 (w.heap.size + 1 + 1 + 1) (.int .i64 (nn 0)) (.bool (ss 0)) (.int .i64 (nn 1)) (.bool (ss 1)) (.int .i64 (nn 2)) (.bool (ss 2)) (.int .i64 (nn 3)) (.bool (ss 3)) (.int .i64 (nn 4)) (.bool (ss 4)) rfl rfl
      rw [hw3]
      have yl := (B3.blk 3 (w.heap.size + 1 + 1 + 1) _ rfl rfl).lt
      have y0 := (B3.blk 3 (w.heap.size + 1 + 1 + 1) _ rfl rfl).cell 0 _ rfl
      have y1 := (B3.blk 3 (w.heap.size + 1 + 1 + 1) _ rfl rfl).cell 1 _ rfl
      have y2 := (B3.blk 3 (w.heap.size + 1 + 1 + 1) _ rfl rfl).cell 2 _ rfl
      have y3 := (B3.blk 3 (w.heap.size + 1 + 1 + 1) _ rfl rfl).cell 3 _ rfl
      have y4 := (B3.blk 3 (w.heap.size + 1 + 1 + 1) _ rfl rfl).cell 4 _ rfl
      have y5 := (B3.blk 3 (w.heap.size + 1 + 1 + 1) _ rfl rfl).cell 5 _ rfl
      have y6 := (B3.blk 3 (w.heap.size + 1 + 1 + 1) _ rfl rfl).cell 6 _ rfl
      have y7 := (B3.blk 3 (w.heap.size + 1 + 1 + 1) _ rfl rfl).cell 7 _ rfl
      have y8 := (B3.blk 3 (w.heap.size + 1 + 1 + 1) _ rfl rfl).cell 8 _ rfl
      have y9 := (B3.blk 3 (w.heap.size + 1 + 1 + 1) _ rfl rfl).cell 9 _ rfl
      refine bodyPost_ret (by simp [results, Try.results7, go_sem, y0, y1, y2, y3, y4, y5, y6, y7, y8, y9]; try rfl) rfl ?_
      exact ⟨rfl, B3.bel⟩

end Go.Proofs.Ythfbdnhhmnehaaa
