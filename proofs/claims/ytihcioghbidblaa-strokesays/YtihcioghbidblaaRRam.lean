/-
  Contracts of the document's own BodyErr and RamStep (package steadref): the same plain functions of whole numbers as package ram's, lane by lane.
-/
import Derived.Test.YtihcioghbidblaaRamStp
import Derived.Test.YtihcioghbidblaaRamFgt
import Derived.Test.YtihcioghbidblaaRMod
import Derived.Test.YtihcioghbidblaaRefFix
import Derived.Test.YtihcioghbidblaaBxs
import Derived.Handy
import Derived.BigQuiet
import Derived.Deep.LoopGhost
namespace Go.Proofs.Ytihcioghbidblaa
open Go.RowKit
set_option linter.unusedVariables false

set_option maxHeartbeats 1000000 in
theorem rbody_ok (g d lo hi p v : Int) (w : World) (h : OkB g d lo hi p) : Calls Try.prog 19 #[.agg #[.int .i32 g, .int .i64 d, .int .i32 lo, .int .i32 hi], .agg #[.int .i32 p, .int .i32 v]] w fun e w' => e = .returned (.int .i64 0) ∧ Below w.heap.size w w' := by
  obtain ⟨h1, h2, h3, h4, h5⟩ := h
  go_enter Try.func19, Try.ntmps19
  go_wp2_with fail
  go_returns
  exact ⟨rfl, two_boxes _ _ _⟩

theorem bodyWays {g d lo hi p : Int} (h : ¬ OkB g d lo hi p) : ¬ lo ≤ p ∨ (lo ≤ p ∧ ¬ p ≤ hi) ∨ (lo ≤ p ∧ p ≤ hi ∧ ¬ 0 ≤ g) ∨ (lo ≤ p ∧ p ≤ hi ∧ 0 ≤ g ∧ ¬ 0 ≤ d) ∨ (lo ≤ p ∧ p ≤ hi ∧ 0 ≤ g ∧ 0 ≤ d ∧ ¬ d ≤ 8) := by
  unfold OkB at h
  omega

set_option maxHeartbeats 4000000 in
theorem rbody_bad (g d lo hi p v : Int) (w : World) (h : ¬ OkB g d lo hi p) : Calls Try.prog 19 #[.agg #[.int .i32 g, .int .i64 d, .int .i32 lo, .int .i32 hi], .agg #[.int .i32 p, .int .i32 v]] w fun e w' => e = .returned (.int .i64 1) ∧ Below w.heap.size w w' := by
  rcases bodyWays h with q | ⟨q1, q⟩ | ⟨q1, q2, q⟩ | ⟨q1, q2, q3, q⟩ | ⟨q1, q2, q3, q4, q⟩
  all_goals clear h
  all_goals go_enter Try.func19, Try.ntmps19
  all_goals go_wp2_with fail
  all_goals go_returns
  all_goals exact ⟨rfl, two_boxes _ _ _⟩

/-- the force, lane by lane; how many are damped, added to n, lane by lane -/
def frU (l : Int) (q : Nat → Int) : Nat → Int
  | 0 => s32 (-l)
  | j + 1 => s32 (frU l q j + q j)
def dmU (n : Int) (m : Nat → Int) : Nat → Int
  | 0 => n
  | j + 1 => dmU n m j + isM (m j) 3
theorem frU_I (l : Int) (q : Nat → Int) (j : Nat) : I32 (frU l q j) := by cases j <;> exact s32_I _
theorem s32_self {x : Int} (h : I32 x) : s32 x = x := bnd_mid h.1 h.2
theorem frU_lane (l : Int) (m p : Nat → Int) (j : Nat) : ((m j == 1) = true ∧ s32 (frU l (fun j => act (m j) (p j)) j + p j) = frU l (fun j => act (m j) (p j)) (j + 1)) ∨ ((m j == 1) = false ∧ frU l (fun j => act (m j) (p j)) (j + 1) = frU l (fun j => act (m j) (p j)) j) := by
  have e : frU l (fun j => act (m j) (p j)) (j + 1) = s32 (frU l (fun j => act (m j) (p j)) j + act (m j) (p j)) := rfl
  by_cases h : m j = 1
  · left
    refine ⟨by simp [h], ?_⟩
    rw [e, h, act_yes]
  · right
    refine ⟨by simp [h], ?_⟩
    rw [e, act_no h, Int.add_zero]
    exact s32_self (frU_I _ _ _)
theorem dmU_lane (n : Int) (m : Nat → Int) (j : Nat) : ((m j == 3) = true ∧ dmU n m j + 1 = dmU n m (j + 1)) ∨ ((m j == 3) = false ∧ dmU n m (j + 1) = dmU n m j) := by
  have e : dmU n m (j + 1) = dmU n m j + isM (m j) 3 := rfl
  rcases isM_cases (m j) 3 with ⟨h1, h2⟩ | ⟨h1, h2⟩
  · exact Or.inl ⟨h1, by rw [e, h2]⟩
  · exact Or.inr ⟨h1, by rw [e, h2]; omega⟩
theorem dmU_bd (n : Int) (m : Nat → Int) (j : Nat) : n ≤ dmU n m j ∧ dmU n m j ≤ n + j := by
  induction j with
  | zero => simp [dmU]
  | succ j ih =>
    have e : dmU n m (j + 1) = dmU n m j + isM (m j) 3 := rfl
    have := isM_bd (m j) 3
    rw [e]
    omega

set_option maxHeartbeats 2000000 in
theorem rramStep_bad (g n lo hi p v p0 p1 p2 p3 a b c d l : Int) (w : World) (h : ¬ OkB g n lo hi p) : Calls Try.prog 23 #[.agg #[.int .i32 g, .int .i64 n, .int .i32 lo, .int .i32 hi], .agg #[.int .i32 p, .int .i32 v], .agg #[.int .i32 p0, .int .i32 p1, .int .i32 p2, .int .i32 p3], .agg #[.int .i64 a, .int .i64 b, .int .i64 c, .int .i64 d], .int .i32 l] w fun r w' => r = .returned (.tuple #[.agg #[.int .i32 0, .int .i32 0], .int .i64 1]) ∧ Below w.heap.size w w' := by
  have B0 : Hid (_) := lay5 w #[.int .i32 g, .int .i64 n, .int .i32 lo, .int .i32 hi] #[.int .i32 p, .int .i32 v] #[.int .i32 p0, .int .i32 p1, .int .i32 p2, .int .i32 p3] #[.int .i64 a, .int .i64 b, .int .i64 c, .int .i64 d] #[.int .i32 0, .int .i32 0] 23 25 64 65 25
  go_enter Try.func23, Try.ntmps23
  go_wp2_with fail
  refine (rbody_bad g n lo hi p v _ h).mono ?_
  rintro r w1 ⟨rfl, hb⟩
  have B1 : Hid (_) := B0.out.step hb
  clear hb B0
  have xl := (B1.out.blk 4 (w.heap.size + 1 + 1 + 1 + 1) _ rfl rfl).lt
  have x0 := (B1.out.blk 4 (w.heap.size + 1 + 1 + 1 + 1) _ rfl rfl).cell 0 _ rfl
  have x1 := (B1.out.blk 4 (w.heap.size + 1 + 1 + 1 + 1) _ rfl rfl).cell 1 _ rfl
  have xf0 := (B1.out.blk 4 (w.heap.size + 1 + 1 + 1 + 1) _ rfl rfl).froz 0 _ rfl
  have xf1 := (B1.out.blk 4 (w.heap.size + 1 + 1 + 1 + 1) _ rfl rfl).froz 1 _ rfl
  go_wp2_with fail
  obtain ⟨w7, hw7, B7⟩ := B1.out.put2 4 (w.heap.size + 1 + 1 + 1 + 1) (.int .i32 0) (.int .i32 0) rfl rfl
  rw [hw7]
  have B8 : Hid (_) := B7
  clear B7
  have yl := (B8.out.blk 4 (w.heap.size + 1 + 1 + 1 + 1) _ rfl rfl).lt
  have y0 := (B8.out.blk 4 (w.heap.size + 1 + 1 + 1 + 1) _ rfl rfl).cell 0 _ rfl
  have y1 := (B8.out.blk 4 (w.heap.size + 1 + 1 + 1 + 1) _ rfl rfl).cell 1 _ rfl
  refine bodyPost_ret (by simp [results, Try.results23, go_sem, y0, y1]; try rfl) rfl ?_
  exact ⟨rfl, B8.out.bel⟩

set_option maxHeartbeats 8000000 in
set_option maxRecDepth 100000 in
theorem rramStep_core (g n lo hi p v p0 p1 p2 p3 x0 x1 x2 x3 l : Int) (w : World) (h : OkB g n lo hi p) (hm : OkM x0 ∧ OkM x1 ∧ OkM x2 ∧ OkM x3) (hB : BI g lo hi p) (hp : F4 p0 p1 p2 p3) (hl : I32 l) (F N : Nat → Int) (q u : Int) (hF0 : F 0 = s32 (-l)) (hFI : ∀ j, I32 (F j)) (hN0 : N 0 = n) (hNb : ∀ j, n ≤ N j ∧ N j ≤ n + j)
    (hF : ∀ j, ((q4 x0 x1 x2 x3 j == 1) = true ∧ s32 (F j + q4 p0 p1 p2 p3 j) = F (j + 1)) ∨ ((q4 x0 x1 x2 x3 j == 1) = false ∧ F (j + 1) = F j))
    (hN : ∀ j, ((q4 x0 x1 x2 x3 j == 3) = true ∧ N j + 1 = N (j + 1)) ∨ ((q4 x0 x1 x2 x3 j == 3) = false ∧ N (j + 1) = N j)) (hq : posI g (N 4) lo hi p (F 4) = q) (hu : velI q p = u) :
    Calls Try.prog 23 #[.agg #[.int .i32 g, .int .i64 n, .int .i32 lo, .int .i32 hi], .agg #[.int .i32 p, .int .i32 v], .agg #[.int .i32 p0, .int .i32 p1, .int .i32 p2, .int .i32 p3], .agg #[.int .i64 x0, .int .i64 x1, .int .i64 x2, .int .i64 x3], .int .i32 l] w fun r w' => r = .returned (.tuple #[.agg #[.int .i32 q, .int .i32 u], .int .i64 0]) ∧ Below w.heap.size w w' := by
  have B0 : Hid (_) := lay5 w #[.int .i32 g, .int .i64 n, .int .i32 lo, .int .i32 hi] #[.int .i32 p, .int .i32 v] #[.int .i32 p0, .int .i32 p1, .int .i32 p2, .int .i32 p3] #[.int .i64 x0, .int .i64 x1, .int .i64 x2, .int .i64 x3] #[.int .i32 0, .int .i32 0] 23 25 64 65 25
  have C1 : Hid (_) := fun W => rbody_ok g n lo hi p v W h
  have C2 : Hid (_) := fun W => rmodes_ok x0 x1 x2 x3 W hm.1 hm.2.1 hm.2.2.1 hm.2.2.2
  have C3 : Hid (∀ W, Calls Try.prog 34 #[.int .i64 (-l)] W fun r w' => r = .returned (.int .i32 (F 0)) ∧ w' = W) := fun W => by
    rw [hF0]
    exact rsat_any _ W
  have C4 : Hid (∀ x W, Calls Try.prog 34 #[.int .i64 x] W fun r w' => r = .returned (.int .i32 (s32 x)) ∧ w' = W) := fun x W => rsat_any _ W
  have C5 : Hid (∀ W, Calls Try.prog 22 #[.int .i32 g, .int .i32 (F 4)] W fun r w' => r = .returned (.int .i32 (mulI g (F 4))) ∧ w' = W) := fun W => rmul_any _ _ hB.g.1 hB.g.2 (hFI 4).1 (hFI 4).2 W
  have C6 : Hid (∀ W, Calls Try.prog 38 #[.int .i32 (mulI g (F 4)), .int .i64 (-(N 4))] W fun r w' => r = .returned (.int .i32 (wayI g (N 4) (F 4))) ∧ w' = W) := fun W => rshift_any _ _ (mulI_I _ _).1 (mulI_I _ _).2 W
  have hw : I32 (wayI g (N 4) (F 4)) := shiftI_I (mulI_I _ _)
  unfold posI at hq
  have n4 : 0 ≤ N 4 ∧ N 4 ≤ 12 := by have := hNb 4; have := h.2.2.2; omega
  generalize wayI g (N 4) (F 4) = y at *
  generalize mulI g (F 4) = m at *
  have C8 : Hid (∀ W, Calls Try.prog 39 #[.int .i32 (s32 (p + y)), .int .i32 lo, .int .i32 hi] W fun r w' => r = .returned (.int .i32 q) ∧ w' = W) := fun W => by
    rw [← hq]
    exact rclamp_any _ _ _ (s32_I _).1 (s32_I _).2 hB.lo.1 hB.lo.2 hB.hi.1 hB.hi.2 W
  have hqI : I32 q := by rw [← hq]; exact clampI_I hB.lo hB.hi
  have C7 : Hid (∀ W, Calls Try.prog 34 #[.int .i64 (p + y)] W fun r w' => r = .returned (.int .i32 (s32 (p + y))) ∧ w' = W) := fun W => rsat_any _ W
  generalize hs : s32 (p + y) = s at C7 C8
  have C9 : Hid (∀ W, Calls Try.prog 34 #[.int .i64 (q - p)] W fun r w' => r = .returned (.int .i32 u) ∧ w' = W) := fun W => by
    rw [← hu]
    exact rsat_any _ W
  have HF : Hid (∀ j, ((q4 x0 x1 x2 x3 j == 1) = true ∧ s32 (F j + q4 p0 p1 p2 p3 j) = F (j + 1)) ∨ ((q4 x0 x1 x2 x3 j == 1) = false ∧ F (j + 1) = F j)) := hF
  have HN : Hid (∀ j, ((q4 x0 x1 x2 x3 j == 3) = true ∧ N j + 1 = N (j + 1)) ∨ ((q4 x0 x1 x2 x3 j == 3) = false ∧ N (j + 1) = N j)) := hN
  have HI : Hid (∀ j, I32 (F j)) := hFI
  have HP : Hid (F4 p0 p1 p2 p3) := hp
  have HB : Hid (∀ j, j ≤ 4 → 0 ≤ N j ∧ N j ≤ 12) := fun j hj => by have := hNb j; have := h.2.2.2; omega
  have HN0 : Hid (N 0 = n) := hN0
  have N4 : Hid (0 ≤ N 4 ∧ N 4 ≤ 12) := n4
  have HY : Hid (I32 p ∧ I32 y ∧ I32 q) := ⟨hB.p, hw, hqI⟩
  obtain ⟨l1, l2⟩ := hl
  clear h hm hB hp hF hN hF0 hFI hN0 hNb hq hu hw hqI hs n4
  go_enter Try.func23, Try.ntmps23
  go_wp2_with fail
  refine (C1.out _).mono ?_
  rintro r w1 ⟨rfl, hb⟩
  have B1 : Hid (_) := B0.out.step hb
  clear hb B0
  have ml := (B1.out.blk 3 (w.heap.size + 1 + 1 + 1) _ rfl rfl).lt
  have m0 := (B1.out.blk 3 (w.heap.size + 1 + 1 + 1) _ rfl rfl).cell 0 _ rfl
  have m1 := (B1.out.blk 3 (w.heap.size + 1 + 1 + 1) _ rfl rfl).cell 1 _ rfl
  have m2 := (B1.out.blk 3 (w.heap.size + 1 + 1 + 1) _ rfl rfl).cell 2 _ rfl
  have m3 := (B1.out.blk 3 (w.heap.size + 1 + 1 + 1) _ rfl rfl).cell 3 _ rfl
  go_wp2_with fail
  refine (C2.out _).mono ?_
  rintro r w2 ⟨rfl, hb⟩
  have B2 : Hid (_) := B1.out.step hb
  clear hb B1
  clear ml m0 m1 m2 m3
  go_wp2_with fail
  refine (C3.out _).mono ?_
  rintro r w3 ⟨rfl, rfl⟩
  go_wp2_with fail
  clear l1 l2
  go_loopg [12, 33] (5) (fun g s12 s33 wr => ∃ j : Nat, s33 = .int .i64 j ∧ s12 = .int .i32 (F j) ∧ 4 - j < g ∧ j ≤ 4 ∧ wr = w3)
  case atStart => exact ⟨0, rfl, rfl, by omega, by omega, rfl⟩
  case round =>
    obtain ⟨j, rfl, rfl, hg, hj, rfl⟩ := hrel
    have ml := (B2.out.blk 3 (w.heap.size + 1 + 1 + 1) _ rfl rfl).lt
    have m0 := (B2.out.blk 3 (w.heap.size + 1 + 1 + 1) _ rfl rfl).cell 0 _ rfl
    have m1 := (B2.out.blk 3 (w.heap.size + 1 + 1 + 1) _ rfl rfl).cell 1 _ rfl
    have m2 := (B2.out.blk 3 (w.heap.size + 1 + 1 + 1) _ rfl rfl).cell 2 _ rfl
    have m3 := (B2.out.blk 3 (w.heap.size + 1 + 1 + 1) _ rfl rfl).cell 3 _ rfl
    by_cases hlt : j < 4
    · obtain rfl | rfl | rfl | rfl := cases4 hlt
      · skip
        have tl := (B2.out.blk 2 (w.heap.size + 1 + 1) _ rfl rfl).lt
        have t0 := (B2.out.blk 2 (w.heap.size + 1 + 1) _ rfl rfl).cell 0 _ rfl
        have t1 := (B2.out.blk 2 (w.heap.size + 1 + 1) _ rfl rfl).cell 1 _ rfl
        have t2 := (B2.out.blk 2 (w.heap.size + 1 + 1) _ rfl rfl).cell 2 _ rfl
        have t3 := (B2.out.blk 2 (w.heap.size + 1 + 1) _ rfl rfl).cell 3 _ rfl
        obtain ⟨i1, i2⟩ := HI.out 0
        obtain ⟨⟨pa1, pa2⟩, ⟨pb1, pb2⟩, ⟨pc1, pc2⟩, ⟨pd1, pd2⟩⟩ := HP.out
        rcases HF.out 0 with ⟨h1, h2⟩ | ⟨h1, h2⟩
        · change (x0 == 1) = true at h1
          change s32 (F 0 + p0) = F (0 + 1) at h2
          have H2 : Hid (_) := h2
          clear h2
          go_wp2_with fail
          refine (C4.out _ _).mono ?_
          rintro r w4 ⟨rfl, rfl⟩
          go_wp2_with fail
          go_roundg (4 - (0 + 1) + 1)
          case measure => omega
          case rel => exact ⟨1, rfl, by rw [H2.out], by omega, by omega, rfl⟩
        · change (x0 == 1) = false at h1
          have H2 : Hid (F (0 + 1) = F 0) := h2
          clear h2
          go_wp2_with fail
          go_roundg (4 - (0 + 1) + 1)
          case measure => omega
          case rel => exact ⟨1, rfl, by rw [← H2.out], by omega, by omega, rfl⟩
      · skip
        have tl := (B2.out.blk 2 (w.heap.size + 1 + 1) _ rfl rfl).lt
        have t0 := (B2.out.blk 2 (w.heap.size + 1 + 1) _ rfl rfl).cell 0 _ rfl
        have t1 := (B2.out.blk 2 (w.heap.size + 1 + 1) _ rfl rfl).cell 1 _ rfl
        have t2 := (B2.out.blk 2 (w.heap.size + 1 + 1) _ rfl rfl).cell 2 _ rfl
        have t3 := (B2.out.blk 2 (w.heap.size + 1 + 1) _ rfl rfl).cell 3 _ rfl
        obtain ⟨i1, i2⟩ := HI.out 1
        obtain ⟨⟨pa1, pa2⟩, ⟨pb1, pb2⟩, ⟨pc1, pc2⟩, ⟨pd1, pd2⟩⟩ := HP.out
        rcases HF.out 1 with ⟨h1, h2⟩ | ⟨h1, h2⟩
        · change (x1 == 1) = true at h1
          change s32 (F 1 + p1) = F (1 + 1) at h2
          have H2 : Hid (_) := h2
          clear h2
          go_wp2_with fail
          refine (C4.out _ _).mono ?_
          rintro r w4 ⟨rfl, rfl⟩
          go_wp2_with fail
          go_roundg (4 - (1 + 1) + 1)
          case measure => omega
          case rel => exact ⟨2, rfl, by rw [H2.out], by omega, by omega, rfl⟩
        · change (x1 == 1) = false at h1
          have H2 : Hid (F (1 + 1) = F 1) := h2
          clear h2
          go_wp2_with fail
          go_roundg (4 - (1 + 1) + 1)
          case measure => omega
          case rel => exact ⟨2, rfl, by rw [← H2.out], by omega, by omega, rfl⟩
      · skip
        have tl := (B2.out.blk 2 (w.heap.size + 1 + 1) _ rfl rfl).lt
        have t0 := (B2.out.blk 2 (w.heap.size + 1 + 1) _ rfl rfl).cell 0 _ rfl
        have t1 := (B2.out.blk 2 (w.heap.size + 1 + 1) _ rfl rfl).cell 1 _ rfl
        have t2 := (B2.out.blk 2 (w.heap.size + 1 + 1) _ rfl rfl).cell 2 _ rfl
        have t3 := (B2.out.blk 2 (w.heap.size + 1 + 1) _ rfl rfl).cell 3 _ rfl
        obtain ⟨i1, i2⟩ := HI.out 2
        obtain ⟨⟨pa1, pa2⟩, ⟨pb1, pb2⟩, ⟨pc1, pc2⟩, ⟨pd1, pd2⟩⟩ := HP.out
        rcases HF.out 2 with ⟨h1, h2⟩ | ⟨h1, h2⟩
        · change (x2 == 1) = true at h1
          change s32 (F 2 + p2) = F (2 + 1) at h2
          have H2 : Hid (_) := h2
          clear h2
          go_wp2_with fail
          refine (C4.out _ _).mono ?_
          rintro r w4 ⟨rfl, rfl⟩
          go_wp2_with fail
          go_roundg (4 - (2 + 1) + 1)
          case measure => omega
          case rel => exact ⟨3, rfl, by rw [H2.out], by omega, by omega, rfl⟩
        · change (x2 == 1) = false at h1
          have H2 : Hid (F (2 + 1) = F 2) := h2
          clear h2
          go_wp2_with fail
          go_roundg (4 - (2 + 1) + 1)
          case measure => omega
          case rel => exact ⟨3, rfl, by rw [← H2.out], by omega, by omega, rfl⟩
      · skip
        have tl := (B2.out.blk 2 (w.heap.size + 1 + 1) _ rfl rfl).lt
        have t0 := (B2.out.blk 2 (w.heap.size + 1 + 1) _ rfl rfl).cell 0 _ rfl
        have t1 := (B2.out.blk 2 (w.heap.size + 1 + 1) _ rfl rfl).cell 1 _ rfl
        have t2 := (B2.out.blk 2 (w.heap.size + 1 + 1) _ rfl rfl).cell 2 _ rfl
        have t3 := (B2.out.blk 2 (w.heap.size + 1 + 1) _ rfl rfl).cell 3 _ rfl
        obtain ⟨i1, i2⟩ := HI.out 3
        obtain ⟨⟨pa1, pa2⟩, ⟨pb1, pb2⟩, ⟨pc1, pc2⟩, ⟨pd1, pd2⟩⟩ := HP.out
        rcases HF.out 3 with ⟨h1, h2⟩ | ⟨h1, h2⟩
        · change (x3 == 1) = true at h1
          change s32 (F 3 + p3) = F (3 + 1) at h2
          have H2 : Hid (_) := h2
          clear h2
          go_wp2_with fail
          refine (C4.out _ _).mono ?_
          rintro r w4 ⟨rfl, rfl⟩
          go_wp2_with fail
          go_roundg (4 - (3 + 1) + 1)
          case measure => omega
          case rel => exact ⟨4, rfl, by rw [H2.out], by omega, by omega, rfl⟩
        · change (x3 == 1) = false at h1
          have H2 : Hid (F (3 + 1) = F 3) := h2
          clear h2
          go_wp2_with fail
          go_roundg (4 - (3 + 1) + 1)
          case measure => omega
          case rel => exact ⟨4, rfl, by rw [← H2.out], by omega, by omega, rfl⟩
    · obtain rfl : j = 4 := by omega
      have bl := (B2.out.blk 0 (w.heap.size) _ rfl rfl).lt
      have b0 := (B2.out.blk 0 (w.heap.size) _ rfl rfl).cell 0 _ rfl
      have b1 := (B2.out.blk 0 (w.heap.size) _ rfl rfl).cell 1 _ rfl
      have b2 := (B2.out.blk 0 (w.heap.size) _ rfl rfl).cell 2 _ rfl
      have b3 := (B2.out.blk 0 (w.heap.size) _ rfl rfl).cell 3 _ rfl
      have E0 : N 0 = n := HN0.out
      go_wp2_with fail
      obtain ⟨w4, rfl⟩ : ∃ w4, w4 = wr := ⟨wr, rfl⟩
      go_loopg [14, 52] (5) (fun g s14 s52 wr => ∃ j : Nat, s52 = .int .i64 j ∧ s14 = .int .i64 (N j) ∧ 4 - j < g ∧ j ≤ 4 ∧ wr = w4)
      case atStart => exact ⟨0, rfl, by rw [E0], by omega, by omega, rfl⟩
      case round =>
        clear E0 b0 b1 b2 b3 bl m0 m1 m2 m3 ml
        obtain ⟨j, rfl, rfl, hg, hj, rfl⟩ := hrel
        obtain ⟨i0, i1, i2, i3⟩ := ixN x0 x1 x2 x3
        by_cases hlt : j < 4
        · obtain rfl | rfl | rfl | rfl := cases4 hlt
          · obtain ⟨k1, k2⟩ := HB.out 0 (by omega)
            rcases HN.out 0 with ⟨h1, h2⟩ | ⟨h1, h2⟩
            · change (x0 == 3) = true at h1
              have H2 : Hid (N 0 + 1 = N (0 + 1)) := h2
              clear h2
              go_wp2_with fail
              go_roundg (4 - (0 + 1) + 1)
              case measure => omega
              case rel => exact ⟨1, rfl, by rw [H2.out], by omega, by omega, rfl⟩
            · change (x0 == 3) = false at h1
              have H2 : Hid (N (0 + 1) = N 0) := h2
              clear h2
              go_wp2_with fail
              go_roundg (4 - (0 + 1) + 1)
              case measure => omega
              case rel => exact ⟨1, rfl, by rw [← H2.out], by omega, by omega, rfl⟩
          · obtain ⟨k1, k2⟩ := HB.out 1 (by omega)
            rcases HN.out 1 with ⟨h1, h2⟩ | ⟨h1, h2⟩
            · change (x1 == 3) = true at h1
              have H2 : Hid (N 1 + 1 = N (1 + 1)) := h2
              clear h2
              go_wp2_with fail
              go_roundg (4 - (1 + 1) + 1)
              case measure => omega
              case rel => exact ⟨2, rfl, by rw [H2.out], by omega, by omega, rfl⟩
            · change (x1 == 3) = false at h1
              have H2 : Hid (N (1 + 1) = N 1) := h2
              clear h2
              go_wp2_with fail
              go_roundg (4 - (1 + 1) + 1)
              case measure => omega
              case rel => exact ⟨2, rfl, by rw [← H2.out], by omega, by omega, rfl⟩
          · obtain ⟨k1, k2⟩ := HB.out 2 (by omega)
            rcases HN.out 2 with ⟨h1, h2⟩ | ⟨h1, h2⟩
            · change (x2 == 3) = true at h1
              have H2 : Hid (N 2 + 1 = N (2 + 1)) := h2
              clear h2
              go_wp2_with fail
              go_roundg (4 - (2 + 1) + 1)
              case measure => omega
              case rel => exact ⟨3, rfl, by rw [H2.out], by omega, by omega, rfl⟩
            · change (x2 == 3) = false at h1
              have H2 : Hid (N (2 + 1) = N 2) := h2
              clear h2
              go_wp2_with fail
              go_roundg (4 - (2 + 1) + 1)
              case measure => omega
              case rel => exact ⟨3, rfl, by rw [← H2.out], by omega, by omega, rfl⟩
          · obtain ⟨k1, k2⟩ := HB.out 3 (by omega)
            rcases HN.out 3 with ⟨h1, h2⟩ | ⟨h1, h2⟩
            · change (x3 == 3) = true at h1
              have H2 : Hid (N 3 + 1 = N (3 + 1)) := h2
              clear h2
              go_wp2_with fail
              go_roundg (4 - (3 + 1) + 1)
              case measure => omega
              case rel => exact ⟨4, rfl, by rw [H2.out], by omega, by omega, rfl⟩
            · change (x3 == 3) = false at h1
              have H2 : Hid (N (3 + 1) = N 3) := h2
              clear h2
              go_wp2_with fail
              go_roundg (4 - (3 + 1) + 1)
              case measure => omega
              case rel => exact ⟨4, rfl, by rw [← H2.out], by omega, by omega, rfl⟩
        · obtain rfl : j = 4 := by omega
          obtain ⟨k1, k2⟩ := N4.out
          have bl := (B2.out.blk 0 (w.heap.size) _ rfl rfl).lt
          have b0 := (B2.out.blk 0 (w.heap.size) _ rfl rfl).cell 0 _ rfl
          have b1 := (B2.out.blk 0 (w.heap.size) _ rfl rfl).cell 1 _ rfl
          have b2 := (B2.out.blk 0 (w.heap.size) _ rfl rfl).cell 2 _ rfl
          have b3 := (B2.out.blk 0 (w.heap.size) _ rfl rfl).cell 3 _ rfl
          go_wp2_with fail
          refine (C5.out _).mono ?_
          rintro r w4 ⟨rfl, rfl⟩
          go_wp2_with fail
          refine (C6.out _).mono ?_
          rintro r w5 ⟨rfl, rfl⟩
          have rl := (B2.out.blk 1 (w.heap.size + 1) _ rfl rfl).lt
          have r0 := (B2.out.blk 1 (w.heap.size + 1) _ rfl rfl).cell 0 _ rfl
          have r1 := (B2.out.blk 1 (w.heap.size + 1) _ rfl rfl).cell 1 _ rfl
          have W1 : Hid (IntKind.i64.wrap (IntKind.i64.wrap p + IntKind.i64.wrap y) = p + y) := by
            obtain ⟨⟨a1, a2⟩, ⟨c1, c2⟩, -⟩ := HY.out
            show IntKind.i64.wrap (IntKind.i64.wrap p + IntKind.i64.wrap y) = p + y
            rw [IntKind.wrap_i64, IntKind.wrap_i64, IntKind.wrap_i64]
            omega
          go_wp2_with fail
          go_quiet (first | (go_at_call 34; rw [W1.out]; exact Calls.quiet_of_same (C7.out _)) | (go_at_call 39; exact Calls.quiet_of_same (C8.out _)))
          obtain ⟨⟨a1, a2⟩, -, ⟨c1, c2⟩⟩ := HY.out
          go_wp2_with fail
          refine (C9.out _).mono ?_
          rintro r w6 ⟨rfl, rfl⟩
          have B5 : Hid (∀ e, Lay w _ (w5.drewN e)) := fun e => B2.out.step (drewN_step _ e)
          have xl := (B2.out.blk 4 (w.heap.size + 1 + 1 + 1 + 1) _ rfl rfl).lt
          have x0 := (B2.out.blk 4 (w.heap.size + 1 + 1 + 1 + 1) _ rfl rfl).cell 0 _ rfl
          have x1 := (B2.out.blk 4 (w.heap.size + 1 + 1 + 1 + 1) _ rfl rfl).cell 1 _ rfl
          have xf0 := (B2.out.blk 4 (w.heap.size + 1 + 1 + 1 + 1) _ rfl rfl).froz 0 _ rfl
          have xf1 := (B2.out.blk 4 (w.heap.size + 1 + 1 + 1 + 1) _ rfl rfl).froz 1 _ rfl
          go_wp2_with fail
          obtain ⟨w7, hw7, B7⟩ := (B5.out _).put2 4 (w.heap.size + 1 + 1 + 1 + 1) (.int .i32 q) (.int .i32 u) rfl rfl
          rw [hw7]
          have B8 : Hid (_) := B7
          clear B7
          have yl := (B8.out.blk 4 (w.heap.size + 1 + 1 + 1 + 1) _ rfl rfl).lt
          have y0 := (B8.out.blk 4 (w.heap.size + 1 + 1 + 1 + 1) _ rfl rfl).cell 0 _ rfl
          have y1 := (B8.out.blk 4 (w.heap.size + 1 + 1 + 1 + 1) _ rfl rfl).cell 1 _ rfl
          refine bodyPost_ret (by simp [results, Try.results23, go_sem, y0, y1]; try rfl) rfl ?_
          exact ⟨rfl, B8.out.bel⟩

/-- the document's Step of a ram: the same as package ram's -/
theorem rramStep_ok (g n lo hi p v p0 p1 p2 p3 x0 x1 x2 x3 l : Int) (w : World) (h : OkB g n lo hi p) (hm : OkM x0 ∧ OkM x1 ∧ OkM x2 ∧ OkM x3) (hB : BI g lo hi p) (hp : F4 p0 p1 p2 p3) (hl : I32 l) (k f q u : Int) (hk : isM x0 3 + isM x1 3 + isM x2 3 + isM x3 3 = k) (hf : frcI l (act x0 p0) (act x1 p1) (act x2 p2) (act x3 p3) = f) (hq : posI g (n + k) lo hi p f = q) (hu : velI q p = u) :
    Calls Try.prog 23 #[.agg #[.int .i32 g, .int .i64 n, .int .i32 lo, .int .i32 hi], .agg #[.int .i32 p, .int .i32 v], .agg #[.int .i32 p0, .int .i32 p1, .int .i32 p2, .int .i32 p3], .agg #[.int .i64 x0, .int .i64 x1, .int .i64 x2, .int .i64 x3], .int .i32 l] w fun r w' => r = .returned (.tuple #[.agg #[.int .i32 q, .int .i32 u], .int .i64 0]) ∧ Below w.heap.size w w' := by
  refine rramStep_core g n lo hi p v p0 p1 p2 p3 x0 x1 x2 x3 l w h hm hB hp hl (frU l fun j => act (q4 x0 x1 x2 x3 j) (q4 p0 p1 p2 p3 j)) (dmU n (q4 x0 x1 x2 x3)) q u rfl (fun j => frU_I _ _ _) rfl (fun j => dmU_bd _ _ _) (fun j => frU_lane _ _ _ _) (fun j => dmU_lane _ _ _) ?_ hu
  rw [← hq, ← hf, ← hk]
  show posI g (n + isM x0 3 + isM x1 3 + isM x2 3 + isM x3 3) lo hi p _ = _
  rw [show n + isM x0 3 + isM x1 3 + isM x2 3 + isM x3 3 = n + (isM x0 3 + isM x1 3 + isM x2 3 + isM x3 3) by omega]
  rfl

end Go.Proofs.Ytihcioghbidblaa
