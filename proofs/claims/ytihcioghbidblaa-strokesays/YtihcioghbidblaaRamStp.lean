/-
  Contract of ram.Step where a body, a ram and all modes are right.
-/
import Derived.Test.YtihcioghbidblaaRamStep
namespace Go.Proofs.Ytihcioghbidblaa
open Go.RowKit
set_option linter.unusedVariables false

/-- all that Step multiplies and adds are numbers of 32 bits -/
structure BI (g lo hi p : Int) : Prop where
  g : I32 g
  lo : I32 lo
  hi : I32 hi
  p : I32 p

set_option maxHeartbeats 8000000 in
set_option maxRecDepth 100000 in
theorem ramStep_ok (g n lo hi p v p0 p1 p2 p3 a b c d l : Int) (w : World) (h : OkB g n lo hi p) (hm : OkM a ∧ OkM b ∧ OkM c ∧ OkM d) (hB : BI g lo hi p) (hp : F4 p0 p1 p2 p3) (hl : I32 l) (k f q u : Int) (hk : isM a 3 + isM b 3 + isM c 3 + isM d 3 = k) (hf : frcI l (act a p0) (act b p1) (act c p2) (act d p3) = f) (hq : posI g (n + k) lo hi p f = q) (hu : velI q p = u) :
    Calls Try.prog 30 #[.agg #[.int .i32 g, .int .i64 n, .int .i32 lo, .int .i32 hi], .agg #[.int .i32 p, .int .i32 v], .agg #[.int .i32 p0, .int .i32 p1, .int .i32 p2, .int .i32 p3], .agg #[.int .i64 a, .int .i64 b, .int .i64 c, .int .i64 d], .int .i32 l] w fun r w' => r = .returned (.tuple #[.agg #[.int .i32 q, .int .i32 u], .int .i64 0]) ∧ Below w.heap.size w w' := by
  have B0 : Hid (_) := rx_new w g n lo hi p v p0 p1 p2 p3 a b c d 0 0 23 25 64 65 25
  have C1 : Hid (_) := fun W => ramCheck_ok g n lo hi p v W h
  have C2 : Hid (_) := fun W => areModes_ok a b c d W hm.1 hm.2.1 hm.2.2.1 hm.2.2.2
  have C3 : Hid (∀ W, Calls Try.prog 48 #[.agg #[.int .i64 a, .int .i64 b, .int .i64 c, .int .i64 d], .int .i64 3] W fun r w' => r = .returned (.int .i64 k) ∧ Below W.heap.size W w') := fun W => by
    rw [← hk]
    exact howMany_any a b c d 3 W
  have C4 : Hid (∀ W, Calls Try.prog 50 #[.agg #[.int .i32 p0, .int .i32 p1, .int .i32 p2, .int .i32 p3], .agg #[.int .i64 a, .int .i64 b, .int .i64 c, .int .i64 d], .int .i32 l] W fun r w' => r = .returned (.int .i32 f) ∧ Below W.heap.size W w') := fun W => by
    rw [← hf]
    exact force_any p0 p1 p2 p3 a b c d l W hp hl
  have hfI : I32 f := by rw [← hf]; exact frcI_I _ _ _ _ _
  have hk0 : 0 ≤ k ∧ k ≤ 4 := by
    have := isM_bd a 3
    have := isM_bd b 3
    have := isM_bd c 3
    have := isM_bd d 3
    omega
  have hn0 : 0 ≤ n ∧ n ≤ 8 := ⟨h.2.2.2.1, h.2.2.2.2⟩
  have C5 : Hid (∀ W, Calls Try.prog 47 #[.int .i32 g, .int .i32 f] W fun r w' => r = .returned (.int .i32 (mulI g f)) ∧ w' = W) := fun W => mul_any _ _ hB.g.1 hB.g.2 hfI.1 hfI.2 W
  have C6 : Hid (∀ W, Calls Try.prog 49 #[.int .i32 (mulI g f), .int .i64 (-(n + k))] W fun r w' => r = .returned (.int .i32 (wayI g (n + k) f)) ∧ w' = W) := fun W => shift_any _ _ (mulI_I _ _).1 (mulI_I _ _).2 (by omega) (by omega) W
  have hw : I32 (wayI g (n + k) f) := shiftI_I (mulI_I _ _)
  unfold posI at hq
  generalize wayI g (n + k) f = y at *
  generalize mulI g f = m at *
  have C7 : Hid (∀ W, Calls Try.prog 52 #[.int .i32 p, .int .i32 y] W fun r w' => r = .returned (.int .i32 (s32 (p + y))) ∧ w' = W) := fun W => add_any _ _ hB.p.1 hB.p.2 hw.1 hw.2 W
  have C8 : Hid (∀ W, Calls Try.prog 51 #[.int .i32 (s32 (p + y)), .int .i32 lo, .int .i32 hi] W fun r w' => r = .returned (.int .i32 q) ∧ w' = W) := fun W => by
    rw [← hq]
    exact clamp_any _ _ _ W
  have hqI : I32 q := by rw [← hq]; exact clampI_I hB.lo hB.hi
  generalize s32 (p + y) = s at *
  have C9 : Hid (∀ W, Calls Try.prog 43 #[.int .i32 q, .int .i32 p] W fun r w' => r = .returned (.int .i32 u) ∧ w' = W) := fun W => by
    rw [← hu]
    exact sub_any _ _ hqI.1 hqI.2 hB.p.1 hB.p.2 W
  obtain ⟨k1, k2⟩ := hk0
  obtain ⟨n1, n2⟩ := hn0
  clear h hm hB hp hl hk hf hq hu hfI hw hqI
  go_enter Try.func30, Try.ntmps30
  go_wp2_with fail
  refine (C1.out _).mono ?_
  rintro r w1 ⟨rfl, hb⟩
  have B1 : Hid (_) := B0.out.step hb
  clear hb B0
  obtain ⟨m0, m1, m2, m3, l3⟩ := B1.out.mode
  go_wp2_with fail
  refine (C2.out _).mono ?_
  rintro r w2 ⟨rfl, hb⟩
  have B2 : Hid (_) := B1.out.step hb
  clear hb B1 m0 m1 m2 m3 l3
  obtain ⟨b0, b1, b2, b3, l0⟩ := B2.out.body
  obtain ⟨m0, m1, m2, m3, l3⟩ := B2.out.mode
  go_wp2_with fail
  go_region_held3 (fun w' => w'.cell? ⟨w.heap.size, 1, none⟩ = some (.int .i64 n) ∧ w'.cell? ⟨w.heap.size + 1 + 1 + 1, 0, none⟩ = some (.int .i64 a) ∧ w'.cell? ⟨w.heap.size + 1 + 1 + 1, 1, none⟩ = some (.int .i64 b) ∧ w'.cell? ⟨w.heap.size + 1 + 1 + 1, 2, none⟩ = some (.int .i64 c) ∧ w'.cell? ⟨w.heap.size + 1 + 1 + 1, 3, none⟩ = some (.int .i64 d)) (go_keep) (first | (go_at_call 48; refine (C3.out _).mono ?_; rintro r w3 ⟨rfl, hb⟩; have B3 : Hid (Rx w g n lo hi p v p0 p1 p2 p3 a b c d 0 0 w3) := (B2.out.step (Below.refl _ _).drew).step hb; obtain ⟨e0, e1, e2, e3, e4⟩ := B3.out.body; obtain ⟨g0, g1, g2, g3, g4⟩ := B3.out.mode; clear hb))
  clear B2 b0 b1 b2 b3 l0 m0 m1 m2 m3 l3
  have D1 : 0 ≤ n + k := by omega
  have D2 : n + k ≤ 12 := by omega
  generalize n + k = D at *
  have W1 : Hid (IntKind.i64.wrap D = D ∧ IntKind.i64.wrap (-D) = -D) := ⟨by rw [IntKind.wrap_i64]; omega, by rw [IntKind.wrap_i64]; omega⟩
  clear k1 k2 n1 n2
  obtain ⟨h0, h1, h2, h3, h4⟩ := B3.out.push
  go_wp2_with fail
  go_region_held3 (fun w' => w'.cell? ⟨w.heap.size, 0, none⟩ = some (.int .i32 g) ∧ (w'.cell? ⟨w.heap.size + 1 + 1, 0, none⟩ = some (.int .i32 p0) ∧ w'.cell? ⟨w.heap.size + 1 + 1, 1, none⟩ = some (.int .i32 p1) ∧ w'.cell? ⟨w.heap.size + 1 + 1, 2, none⟩ = some (.int .i32 p2) ∧ w'.cell? ⟨w.heap.size + 1 + 1, 3, none⟩ = some (.int .i32 p3)) ∧ w'.cell? ⟨w.heap.size + 1 + 1 + 1, 0, none⟩ = some (.int .i64 a) ∧ w'.cell? ⟨w.heap.size + 1 + 1 + 1, 1, none⟩ = some (.int .i64 b) ∧ w'.cell? ⟨w.heap.size + 1 + 1 + 1, 2, none⟩ = some (.int .i64 c) ∧ w'.cell? ⟨w.heap.size + 1 + 1 + 1, 3, none⟩ = some (.int .i64 d)) (go_keep) (first | (go_at_call 50; refine (C4.out _).mono ?_; rintro r w4 ⟨rfl, hb⟩; have B4 : Hid (Rx w g n lo hi p v p0 p1 p2 p3 a b c d 0 0 w4) := (B3.out.step (Below.refl _ _).drew).step hb; have e0' := B4.out.body.1; obtain ⟨h0', h1', h2', h3', h4'⟩ := B4.out.push; obtain ⟨g0', g1', g2', g3', g4'⟩ := B4.out.mode; clear hb) | (go_at_call 47; refine (C5.out _).mono ?_; rintro r w5 ⟨rfl, rfl⟩) | (go_at_call 49; rw [W1.out.1, W1.out.2]; refine (C6.out _).mono ?_; rintro r w5 ⟨rfl, rfl⟩))
  clear B3 e0 e1 e2 e3 e4 g0 g1 g2 g3 g4 h0 h1 h2 h3 h4 e0' h0' h1' h2' h3' h4' g0' g1' g2' g3' g4' D1 D2
  obtain ⟨b0, b1, b2, b3, l0⟩ := B4.out.body
  obtain ⟨r0, r1, l1⟩ := B4.out.ram
  go_wp2_with fail
  go_quiet (first | (go_at_call 52; exact Calls.quiet_of_same (C7.out _)) | (go_at_call 51; exact Calls.quiet_of_same (C8.out _)))
  go_wp2_with fail
  refine (C9.out _).mono ?_
  rintro r w6 ⟨rfl, rfl⟩
  have B5 : Hid (∀ e, Rx w g n lo hi p v p0 p1 p2 p3 a b c d 0 0 (w5.drewN e)) := fun e => B4.out.step (drewN_step _ e)
  obtain ⟨l2, ⟨x0, x1⟩, f0, f1⟩ := B4.out.answer
  clear B4 b0 b1 b2 b3 l0 r0 r1 l1
  go_wp2_with fail
  obtain ⟨w7, hw7, y0, y1, b7⟩ := (B5.out _).put q u
  rw [hw7]
  refine bodyPost_ret (by simp [results, Try.results30, go_sem, y0, y1]; try rfl) rfl ?_
  exact ⟨rfl, b7⟩

end Go.Proofs.Ytihcioghbidblaa
