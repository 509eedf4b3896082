/-
  Contracts of the document's own answers (package steadref: PidErr, PidStep): the same plain functions of whole numbers as package pid's.
-/
import Derived.Test.YtihcioghbidblaaPidRun
import Derived.Test.YtihcioghbidblaaRefFix
namespace Go.Proofs.Ytihcioghbidblaa
open Go.RowKit
set_option linter.unusedVariables false

set_option maxHeartbeats 1000000 in
theorem rerr_ok (P I D lo hi s t : Int) (w : World) (h1 : lo ≤ s) (h2 : s ≤ hi) : Calls Try.prog 31 #[.agg #[.int .i32 P, .int .i32 I, .int .i32 D, .int .i32 lo, .int .i32 hi], .agg #[.int .i32 s, .int .i32 t]] w fun e w' => e = .returned (.int .i64 0) ∧ Below w.heap.size w w' := by
  go_enter Try.func31, Try.ntmps31
  go_wp2_with fail
  go_ret
  exact ⟨rfl, two_boxes _ _ _⟩

set_option maxHeartbeats 1000000 in
theorem rerr_bad (P I D lo hi s t : Int) (w : World) (h : ¬ (lo ≤ s ∧ s ≤ hi)) : Calls Try.prog 31 #[.agg #[.int .i32 P, .int .i32 I, .int .i32 D, .int .i32 lo, .int .i32 hi], .agg #[.int .i32 s, .int .i32 t]] w fun e w' => e = .returned (.int .i64 1) ∧ Below w.heap.size w w' := by
  by_cases q1 : lo ≤ s
  · have q2 : ¬ s ≤ hi := by omega
    clear h
    go_enter Try.func31, Try.ntmps31
    go_wp2_with fail
    go_ret
    exact ⟨rfl, two_boxes _ _ _⟩
  · clear h
    go_enter Try.func31, Try.ntmps31
    go_wp2_with fail
    go_ret
    exact ⟨rfl, two_boxes _ _ _⟩

set_option maxHeartbeats 4000000 in
set_option maxRecDepth 100000 in
theorem rstep_any (P I D lo hi s t e : Int) (w : World) (G : GI P I D lo hi) (hs : I32 s) (ht : I32 t) (he : I32 e) : Calls Try.prog 33 #[.agg #[.int .i32 P, .int .i32 I, .int .i32 D, .int .i32 lo, .int .i32 hi], .agg #[.int .i32 s, .int .i32 t], .int .i32 e] w fun r w' => r = .returned (.tuple #[.agg #[.int .i32 (stS P I D lo hi s t e), .int .i32 e], .int .i32 (stO P I D lo hi s t e)]) ∧ Below w.heap.size w w' := by
  have B0 : Hid (_) := py_new w P I D lo hi s t 0 0 27 49 49
  have eS : stS P I D lo hi s t e = kpI lo hi s (nsI I lo hi s e) (outI P D (nsI I lo hi s e) e t) := rfl
  have eO : stO P I D lo hi s t e = clampI (outI P D (nsI I lo hi s e) e t) lo hi := rfl
  rw [eS, eO]
  clear eS eO
  have C1 : Hid (∀ W, Calls Try.prog 22 #[.int .i32 I, .int .i32 e] W fun r w' => r = .returned (.int .i32 (mulI I e)) ∧ w' = W) := fun W => rmul_any _ _ G.I.1 G.I.2 he.1 he.2 W
  have C2 : Hid (∀ W, Calls Try.prog 34 #[.int .i64 (s + mulI I e)] W fun r w' => r = .returned (.int .i32 (s32 (s + mulI I e))) ∧ w' = W) := fun W => rsat_any _ W
  have C3 : Hid (∀ W, Calls Try.prog 39 #[.int .i32 (s32 (s + mulI I e)), .int .i32 lo, .int .i32 hi] W fun r w' => r = .returned (.int .i32 (nsI I lo hi s e)) ∧ w' = W) := fun W => rclamp_any _ _ _ (s32_I _).1 (s32_I _).2 G.lo.1 G.lo.2 G.hi.1 G.hi.2 W
  have hn : I32 (nsI I lo hi s e) := nsI_I G.lo G.hi
  generalize nsI I lo hi s e = n at *
  have C4 : Hid (∀ W, Calls Try.prog 22 #[.int .i32 P, .int .i32 e] W fun r w' => r = .returned (.int .i32 (mulI P e)) ∧ Below W.heap.size W w') := fun W => (rmul_any _ _ G.P.1 G.P.2 he.1 he.2 W).mono fun r w' h => ⟨h.1, by rw [h.2]; exact Below.refl _ _⟩
  have C5 : Hid (∀ W, Calls Try.prog 34 #[.int .i64 (mulI P e + n)] W fun r w' => r = .returned (.int .i32 (s32 (mulI P e + n))) ∧ w' = W) := fun W => rsat_any _ W
  have C6 : Hid (∀ W, Calls Try.prog 34 #[.int .i64 (e - t)] W fun r w' => r = .returned (.int .i32 (s32 (e - t))) ∧ w' = W) := fun W => rsat_any _ W
  have C7 : Hid (∀ W, Calls Try.prog 22 #[.int .i32 D, .int .i32 (s32 (e - t))] W fun r w' => r = .returned (.int .i32 (mulI D (s32 (e - t)))) ∧ w' = W) := fun W => rmul_any _ _ G.D.1 G.D.2 (s32_I _).1 (s32_I _).2 W
  have C8 : Hid (∀ W, Calls Try.prog 34 #[.int .i64 (s32 (mulI P e + n) + mulI D (s32 (e - t)))] W fun r w' => r = .returned (.int .i32 (outI P D n e t)) ∧ w' = W) := fun W => rsat_any _ W
  have i1 := mulI_I I e
  have i2 := mulI_I P e
  have i3 := s32_I (mulI P e + n)
  have i4 := mulI_I D (s32 (e - t))
  have io := outI_I P D n e t
  generalize outI P D n e t = o at *
  have C9 : Hid (∀ W, Calls Try.prog 39 #[.int .i32 o, .int .i32 lo, .int .i32 hi] W fun r w' => r = .returned (.int .i32 (clampI o lo hi)) ∧ w' = W) := fun W => rclamp_any _ _ _ io.1 io.2 G.lo.1 G.lo.2 G.hi.1 G.hi.2 W
  generalize clampI o lo hi = c at *
  generalize mulI D (s32 (e - t)) = m4 at *
  generalize s32 (mulI P e + n) = m3 at *
  generalize mulI P e = m2 at *
  generalize s32 (s + mulI I e) = m1 at *
  generalize mulI I e = m0 at *
  generalize s32 (e - t) = d at *
  obtain ⟨s1, s2⟩ := hs
  obtain ⟨t1, t2⟩ := ht
  obtain ⟨e1, e2⟩ := he
  obtain ⟨n1, n2⟩ := hn
  obtain ⟨i11, i12⟩ := i1
  obtain ⟨i21, i22⟩ := i2
  obtain ⟨i31, i32⟩ := i3
  obtain ⟨i41, i42⟩ := i4
  clear G io
  go_enter Try.func33, Try.ntmps33
  go_wp2_with fail
  go_quiet (first | (go_at_call 22; exact Calls.quiet_of_same (C1.out _)) | (go_at_call 34; exact Calls.quiet_of_same (C2.out _)) | (go_at_call 39; exact Calls.quiet_of_same (C3.out _)))
  go_wp2_with fail
  refine (C4.out _).mono ?_
  rintro r w1 ⟨rfl, hb⟩
  have B1 : Hid (_) := (B0.out.step (drewN_step _ _)).step hb
  clear hb B0 C1 C2 C3 C4
  obtain ⟨⟨l0, l1⟩, ⟨p0, p1, p2, p3, p4⟩, y0, y1⟩ := B1.out.x.facts
  obtain ⟨l2, ⟨r0, r1⟩, f0, f1⟩ := B1.out.facts
  go_wp2_with fail
  refine (C5.out _).mono ?_
  rintro r w2 ⟨rfl, rfl⟩
  go_wp2_with fail
  go_quiet (first | (go_at_call 34; exact Calls.quiet_of_same (C6.out _)) | (go_at_call 22; exact Calls.quiet_of_same (C7.out _)) | (go_at_call 34; exact Calls.quiet_of_same (C8.out _)))
  clear C5 C6 C7 C8 s1 s2 t1 t2 e1 e2 n1 n2 i11 i12 i21 i22 i31 i32 i41 i42
  have B2 : Hid (∀ d, Py w P I D lo hi s t 0 0 (w2.drewN d)) := fun d => B1.out.step (drewN_step _ _)
  clear B1
  by_cases q1 : hi < o
  · by_cases q2 : s < n
    · have K : Hid (kpI lo hi s n o = s) := kp_old (Or.inl ⟨q1, q2⟩)
      go_wp2_with fail
      refine (C9.out _).mono ?_
      rintro r w4 ⟨rfl, rfl⟩
      go_wp2_with fail
      obtain ⟨w3, hw3, y0, y1, b3⟩ := (B2.out _).put s e
      rw [hw3]
      refine bodyPost_ret (by simp [results, Try.results33, go_sem, y0, y1]; try rfl) rfl ?_
      exact ⟨by rw [K.out], b3⟩
    · by_cases q3 : o < lo
      · by_cases q4 : n < s
        · have K : Hid (kpI lo hi s n o = s) := kp_old (Or.inr ⟨q3, q4⟩)
          go_wp2_with fail
          refine (C9.out _).mono ?_
          rintro r w4 ⟨rfl, rfl⟩
          go_wp2_with fail
          obtain ⟨w3, hw3, y0, y1, b3⟩ := (B2.out _).put s e
          rw [hw3]
          refine bodyPost_ret (by simp [results, Try.results33, go_sem, y0, y1]; try rfl) rfl ?_
          exact ⟨by rw [K.out], b3⟩
        · have K : Hid (kpI lo hi s n o = n) := kp_new (by omega)
          go_wp2_with fail
          refine (C9.out _).mono ?_
          rintro r w4 ⟨rfl, rfl⟩
          go_wp2_with fail
          obtain ⟨w3, hw3, y0, y1, b3⟩ := (B2.out _).put n e
          rw [hw3]
          refine bodyPost_ret (by simp [results, Try.results33, go_sem, y0, y1]; try rfl) rfl ?_
          exact ⟨by rw [K.out], b3⟩
      · have K : Hid (kpI lo hi s n o = n) := kp_new (by omega)
        go_wp2_with fail
        refine (C9.out _).mono ?_
        rintro r w4 ⟨rfl, rfl⟩
        go_wp2_with fail
        obtain ⟨w3, hw3, y0, y1, b3⟩ := (B2.out _).put n e
        rw [hw3]
        refine bodyPost_ret (by simp [results, Try.results33, go_sem, y0, y1]; try rfl) rfl ?_
        exact ⟨by rw [K.out], b3⟩
  · by_cases q3 : o < lo
    · by_cases q4 : n < s
      · have K : Hid (kpI lo hi s n o = s) := kp_old (Or.inr ⟨q3, q4⟩)
        go_wp2_with fail
        refine (C9.out _).mono ?_
        rintro r w4 ⟨rfl, rfl⟩
        go_wp2_with fail
        obtain ⟨w3, hw3, y0, y1, b3⟩ := (B2.out _).put s e
        rw [hw3]
        refine bodyPost_ret (by simp [results, Try.results33, go_sem, y0, y1]; try rfl) rfl ?_
        exact ⟨by rw [K.out], b3⟩
      · have K : Hid (kpI lo hi s n o = n) := kp_new (by omega)
        go_wp2_with fail
        refine (C9.out _).mono ?_
        rintro r w4 ⟨rfl, rfl⟩
        go_wp2_with fail
        obtain ⟨w3, hw3, y0, y1, b3⟩ := (B2.out _).put n e
        rw [hw3]
        refine bodyPost_ret (by simp [results, Try.results33, go_sem, y0, y1]; try rfl) rfl ?_
        exact ⟨by rw [K.out], b3⟩
    · have K : Hid (kpI lo hi s n o = n) := kp_new (by omega)
      go_wp2_with fail
      refine (C9.out _).mono ?_
      rintro r w4 ⟨rfl, rfl⟩
      go_wp2_with fail
      obtain ⟨w3, hw3, y0, y1, b3⟩ := (B2.out _).put n e
      rw [hw3]
      refine bodyPost_ret (by simp [results, Try.results33, go_sem, y0, y1]; try rfl) rfl ?_
      exact ⟨by rw [K.out], b3⟩

end Go.Proofs.Ytihcioghbidblaa
