/-
  Contracts of package pid: Check, output, next, Step. Each returns what plain functions of whole numbers give; of the memory that was there nothing turns.
-/
import Derived.Test.YtihcioghbidblaaFix
import Derived.Test.YtihcioghbidblaaBoxes
import Derived.Deep.QuietTactic
import Derived.BigQuiet
namespace Go.Proofs.Ytihcioghbidblaa
open Go.RowKit
set_option linter.unusedVariables false

/-- a number of 32 bits -/
def I32 (n : Int) : Prop := -2147483648 ≤ n ∧ n ≤ 2147483647
theorem s32_I (n : Int) : I32 (s32 n) := bnd_in (by decide)
theorem mulI_I (a b : Int) : I32 (mulI a b) := s32_I _
theorem clampI_I {a b c : Int} (hb : I32 b) (hc : I32 c) : I32 (clampI a b c) := by
  obtain ⟨b1, b2⟩ := hb
  obtain ⟨c1, c2⟩ := hc
  unfold clampI
  split
  · have := bnd_in (a := a) (b := c) (c := b) (by omega)
    exact ⟨by omega, by omega⟩
  · have := bnd_in (a := a) (b := b) (c := c) (by omega)
    exact ⟨by omega, by omega⟩
theorem clampI_in {a b c : Int} (h : b ≤ c) : b ≤ clampI a b c ∧ clampI a b c ≤ c := by
  rw [clampI_eq_le h]
  exact bnd_in h
/-- the new sum, ahead of the question whether it may be kept -/
def nsI (I lo hi s e : Int) : Int := clampI (s32 (s + mulI I e)) lo hi
/-- the output, ahead of its clamp -/
def outI (P D n e t : Int) : Int := s32 (s32 (mulI P e + n) + mulI D (s32 (e - t)))
/-- the sum that is kept: s was the old one, n is the new one, o the output -/
def kpI (lo hi s n o : Int) : Int := if (hi < o ∧ s < n) ∨ (o < lo ∧ n < s) then s else n
theorem kp_old {lo hi s n o : Int} (h : (hi < o ∧ s < n) ∨ (o < lo ∧ n < s)) : kpI lo hi s n o = s := by unfold kpI; rw [if_pos h]
theorem kp_new {lo hi s n o : Int} (h : ¬ ((hi < o ∧ s < n) ∨ (o < lo ∧ n < s))) : kpI lo hi s n o = n := by unfold kpI; rw [if_neg h]
theorem nsI_I {I lo hi s e : Int} (hl : I32 lo) (hh : I32 hi) : I32 (nsI I lo hi s e) := clampI_I hl hh
theorem outI_I (P D n e t : Int) : I32 (outI P D n e t) := s32_I _
theorem kpI_in {lo hi s n o : Int} (h : lo ≤ s ∧ s ≤ hi) (h2 : lo ≤ n ∧ n ≤ hi) : lo ≤ kpI lo hi s n o ∧ kpI lo hi s n o ≤ hi := by
  unfold kpI
  split
  · exact h
  · exact h2
theorem one_box (w : World) (x : Obj) : Below w.heap.size w (w.alloc x) := (Below.refl _ w).alloc (Nat.le_refl _) _
theorem two_boxes (w : World) (x y : Obj) : Below w.heap.size w ((w.alloc x).alloc y) := ((Below.refl _ w).alloc (Nat.le_refl _) _).alloc (by simp) _
theorem below_drewN {N : Nat} {w w' : World} (h : Below N w w') (d : Nat) : Below N w (w'.drewN d) := h.trans ⟨rfl, rfl, rfl, Nat.le_refl _, fun _ _ => rfl⟩

set_option maxHeartbeats 1000000 in
theorem check_ok (P I D lo hi s t : Int) (w : World) (h1 : lo ≤ s) (h2 : s ≤ hi) : Calls Try.prog 40 #[.agg #[.int .i32 P, .int .i32 I, .int .i32 D, .int .i32 lo, .int .i32 hi], .agg #[.int .i32 s, .int .i32 t]] w fun e w' => e = .returned (.int .i64 0) ∧ Below w.heap.size w w' := by
  have q1 : ¬ s < lo := by omega
  have q2 : ¬ hi < s := by omega
  clear h1 h2
  go_enter Try.func40, Try.ntmps40
  go_wp2_with fail
  go_ret
  exact ⟨rfl, two_boxes _ _ _⟩

set_option maxHeartbeats 1000000 in
theorem check_bad (P I D lo hi s t : Int) (w : World) (h : ¬ (lo ≤ s ∧ s ≤ hi)) : Calls Try.prog 40 #[.agg #[.int .i32 P, .int .i32 I, .int .i32 D, .int .i32 lo, .int .i32 hi], .agg #[.int .i32 s, .int .i32 t]] w fun e w' => e = .returned (.int .i64 1) ∧ Below w.heap.size w w' := by
  by_cases q1 : s < lo
  · clear h
    go_enter Try.func40, Try.ntmps40
    go_wp2_with fail
    go_ret
    exact ⟨rfl, two_boxes _ _ _⟩
  · have q2 : hi < s := by omega
    clear h
    go_enter Try.func40, Try.ntmps40
    go_wp2_with fail
    go_ret
    exact ⟨rfl, two_boxes _ _ _⟩

set_option maxHeartbeats 2000000 in
theorem output_any (P I D lo hi n e t : Int) (w : World) (hP : I32 P) (hD : I32 D) (hn : I32 n) (he : I32 e) (ht : I32 t) : Calls Try.prog 62 #[.agg #[.int .i32 P, .int .i32 I, .int .i32 D, .int .i32 lo, .int .i32 hi], .int .i32 n, .int .i32 e, .int .i32 t] w fun r w' => r = .returned (.int .i32 (outI P D n e t)) ∧ Below w.heap.size w w' := by
  have B0 : Hid (_) := one_box w (.cells #[.int .i32 P, .int .i32 I, .int .i32 D, .int .i32 lo, .int .i32 hi] 27)
  have C1 : Hid (∀ W, Calls Try.prog 47 #[.int .i32 P, .int .i32 e] W fun r w' => r = .returned (.int .i32 (mulI P e)) ∧ w' = W) := fun W => mul_any _ _ hP.1 hP.2 he.1 he.2 W
  have C2 : Hid (∀ W, Calls Try.prog 52 #[.int .i32 (mulI P e), .int .i32 n] W fun r w' => r = .returned (.int .i32 (s32 (mulI P e + n))) ∧ w' = W) := fun W => add_any _ _ (mulI_I P e).1 (mulI_I P e).2 hn.1 hn.2 W
  have C3 : Hid (∀ W, Calls Try.prog 43 #[.int .i32 e, .int .i32 t] W fun r w' => r = .returned (.int .i32 (s32 (e - t))) ∧ w' = W) := fun W => sub_any _ _ he.1 he.2 ht.1 ht.2 W
  have C4 : Hid (∀ W, Calls Try.prog 47 #[.int .i32 D, .int .i32 (s32 (e - t))] W fun r w' => r = .returned (.int .i32 (mulI D (s32 (e - t)))) ∧ w' = W) := fun W => mul_any _ _ hD.1 hD.2 (s32_I _).1 (s32_I _).2 W
  have C5 : Hid (∀ W, Calls Try.prog 52 #[.int .i32 (s32 (mulI P e + n)), .int .i32 (mulI D (s32 (e - t)))] W fun r w' => r = .returned (.int .i32 (outI P D n e t)) ∧ w' = W) := fun W => add_any _ _ (s32_I _).1 (s32_I _).2 (mulI_I _ _).1 (mulI_I _ _).2 W
  generalize outI P D n e t = o at *
  generalize mulI D (s32 (e - t)) = m2 at *
  generalize s32 (e - t) = d at *
  generalize s32 (mulI P e + n) = m1 at *
  generalize mulI P e = m0 at *
  clear hP hD hn he ht
  go_enter Try.func62, Try.ntmps62
  go_wp2_with fail
  refine (C1.out _).mono ?_
  rintro r w1 ⟨rfl, rfl⟩
  go_wp2_with fail
  refine (C2.out _).mono ?_
  rintro r w1 ⟨rfl, rfl⟩
  go_wp2_with fail
  go_quiet (first | (go_at_call 43; exact Calls.quiet_of_same (C3.out _)) | (go_at_call 47; exact Calls.quiet_of_same (C4.out _)) | (go_at_call 52; exact Calls.quiet_of_same (C5.out _)))
  go_wp2_with fail
  go_ret
  exact ⟨rfl, below_drewN B0.out _⟩

/-- the boxes of what was handed in: a gain, and what is kept -/
structure Px (w : World) (P I D lo hi s t : Int) (W : World) : Prop where
  bel : Below w.heap.size w W
  g : Cells W w.heap.size [.int .i32 P, .int .i32 I, .int .i32 D, .int .i32 lo, .int .i32 hi]
  p : Cells W (w.heap.size + 1) [.int .i32 s, .int .i32 t]
theorem Px.step {w : World} {P I D lo hi s t : Int} {W W' : World} (h : Px w P I D lo hi s t W) (hb : Below W.heap.size W W') : Px w P I D lo hi s t W' :=
  ⟨h.bel.trans (hb.mono h.bel.size), h.g.step hb, h.p.step hb⟩
theorem Px.alloc {w : World} {P I D lo hi s t : Int} {W : World} (h : Px w P I D lo hi s t W) (x : Obj) : Px w P I D lo hi s t (W.alloc x) := h.step ((Below.refl _ W).alloc (Nat.le_refl _) _)
theorem drewN_step (W : World) (d : Nat) : Below W.heap.size W (W.drewN d) := below_drewN (Below.refl _ W) d
theorem px_new (w : World) (P I D lo hi s t : Int) (t1 t2 : TypeId) : Px w P I D lo hi s t ((w.alloc (.cells #[.int .i32 P, .int .i32 I, .int .i32 D, .int .i32 lo, .int .i32 hi] t1)).alloc (.cells #[.int .i32 s, .int .i32 t] t2)) :=
  ⟨two_boxes w _ _, (cells_new w #[.int .i32 P, .int .i32 I, .int .i32 D, .int .i32 lo, .int .i32 hi] t1).alloc _, by simpa using cells_new (w.alloc (.cells #[.int .i32 P, .int .i32 I, .int .i32 D, .int .i32 lo, .int .i32 hi] t1)) #[.int .i32 s, .int .i32 t] t2⟩
theorem Px.facts {w : World} {P I D lo hi s t : Int} {W : World} (h : Px w P I D lo hi s t W) :
    (w.heap.size < W.heap.size ∧ w.heap.size + 1 < W.heap.size) ∧ (W.cell? ⟨w.heap.size, 0, none⟩ = some (.int .i32 P) ∧ W.cell? ⟨w.heap.size, 1, none⟩ = some (.int .i32 I) ∧ W.cell? ⟨w.heap.size, 2, none⟩ = some (.int .i32 D) ∧ W.cell? ⟨w.heap.size, 3, none⟩ = some (.int .i32 lo) ∧ W.cell? ⟨w.heap.size, 4, none⟩ = some (.int .i32 hi)) ∧ W.cell? ⟨w.heap.size + 1, 0, none⟩ = some (.int .i32 s) ∧ W.cell? ⟨w.heap.size + 1, 1, none⟩ = some (.int .i32 t) :=
  ⟨⟨h.g.lt, h.p.lt⟩, ⟨h.g.cell 0 _ rfl, h.g.cell 1 _ rfl, h.g.cell 2 _ rfl, h.g.cell 3 _ rfl, h.g.cell 4 _ rfl⟩, h.p.cell 0 _ rfl, h.p.cell 1 _ rfl⟩
/-- and the box of an answer, which holds a and b -/
structure Py (w : World) (P I D lo hi s t a b : Int) (W : World) : Prop where
  x : Px w P I D lo hi s t W
  r : Cells W (w.heap.size + 1 + 1) [.int .i32 a, .int .i32 b]
theorem Py.step {w : World} {P I D lo hi s t a b : Int} {W W' : World} (h : Py w P I D lo hi s t a b W) (hb : Below W.heap.size W W') : Py w P I D lo hi s t a b W' := ⟨h.x.step hb, h.r.step hb⟩
theorem py_new (w : World) (P I D lo hi s t a b : Int) (t1 t2 t3 : TypeId) : Py w P I D lo hi s t a b (((w.alloc (.cells #[.int .i32 P, .int .i32 I, .int .i32 D, .int .i32 lo, .int .i32 hi] t1)).alloc (.cells #[.int .i32 s, .int .i32 t] t2)).alloc (.cells #[.int .i32 a, .int .i32 b] t3)) :=
  ⟨(px_new w P I D lo hi s t t1 t2).alloc _, by simpa using cells_new ((w.alloc (.cells #[.int .i32 P, .int .i32 I, .int .i32 D, .int .i32 lo, .int .i32 hi] t1)).alloc (.cells #[.int .i32 s, .int .i32 t] t2)) #[.int .i32 a, .int .i32 b] t3⟩
theorem Py.facts {w : World} {P I D lo hi s t a b : Int} {W : World} (h : Py w P I D lo hi s t a b W) :
    w.heap.size + 1 + 1 < W.heap.size ∧ (W.cell? ⟨w.heap.size + 1 + 1, 0, none⟩ = some (.int .i32 a) ∧ W.cell? ⟨w.heap.size + 1 + 1, 1, none⟩ = some (.int .i32 b)) ∧ W.frozen? ⟨w.heap.size + 1 + 1, 0, none⟩ = false ∧ W.frozen? ⟨w.heap.size + 1 + 1, 1, none⟩ = false :=
  ⟨h.r.lt, ⟨h.r.cell 0 _ rfl, h.r.cell 1 _ rfl⟩, h.r.froz 0 _ rfl, h.r.froz 1 _ rfl⟩
/-- the answer laid down -/
theorem Py.put {w : World} {P I D lo hi s t a b : Int} {W : World} (h : Py w P I D lo hi s t a b W) (a' b' : Int) :
    ∃ w3, (W.setCell ⟨w.heap.size + 1 + 1, 0, none⟩ (.int .i32 a')).setCell ⟨w.heap.size + 1 + 1, 1, none⟩ (.int .i32 b') = w3 ∧ w3.cell? ⟨w.heap.size + 1 + 1, 0, none⟩ = some (.int .i32 a') ∧ w3.cell? ⟨w.heap.size + 1 + 1, 1, none⟩ = some (.int .i32 b') ∧ Below w.heap.size w w3 := by
  have c := (h.r.set (j := 0) (by simp) (.int .i32 a')).set (j := 1) (by simp) (.int .i32 b')
  exact ⟨_, rfl, c.cell 0 _ rfl, c.cell 1 _ rfl, (h.x.bel.setCell (p := ⟨w.heap.size + 1 + 1, 0, none⟩) (by simp; omega) _).setCell (p := ⟨w.heap.size + 1 + 1, 1, none⟩) (by simp; omega) _⟩

set_option maxHeartbeats 4000000 in
theorem next_any (P I D lo hi s t e : Int) (w : World) (hP : I32 P) (hI : I32 I) (hD : I32 D) (hl : I32 lo) (hh : I32 hi) (hs : I32 s) (ht : I32 t) (he : I32 e) : Calls Try.prog 57 #[.agg #[.int .i32 P, .int .i32 I, .int .i32 D, .int .i32 lo, .int .i32 hi], .agg #[.int .i32 s, .int .i32 t], .int .i32 e] w fun r w' => r = .returned (.tuple #[.agg #[.int .i32 (kpI lo hi s (nsI I lo hi s e) (outI P D (nsI I lo hi s e) e t)), .int .i32 e], .int .i32 (clampI (outI P D (nsI I lo hi s e) e t) lo hi)]) ∧ Below w.heap.size w w' := by
  have B0 : Hid (_) := py_new w P I D lo hi s t 0 0 27 49 49
  have C1 : Hid (∀ W, Calls Try.prog 47 #[.int .i32 I, .int .i32 e] W fun r w' => r = .returned (.int .i32 (mulI I e)) ∧ w' = W) := fun W => mul_any _ _ hI.1 hI.2 he.1 he.2 W
  have C2 : Hid (∀ W, Calls Try.prog 52 #[.int .i32 s, .int .i32 (mulI I e)] W fun r w' => r = .returned (.int .i32 (s32 (s + mulI I e))) ∧ w' = W) := fun W => add_any _ _ hs.1 hs.2 (mulI_I _ _).1 (mulI_I _ _).2 W
  have C3 : Hid (∀ W, Calls Try.prog 51 #[.int .i32 (s32 (s + mulI I e)), .int .i32 lo, .int .i32 hi] W fun r w' => r = .returned (.int .i32 (nsI I lo hi s e)) ∧ w' = W) := fun W => clamp_any _ _ _ W
  have hn : I32 (nsI I lo hi s e) := nsI_I hl hh
  generalize nsI I lo hi s e = n at *
  have C4 : Hid (∀ W, Calls Try.prog 62 #[.agg #[.int .i32 P, .int .i32 I, .int .i32 D, .int .i32 lo, .int .i32 hi], .int .i32 n, .int .i32 e, .int .i32 t] W fun r w' => r = .returned (.int .i32 (outI P D n e t)) ∧ Below W.heap.size W w') := fun W => output_any _ _ _ _ _ _ _ _ W hP hD hn he ht
  generalize outI P D n e t = o at *
  have C5 : Hid (∀ W, Calls Try.prog 51 #[.int .i32 o, .int .i32 lo, .int .i32 hi] W fun r w' => r = .returned (.int .i32 (clampI o lo hi)) ∧ w' = W) := fun W => clamp_any _ _ _ W
  generalize clampI o lo hi = c at *
  generalize s32 (s + mulI I e) = m1 at *
  generalize mulI I e = m0 at *
  clear hP hI hD hn he ht hs hl hh
  go_enter Try.func57, Try.ntmps57
  go_wp2_with fail
  go_quiet (first | (go_at_call 47; exact Calls.quiet_of_same (C1.out _)) | (go_at_call 52; exact Calls.quiet_of_same (C2.out _)) | (go_at_call 51; exact Calls.quiet_of_same (C3.out _)))
  go_wp2_with fail
  refine (C4.out _).mono ?_
  rintro r w1 ⟨rfl, hb⟩
  have B1 : Hid (_) := (B0.out.step (drewN_step _ _)).step hb
  clear hb B0 C1 C2 C3 C4
  obtain ⟨⟨l0, l1⟩, ⟨p0, p1, p2, p3, p4⟩, s0, s1⟩ := B1.out.x.facts
  obtain ⟨l2, ⟨r0, r1⟩, f0, f1⟩ := B1.out.facts
  go_wp2_with fail
  refine (C5.out _).mono ?_
  rintro r w2 ⟨rfl, rfl⟩
  clear C5
  by_cases q1 : hi < o
  · by_cases q2 : s < n
    · have K : Hid (kpI lo hi s n o = s) := kp_old (Or.inl ⟨q1, q2⟩)
      go_wp2_with fail
      obtain ⟨w3, hw3, y0, y1, b3⟩ := B1.out.put s e
      rw [hw3]
      refine bodyPost_ret (by simp [results, Try.results57, go_sem, y0, y1]; try rfl) rfl ?_
      exact ⟨by rw [K.out], b3⟩
    · by_cases q3 : o < lo
      · by_cases q4 : n < s
        · have K : Hid (kpI lo hi s n o = s) := kp_old (Or.inr ⟨q3, q4⟩)
          go_wp2_with fail
          obtain ⟨w3, hw3, y0, y1, b3⟩ := B1.out.put s e
          rw [hw3]
          refine bodyPost_ret (by simp [results, Try.results57, go_sem, y0, y1]; try rfl) rfl ?_
          exact ⟨by rw [K.out], b3⟩
        · have K : Hid (kpI lo hi s n o = n) := kp_new (by omega)
          go_wp2_with fail
          obtain ⟨w3, hw3, y0, y1, b3⟩ := B1.out.put n e
          rw [hw3]
          refine bodyPost_ret (by simp [results, Try.results57, go_sem, y0, y1]; try rfl) rfl ?_
          exact ⟨by rw [K.out], b3⟩
      · have K : Hid (kpI lo hi s n o = n) := kp_new (by omega)
        go_wp2_with fail
        obtain ⟨w3, hw3, y0, y1, b3⟩ := B1.out.put n e
        rw [hw3]
        refine bodyPost_ret (by simp [results, Try.results57, go_sem, y0, y1]; try rfl) rfl ?_
        exact ⟨by rw [K.out], b3⟩
  · by_cases q3 : o < lo
    · by_cases q4 : n < s
      · have K : Hid (kpI lo hi s n o = s) := kp_old (Or.inr ⟨q3, q4⟩)
        go_wp2_with fail
        obtain ⟨w3, hw3, y0, y1, b3⟩ := B1.out.put s e
        rw [hw3]
        refine bodyPost_ret (by simp [results, Try.results57, go_sem, y0, y1]; try rfl) rfl ?_
        exact ⟨by rw [K.out], b3⟩
      · have K : Hid (kpI lo hi s n o = n) := kp_new (by omega)
        go_wp2_with fail
        obtain ⟨w3, hw3, y0, y1, b3⟩ := B1.out.put n e
        rw [hw3]
        refine bodyPost_ret (by simp [results, Try.results57, go_sem, y0, y1]; try rfl) rfl ?_
        exact ⟨by rw [K.out], b3⟩
    · have K : Hid (kpI lo hi s n o = n) := kp_new (by omega)
      go_wp2_with fail
      obtain ⟨w3, hw3, y0, y1, b3⟩ := B1.out.put n e
      rw [hw3]
      refine bodyPost_ret (by simp [results, Try.results57, go_sem, y0, y1]; try rfl) rfl ?_
      exact ⟨by rw [K.out], b3⟩

end Go.Proofs.Ytihcioghbidblaa
