/-
  Contracts of package even: against, Check, Step and Trim, whatever is handed in. Of the memory that was there nothing turns.
-/
import Derived.Test.YtfbokeekkbdblaaPid
import Derived.Test.YtfbokeekkbdblaaRam
import Derived.Test.YtfbokeekkbdblaaOilSup
import Derived.Test.YtfbokeekkbdblaaOilBx
namespace Go.Proofs.Ytfbokeekkbdblaa
open Go.RowKit
set_option linter.unusedVariables false

/-- the offset that goes against what the lane fights with -/
def evI (o f : Int) (n : Nat) (m : Int) : Int := clampI (s32 (o - f.tdiv (2 ^ n))) (-m) m
/-- the next offset of a lane in mode a -/
def evN (a o f : Int) (n : Nat) (m : Int) : Int := if a = 1 then evI o f n m else lowI o 0 n
theorem tdiv_I {f : Int} (hf : I32 f) (n : Nat) : I32 (f.tdiv (2 ^ n)) := by
  obtain ⟨f1, f2⟩ := hf
  have p := pow2_pos n
  have h := tdiv_bd (n := f) (b := 2 ^ n) (P := 2147483648) (by omega) (by omega)
  refine ⟨h.1, ?_⟩
  rcases Int.lt_or_le f 0 with q | q
  · have e : f.tdiv (2 ^ n) = -((-f).tdiv (2 ^ n)) := by rw [Int.neg_tdiv, Int.neg_neg]
    have : 0 ≤ (-f).tdiv (2 ^ n) := Int.tdiv_nonneg (by omega) (by omega)
    omega
  · have := tdiv_bd (n := f) (b := 2 ^ n) (P := 2147483647) (by omega) f2
    omega

set_option maxHeartbeats 2000000 in
theorem against_any (o f m : Int) (n : Nat) (ho : I32 o) (hf : I32 f) (m1 : 0 ≤ m) (m2 : m ≤ 2147483647) (hn : n ≤ 30) (w : World) : Calls Try.prog 16 #[.int .i32 o, .int .i32 f, .int .i64 n, .int .i32 m] w fun e w' => e = .returned (.int .i32 (evI o f n m)) ∧ w' = w := by
  have hq := tdiv_I hf n
  have p1 := pow2_pos n
  have p2 := pow2_le30 hn
  unfold evI
  obtain ⟨q1, q2⟩ := hq
  go_enter Try.func16, Try.ntmps16
  go_wp2_with (first | (go_at_call 14; refine (sub_any _ _ ho.1 ho.2 (by omega) (by omega) _).mono ?_; rintro e w' ⟨rfl, rfl⟩) | (go_at_call 28; refine (clamp_any _ _ _ _).mono ?_; rintro e w' ⟨rfl, rfl⟩))
  go_ret
  exact ⟨rfl, rfl⟩

/-- an offset is in its bounds; what is handed in is right -/
def InE (o m : Int) : Prop := -m ≤ o ∧ o ≤ m
def OkE (o0 o1 o2 o3 a b c d n m : Int) : Prop := (0 ≤ n ∧ n ≤ 30) ∧ 0 ≤ m ∧ (OkM a ∧ OkM b ∧ OkM c ∧ OkM d) ∧ InE o0 m ∧ InE o1 m ∧ InE o2 m ∧ InE o3 m
/-- an offset is within its bounds, or not: as a walk asks -/
def Fine (o m : Int) : Prop := ¬ o < -m ∧ ¬ m < o
def Off (o m : Int) : Prop := o < -m ∨ (¬ o < -m ∧ m < o)
theorem fine_of {o m : Int} (h : InE o m) : Fine o m := ⟨by have := h.1; omega, by have := h.2; omega⟩
theorem off_of {o m : Int} (h : ¬ InE o m) : Off o m := by
  unfold InE at h
  unfold Off
  omega
/-- the ways in which what is handed in is wrong -/
theorem evWays {o0 o1 o2 o3 a b c d n m : Int} (h : ¬ OkE o0 o1 o2 o3 a b c d n m) :
    n < 0 ∨ (¬ n < 0 ∧ 30 < n) ∨ (¬ n < 0 ∧ ¬ 30 < n ∧ m < 0) ∨ (¬ n < 0 ∧ ¬ 30 < n ∧ ¬ m < 0 ∧ ((¬ (OkM a ∧ OkM b ∧ OkM c ∧ OkM d)) ∨ ((OkM a ∧ OkM b ∧ OkM c ∧ OkM d) ∧ (Off o0 m ∨ (Fine o0 m ∧ Off o1 m) ∨ (Fine o0 m ∧ Fine o1 m ∧ Off o2 m) ∨ (Fine o0 m ∧ Fine o1 m ∧ Fine o2 m ∧ Off o3 m))))) := by
  by_cases h1 : n < 0
  · exact Or.inl h1
  by_cases h2 : 30 < n
  · exact Or.inr (Or.inl ⟨h1, h2⟩)
  by_cases h3 : m < 0
  · exact Or.inr (Or.inr (Or.inl ⟨h1, h2, h3⟩))
  refine Or.inr (Or.inr (Or.inr ⟨h1, h2, h3, ?_⟩))
  by_cases h4 : OkM a ∧ OkM b ∧ OkM c ∧ OkM d
  · refine Or.inr ⟨h4, ?_⟩
    by_cases k0 : InE o0 m
    · by_cases k1 : InE o1 m
      · by_cases k2 : InE o2 m
        · by_cases k3 : InE o3 m
          · exact absurd ⟨⟨by omega, by omega⟩, by omega, h4, k0, k1, k2, k3⟩ h
          · exact Or.inr (Or.inr (Or.inr ⟨fine_of k0, fine_of k1, fine_of k2, off_of k3⟩))
        · exact Or.inr (Or.inr (Or.inl ⟨fine_of k0, fine_of k1, off_of k2⟩))
      · exact Or.inr (Or.inl ⟨fine_of k0, off_of k1⟩)
    · exact Or.inl (off_of k0)
  · exact Or.inl h4

set_option maxHeartbeats 4000000 in
theorem evCheck_ok (o0 o1 o2 o3 a b c d n m : Int) (w : World) (h : OkE o0 o1 o2 o3 a b c d n m) (m2 : m ≤ 2147483647) : Calls Try.prog 8 #[.agg #[.int .i32 o0, .int .i32 o1, .int .i32 o2, .int .i32 o3], .agg #[.int .i64 a, .int .i64 b, .int .i64 c, .int .i64 d], .int .i64 n, .int .i32 m] w fun e w' => e = .returned (.int .i64 0) ∧ Below w.heap.size w w' := by
  obtain ⟨⟨h1, h2⟩, h3, HM, k0, k1, k2, k3⟩ := h
  have B0 : Hid (_) := lay2 w #[.int .i32 o0, .int .i32 o1, .int .i32 o2, .int .i32 o3] #[.int .i64 a, .int .i64 b, .int .i64 c, .int .i64 d] 22 23
  have n1 : ¬ n < 0 := by omega
  have n2 : ¬ 30 < n := by omega
  have m1 : ¬ m < 0 := by omega
  obtain ⟨x0, y0⟩ := fine_of k0
  obtain ⟨x1, y1⟩ := fine_of k1
  obtain ⟨x2, y2⟩ := fine_of k2
  obtain ⟨x3, y3⟩ := fine_of k3
  clear h1 h2 k0 k1 k2 k3
  obtain ⟨i0, i1, i2, i3⟩ := ixI o0 o1 o2 o3
  go_enter Try.func8, Try.ntmps8
  go_wp2_with fail
  refine (areModes_ok a b c d _ HM.1 HM.2.1 HM.2.2.1 HM.2.2.2).mono ?_
  rintro r w1 ⟨rfl, hb⟩
  have B1 : Hid (_) := B0.out.step hb
  clear hb B0
  have ul := (B1.out.blk 0 (w.heap.size) _ rfl rfl).lt
  have u0 := (B1.out.blk 0 (w.heap.size) _ rfl rfl).cell 0 _ rfl
  have u1 := (B1.out.blk 0 (w.heap.size) _ rfl rfl).cell 1 _ rfl
  have u2 := (B1.out.blk 0 (w.heap.size) _ rfl rfl).cell 2 _ rfl
  have u3 := (B1.out.blk 0 (w.heap.size) _ rfl rfl).cell 3 _ rfl
  go_wp2_with fail
  go_rounds 5
  go_returns
  exact ⟨rfl, B1.out.bel⟩

set_option maxHeartbeats 8000000 in
theorem evCheck_bad (o0 o1 o2 o3 a b c d n m : Int) (w : World) (h : ¬ OkE o0 o1 o2 o3 a b c d n m) (m2 : m ≤ 2147483647) : Calls Try.prog 8 #[.agg #[.int .i32 o0, .int .i32 o1, .int .i32 o2, .int .i32 o3], .agg #[.int .i64 a, .int .i64 b, .int .i64 c, .int .i64 d], .int .i64 n, .int .i32 m] w fun e w' => e = .returned (.int .i64 1) ∧ Below w.heap.size w w' := by
  have B0 : Hid (_) := lay2 w #[.int .i32 o0, .int .i32 o1, .int .i32 o2, .int .i32 o3] #[.int .i64 a, .int .i64 b, .int .i64 c, .int .i64 d] 22 23
  obtain ⟨i0, i1, i2, i3⟩ := ixI o0 o1 o2 o3
  rcases evWays h with q1 | ⟨q1, q2⟩ | ⟨q1, q2, q3⟩ | ⟨q1, q2, q3, hm | ⟨hm, z | ⟨⟨x0, y0⟩, z⟩ | ⟨⟨x0, y0⟩, ⟨x1, y1⟩, z⟩ | ⟨⟨x0, y0⟩, ⟨x1, y1⟩, ⟨x2, y2⟩, z⟩⟩⟩
  · clear h
    go_enter Try.func8, Try.ntmps8
    go_wp2_with fail
    go_returns
    exact ⟨rfl, by go_grown⟩
  · clear h
    go_enter Try.func8, Try.ntmps8
    go_wp2_with fail
    go_returns
    exact ⟨rfl, by go_grown⟩
  · clear h
    go_enter Try.func8, Try.ntmps8
    go_wp2_with fail
    go_returns
    exact ⟨rfl, by go_grown⟩
  · clear h
    have HM : Hid (_) := hm
    clear hm
    go_enter Try.func8, Try.ntmps8
    go_wp2_with fail
    refine (areModes_bad a b c d _ HM.out).mono ?_
    rintro r w1 ⟨rfl, hb⟩
    have B1 : Hid (_) := B0.out.step hb
    clear hb B0
    go_wp2_with fail
    go_returns
    exact ⟨rfl, B1.out.bel⟩
  · clear h
    have HM : Hid (_) := hm
    clear hm
    rcases z with z | ⟨z, z2⟩
    · go_enter Try.func8, Try.ntmps8
      go_wp2_with fail
      refine (areModes_ok a b c d _ HM.out.1 HM.out.2.1 HM.out.2.2.1 HM.out.2.2.2).mono ?_
      rintro r w1 ⟨rfl, hb⟩
      have B1 : Hid (_) := B0.out.step hb
      clear hb B0
      have ul := (B1.out.blk 0 (w.heap.size) _ rfl rfl).lt
      have u0 := (B1.out.blk 0 (w.heap.size) _ rfl rfl).cell 0 _ rfl
      have u1 := (B1.out.blk 0 (w.heap.size) _ rfl rfl).cell 1 _ rfl
      have u2 := (B1.out.blk 0 (w.heap.size) _ rfl rfl).cell 2 _ rfl
      have u3 := (B1.out.blk 0 (w.heap.size) _ rfl rfl).cell 3 _ rfl
      go_wp2_with fail
      go_rounds 1
      go_returns
      exact ⟨rfl, B1.out.bel⟩
    · go_enter Try.func8, Try.ntmps8
      go_wp2_with fail
      refine (areModes_ok a b c d _ HM.out.1 HM.out.2.1 HM.out.2.2.1 HM.out.2.2.2).mono ?_
      rintro r w1 ⟨rfl, hb⟩
      have B1 : Hid (_) := B0.out.step hb
      clear hb B0
      have ul := (B1.out.blk 0 (w.heap.size) _ rfl rfl).lt
      have u0 := (B1.out.blk 0 (w.heap.size) _ rfl rfl).cell 0 _ rfl
      have u1 := (B1.out.blk 0 (w.heap.size) _ rfl rfl).cell 1 _ rfl
      have u2 := (B1.out.blk 0 (w.heap.size) _ rfl rfl).cell 2 _ rfl
      have u3 := (B1.out.blk 0 (w.heap.size) _ rfl rfl).cell 3 _ rfl
      go_wp2_with fail
      go_rounds 1
      go_returns
      exact ⟨rfl, B1.out.bel⟩
  · clear h
    have HM : Hid (_) := hm
    clear hm
    rcases z with z | ⟨z, z2⟩
    · go_enter Try.func8, Try.ntmps8
      go_wp2_with fail
      refine (areModes_ok a b c d _ HM.out.1 HM.out.2.1 HM.out.2.2.1 HM.out.2.2.2).mono ?_
      rintro r w1 ⟨rfl, hb⟩
      have B1 : Hid (_) := B0.out.step hb
      clear hb B0
      have ul := (B1.out.blk 0 (w.heap.size) _ rfl rfl).lt
      have u0 := (B1.out.blk 0 (w.heap.size) _ rfl rfl).cell 0 _ rfl
      have u1 := (B1.out.blk 0 (w.heap.size) _ rfl rfl).cell 1 _ rfl
      have u2 := (B1.out.blk 0 (w.heap.size) _ rfl rfl).cell 2 _ rfl
      have u3 := (B1.out.blk 0 (w.heap.size) _ rfl rfl).cell 3 _ rfl
      go_wp2_with fail
      go_rounds 2
      go_returns
      exact ⟨rfl, B1.out.bel⟩
    · go_enter Try.func8, Try.ntmps8
      go_wp2_with fail
      refine (areModes_ok a b c d _ HM.out.1 HM.out.2.1 HM.out.2.2.1 HM.out.2.2.2).mono ?_
      rintro r w1 ⟨rfl, hb⟩
      have B1 : Hid (_) := B0.out.step hb
      clear hb B0
      have ul := (B1.out.blk 0 (w.heap.size) _ rfl rfl).lt
      have u0 := (B1.out.blk 0 (w.heap.size) _ rfl rfl).cell 0 _ rfl
      have u1 := (B1.out.blk 0 (w.heap.size) _ rfl rfl).cell 1 _ rfl
      have u2 := (B1.out.blk 0 (w.heap.size) _ rfl rfl).cell 2 _ rfl
      have u3 := (B1.out.blk 0 (w.heap.size) _ rfl rfl).cell 3 _ rfl
      go_wp2_with fail
      go_rounds 2
      go_returns
      exact ⟨rfl, B1.out.bel⟩
  · clear h
    have HM : Hid (_) := hm
    clear hm
    rcases z with z | ⟨z, z2⟩
    · go_enter Try.func8, Try.ntmps8
      go_wp2_with fail
      refine (areModes_ok a b c d _ HM.out.1 HM.out.2.1 HM.out.2.2.1 HM.out.2.2.2).mono ?_
      rintro r w1 ⟨rfl, hb⟩
      have B1 : Hid (_) := B0.out.step hb
      clear hb B0
      have ul := (B1.out.blk 0 (w.heap.size) _ rfl rfl).lt
      have u0 := (B1.out.blk 0 (w.heap.size) _ rfl rfl).cell 0 _ rfl
      have u1 := (B1.out.blk 0 (w.heap.size) _ rfl rfl).cell 1 _ rfl
      have u2 := (B1.out.blk 0 (w.heap.size) _ rfl rfl).cell 2 _ rfl
      have u3 := (B1.out.blk 0 (w.heap.size) _ rfl rfl).cell 3 _ rfl
      go_wp2_with fail
      go_rounds 3
      go_returns
      exact ⟨rfl, B1.out.bel⟩
    · go_enter Try.func8, Try.ntmps8
      go_wp2_with fail
      refine (areModes_ok a b c d _ HM.out.1 HM.out.2.1 HM.out.2.2.1 HM.out.2.2.2).mono ?_
      rintro r w1 ⟨rfl, hb⟩
      have B1 : Hid (_) := B0.out.step hb
      clear hb B0
      have ul := (B1.out.blk 0 (w.heap.size) _ rfl rfl).lt
      have u0 := (B1.out.blk 0 (w.heap.size) _ rfl rfl).cell 0 _ rfl
      have u1 := (B1.out.blk 0 (w.heap.size) _ rfl rfl).cell 1 _ rfl
      have u2 := (B1.out.blk 0 (w.heap.size) _ rfl rfl).cell 2 _ rfl
      have u3 := (B1.out.blk 0 (w.heap.size) _ rfl rfl).cell 3 _ rfl
      go_wp2_with fail
      go_rounds 3
      go_returns
      exact ⟨rfl, B1.out.bel⟩
  · clear h
    have HM : Hid (_) := hm
    clear hm
    rcases z with z | ⟨z, z2⟩
    · go_enter Try.func8, Try.ntmps8
      go_wp2_with fail
      refine (areModes_ok a b c d _ HM.out.1 HM.out.2.1 HM.out.2.2.1 HM.out.2.2.2).mono ?_
      rintro r w1 ⟨rfl, hb⟩
      have B1 : Hid (_) := B0.out.step hb
      clear hb B0
      have ul := (B1.out.blk 0 (w.heap.size) _ rfl rfl).lt
      have u0 := (B1.out.blk 0 (w.heap.size) _ rfl rfl).cell 0 _ rfl
      have u1 := (B1.out.blk 0 (w.heap.size) _ rfl rfl).cell 1 _ rfl
      have u2 := (B1.out.blk 0 (w.heap.size) _ rfl rfl).cell 2 _ rfl
      have u3 := (B1.out.blk 0 (w.heap.size) _ rfl rfl).cell 3 _ rfl
      go_wp2_with fail
      go_rounds 4
      go_returns
      exact ⟨rfl, B1.out.bel⟩
    · go_enter Try.func8, Try.ntmps8
      go_wp2_with fail
      refine (areModes_ok a b c d _ HM.out.1 HM.out.2.1 HM.out.2.2.1 HM.out.2.2.2).mono ?_
      rintro r w1 ⟨rfl, hb⟩
      have B1 : Hid (_) := B0.out.step hb
      clear hb B0
      have ul := (B1.out.blk 0 (w.heap.size) _ rfl rfl).lt
      have u0 := (B1.out.blk 0 (w.heap.size) _ rfl rfl).cell 0 _ rfl
      have u1 := (B1.out.blk 0 (w.heap.size) _ rfl rfl).cell 1 _ rfl
      have u2 := (B1.out.blk 0 (w.heap.size) _ rfl rfl).cell 2 _ rfl
      have u3 := (B1.out.blk 0 (w.heap.size) _ rfl rfl).cell 3 _ rfl
      go_wp2_with fail
      go_rounds 4
      go_returns
      exact ⟨rfl, B1.out.bel⟩

theorem bxs_four (w : World) (a b c d : Array Value) (t1 t2 t3 t4 : TypeId) : Bxs w [(w.heap.size, a.toList), (w.heap.size + 1, b.toList), (w.heap.size + 1 + 1, c.toList), (w.heap.size + 1 + 1 + 1, d.toList)] ((((w.alloc (.cells a t1)).alloc (.cells b t2)).alloc (.cells c t3)).alloc (.cells d t4)) := by
  have := ((((bxs_nil w).push a t1).push b t2).push c t3).push d t4
  simp only [lay_size] at this
  exact this
theorem Bxs.put4 {w : World} {L : List (Nat × List Value)} {W : World} (h : Bxs w L W) (i b : Nat) {a0 a1 a2 a3 : Value} (v0 v1 v2 v3 : Value) (hi : L[i]? = some (b, [a0, a1, a2, a3])) :
    ∃ w3, ((((W.setCell ⟨b, 0, none⟩ v0).setCell ⟨b, 1, none⟩ v1).setCell ⟨b, 2, none⟩ v2).setCell ⟨b, 3, none⟩ v3) = w3 ∧ Bxs w (L.set i (b, [v0, v1, v2, v3])) w3 :=
  ⟨_, rfl, (((h.set i b 0 [a0, a1, a2, a3] v0 hi (by simp)).again (j := 1) v1 hi (by simp)).again (j := 2) v2 hi (by simp)).again (j := 3) v3 hi (by simp)⟩
/-- the boxes of what came in (three lists of four), the answer's, and one in which the first j of S lie -/
def Ev (w : World) (O F M S : Nat → Int) (N j : Nat) (W : World) : Prop :=
  Bxs w [(w.heap.size, [.int .i32 (O 0), .int .i32 (O 1), .int .i32 (O 2), .int .i32 (O 3)]), (w.heap.size + 1, [.int .i32 (F 0), .int .i32 (F 1), .int .i32 (F 2), .int .i32 (F 3)]), (w.heap.size + 1 + 1, [.int .i64 (M 0), .int .i64 (M 1), .int .i64 (M 2), .int .i64 (M 3)]), (w.heap.size + 1 + 1 + 1, [.int .i32 0, .int .i32 0, .int .i32 0, .int .i32 0]), (N, [.int .i32 (upI j 0 (S 0)), .int .i32 (upI j 1 (S 1)), .int .i32 (upI j 2 (S 2)), .int .i32 (upI j 3 (S 3))])] W
theorem Ev.bx {w : World} {O F M S : Nat → Int} {N j : Nat} {W : World} (h : Ev w O F M S N j W) : Bxs w [(w.heap.size, [.int .i32 (O 0), .int .i32 (O 1), .int .i32 (O 2), .int .i32 (O 3)]), (w.heap.size + 1, [.int .i32 (F 0), .int .i32 (F 1), .int .i32 (F 2), .int .i32 (F 3)]), (w.heap.size + 1 + 1, [.int .i64 (M 0), .int .i64 (M 1), .int .i64 (M 2), .int .i64 (M 3)]), (w.heap.size + 1 + 1 + 1, [.int .i32 0, .int .i32 0, .int .i32 0, .int .i32 0]), (N, [.int .i32 (upI j 0 (S 0)), .int .i32 (upI j 1 (S 1)), .int .i32 (upI j 2 (S 2)), .int .i32 (upI j 3 (S 3))])] W := h
theorem Ev.drew {w : World} {O F M S : Nat → Int} {N j : Nat} {W : World} (h : Ev w O F M S N j W) : Ev w O F M S N j W.drew := Bxs.drew h
theorem Ev.store {w : World} {O F M S : Nat → Int} {N j : Nat} {W : World} (h : Ev w O F M S N j W) (hj : j < 4) : Ev w O F M S N (j + 1) (W.setCell ⟨N, j, none⟩ (.int .i32 (S j))) := by
  have h1 := Bxs.set h 4 N j _ (.int .i32 (S j)) rfl (by simpa using hj)
  obtain rfl | rfl | rfl | rfl := cases4 hj <;> exact h1

/-- a lane's next offset -/
def Ln (a o f : Int) (n : Nat) (m s : Int) : Prop :=
  ((a == 1) = true ∧ ∀ W, Calls Try.prog 16 #[.int .i32 o, .int .i32 f, .int .i64 n, .int .i32 m] W fun e w' => e = .returned (.int .i32 s) ∧ w' = W) ∨ ((a == 1) = false ∧ ∀ W, Calls Try.prog 17 #[.int .i32 o, .int .i32 0, .int .i64 n] W fun e w' => e = .returned (.tuple #[.int .i32 s, .int .i64 0]) ∧ w' = W)
theorem ln_any {a o f m : Int} {n : Nat} (ho : I32 o) (hf : I32 f) (m1 : 0 ≤ m) (m2 : m ≤ 2147483647) (hn : n ≤ 30) : Ln a o f n m (evN a o f n m) := by
  unfold evN
  by_cases h : a = 1
  · rw [if_pos h]
    exact Or.inl ⟨by simpa using h, fun W => against_any o f m n ho hf m1 m2 hn W⟩
  · rw [if_neg h]
    exact Or.inr ⟨by simpa using h, fun W => low_any o 0 n ho.1 ho.2 (by decide) (by decide) hn W⟩

set_option maxHeartbeats 16000000 in
set_option maxRecDepth 100000 in
theorem evStep_core (O F M S : Nat → Int) (n : Nat) (m : Int) (w : World) (HC : Hid (∀ W, Calls Try.prog 8 #[.agg #[.int .i32 (O 0), .int .i32 (O 1), .int .i32 (O 2), .int .i32 (O 3)], .agg #[.int .i64 (M 0), .int .i64 (M 1), .int .i64 (M 2), .int .i64 (M 3)], .int .i64 n, .int .i32 m] W fun e w' => e = .returned (.int .i64 0) ∧ Below W.heap.size W w')) (HP : Hid (∀ j, j < 4 → Ln (M j) (O j) (F j) n m (S j))) :
    Calls Try.prog 7 #[.agg #[.int .i32 (O 0), .int .i32 (O 1), .int .i32 (O 2), .int .i32 (O 3)], .agg #[.int .i32 (F 0), .int .i32 (F 1), .int .i32 (F 2), .int .i32 (F 3)], .agg #[.int .i64 (M 0), .int .i64 (M 1), .int .i64 (M 2), .int .i64 (M 3)], .int .i64 n, .int .i32 m] w fun e w' => e = .returned (.tuple #[.agg #[.int .i32 (S 0), .int .i32 (S 1), .int .i32 (S 2), .int .i32 (S 3)], .int .i64 0]) ∧ Below w.heap.size w w' := by
  have B0 : Hid (_) := bxs_four w #[.int .i32 (O 0), .int .i32 (O 1), .int .i32 (O 2), .int .i32 (O 3)] #[.int .i32 (F 0), .int .i32 (F 1), .int .i32 (F 2), .int .i32 (F 3)] #[.int .i64 (M 0), .int .i64 (M 1), .int .i64 (M 2), .int .i64 (M 3)] #[.int .i32 0, .int .i32 0, .int .i32 0, .int .i32 0] 22 22 23 22
  obtain ⟨i0, i1, i2, i3⟩ := ixN (M 0) (M 1) (M 2) (M 3)
  go_enter Try.func7, Try.ntmps7
  go_wp2_with fail
  refine (HC.out _).mono ?_
  rintro r w1 ⟨rfl, hb⟩
  have B1 : Hid (_) := B0.out.step hb
  clear hb B0 HC
  have ul := (B1.out.box 2 _ _ rfl).lt
  have u0 := (B1.out.box 2 _ _ rfl).cell 0 _ rfl
  have u1 := (B1.out.box 2 _ _ rfl).cell 1 _ rfl
  have u2 := (B1.out.box 2 _ _ rfl).cell 2 _ rfl
  have u3 := (B1.out.box 2 _ _ rfl).cell 3 _ rfl
  go_wp2_with fail
  clear ul u0 u1 u2 u3
  obtain ⟨N, W, hW, hN, B2', Z2⟩ := B1.out.new #[.int .i32 0, .int .i32 0, .int .i32 0, .int .i32 0] 22
  rw [hW, hN]
  have B2 : Hid (Ev w O F M S N 0 W) := B2'
  clear hW hN B2' B1 Z2
  go_loopg [26] (5) (fun g s wr => ∃ j : Nat, s = .int .i64 j ∧ 4 - j < g ∧ j ≤ 4 ∧ Hid (Ev w O F M S N j wr))
  case atStart => exact ⟨0, rfl, by omega, by omega, B2⟩
  case round =>
    obtain ⟨j, rfl, hg, hj, HB⟩ := hrel
    clear B2
    by_cases hlt : j < 4
    · obtain rfl | rfl | rfl | rfl := cases4 hlt
      · rcases HP.out 0 (by omega) with ⟨he, hc⟩ | ⟨he, hc⟩
        · have CA : Hid (_) := hc
          clear hc
          have cl := ((HB.out.bx).box 0 _ _ rfl).lt
          have c0 := ((HB.out.bx).box 0 _ _ rfl).cell 0 _ rfl
          have c1 := ((HB.out.bx).box 0 _ _ rfl).cell 1 _ rfl
          have c2 := ((HB.out.bx).box 0 _ _ rfl).cell 2 _ rfl
          have c3 := ((HB.out.bx).box 0 _ _ rfl).cell 3 _ rfl
          have dl := ((HB.out.bx).box 1 _ _ rfl).lt
          have d0 := ((HB.out.bx).box 1 _ _ rfl).cell 0 _ rfl
          have d1 := ((HB.out.bx).box 1 _ _ rfl).cell 1 _ rfl
          have d2 := ((HB.out.bx).box 1 _ _ rfl).cell 2 _ rfl
          have d3 := ((HB.out.bx).box 1 _ _ rfl).cell 3 _ rfl
          have xl := ((HB.out.bx).box 4 _ _ rfl).lt
          have x0 := ((HB.out.bx).box 4 _ _ rfl).cell 0 _ rfl
          have x1 := ((HB.out.bx).box 4 _ _ rfl).cell 1 _ rfl
          have x2 := ((HB.out.bx).box 4 _ _ rfl).cell 2 _ rfl
          have x3 := ((HB.out.bx).box 4 _ _ rfl).cell 3 _ rfl
          have xf0 := ((HB.out.bx).box 4 _ _ rfl).froz 0 _ rfl
          have xf1 := ((HB.out.bx).box 4 _ _ rfl).froz 1 _ rfl
          have xf2 := ((HB.out.bx).box 4 _ _ rfl).froz 2 _ rfl
          have xf3 := ((HB.out.bx).box 4 _ _ rfl).froz 3 _ rfl
          go_wp2_with fail
          have HX := (HB.out.bx.set 4 N 0 _ (.int .i32 (S 0)) rfl (by simp)).drew
          have HX0 := (HX.box 0 _ _ rfl).cell 0 _ rfl
          have HX1 := (HX.box 1 _ _ rfl).cell 0 _ rfl
          clear HX
          go_region_held3 (fun w' => w'.cell? ⟨w.heap.size, 0, none⟩ = some (.int .i32 (O 0)) ∧ w'.cell? ⟨w.heap.size + 1, 0, none⟩ = some (.int .i32 (F 0))) (go_keep) (first | (go_at_call 16; refine (CA.out _).mono ?_; rintro r w5 ⟨rfl, rfl⟩))
          all_goals (try go_wp2_with fail)
          all_goals go_roundg (4 - (0 + 1) + 1)
          case measure => omega
          case rel => exact ⟨1, rfl, by omega, by omega, HB.out.drew.store (by omega)⟩
        · have CA : Hid (_) := hc
          clear hc
          have cl := ((HB.out.bx).box 0 _ _ rfl).lt
          have c0 := ((HB.out.bx).box 0 _ _ rfl).cell 0 _ rfl
          have c1 := ((HB.out.bx).box 0 _ _ rfl).cell 1 _ rfl
          have c2 := ((HB.out.bx).box 0 _ _ rfl).cell 2 _ rfl
          have c3 := ((HB.out.bx).box 0 _ _ rfl).cell 3 _ rfl
          have xl := ((HB.out.bx).box 4 _ _ rfl).lt
          have x0 := ((HB.out.bx).box 4 _ _ rfl).cell 0 _ rfl
          have x1 := ((HB.out.bx).box 4 _ _ rfl).cell 1 _ rfl
          have x2 := ((HB.out.bx).box 4 _ _ rfl).cell 2 _ rfl
          have x3 := ((HB.out.bx).box 4 _ _ rfl).cell 3 _ rfl
          have xf0 := ((HB.out.bx).box 4 _ _ rfl).froz 0 _ rfl
          have xf1 := ((HB.out.bx).box 4 _ _ rfl).froz 1 _ rfl
          have xf2 := ((HB.out.bx).box 4 _ _ rfl).froz 2 _ rfl
          have xf3 := ((HB.out.bx).box 4 _ _ rfl).froz 3 _ rfl
          go_wp2_with (go_at_call 17; refine (CA.out _).mono ?_; rintro r w5 ⟨rfl, rfl⟩)
          go_roundg (4 - (0 + 1) + 1)
          case measure => omega
          case rel => exact ⟨1, rfl, by omega, by omega, HB.out.store (by omega)⟩
      · rcases HP.out 1 (by omega) with ⟨he, hc⟩ | ⟨he, hc⟩
        · have CA : Hid (_) := hc
          clear hc
          have cl := ((HB.out.bx).box 0 _ _ rfl).lt
          have c0 := ((HB.out.bx).box 0 _ _ rfl).cell 0 _ rfl
          have c1 := ((HB.out.bx).box 0 _ _ rfl).cell 1 _ rfl
          have c2 := ((HB.out.bx).box 0 _ _ rfl).cell 2 _ rfl
          have c3 := ((HB.out.bx).box 0 _ _ rfl).cell 3 _ rfl
          have dl := ((HB.out.bx).box 1 _ _ rfl).lt
          have d0 := ((HB.out.bx).box 1 _ _ rfl).cell 0 _ rfl
          have d1 := ((HB.out.bx).box 1 _ _ rfl).cell 1 _ rfl
          have d2 := ((HB.out.bx).box 1 _ _ rfl).cell 2 _ rfl
          have d3 := ((HB.out.bx).box 1 _ _ rfl).cell 3 _ rfl
          have xl := ((HB.out.bx).box 4 _ _ rfl).lt
          have x0 := ((HB.out.bx).box 4 _ _ rfl).cell 0 _ rfl
          have x1 := ((HB.out.bx).box 4 _ _ rfl).cell 1 _ rfl
          have x2 := ((HB.out.bx).box 4 _ _ rfl).cell 2 _ rfl
          have x3 := ((HB.out.bx).box 4 _ _ rfl).cell 3 _ rfl
          have xf0 := ((HB.out.bx).box 4 _ _ rfl).froz 0 _ rfl
          have xf1 := ((HB.out.bx).box 4 _ _ rfl).froz 1 _ rfl
          have xf2 := ((HB.out.bx).box 4 _ _ rfl).froz 2 _ rfl
          have xf3 := ((HB.out.bx).box 4 _ _ rfl).froz 3 _ rfl
          go_wp2_with fail
          have HX := (HB.out.bx.set 4 N 1 _ (.int .i32 (S 1)) rfl (by simp)).drew
          have HX0 := (HX.box 0 _ _ rfl).cell 1 _ rfl
          have HX1 := (HX.box 1 _ _ rfl).cell 1 _ rfl
          clear HX
          go_region_held3 (fun w' => w'.cell? ⟨w.heap.size, 1, none⟩ = some (.int .i32 (O 1)) ∧ w'.cell? ⟨w.heap.size + 1, 1, none⟩ = some (.int .i32 (F 1))) (go_keep) (first | (go_at_call 16; refine (CA.out _).mono ?_; rintro r w5 ⟨rfl, rfl⟩))
          all_goals (try go_wp2_with fail)
          all_goals go_roundg (4 - (1 + 1) + 1)
          case measure => omega
          case rel => exact ⟨2, rfl, by omega, by omega, HB.out.drew.store (by omega)⟩
        · have CA : Hid (_) := hc
          clear hc
          have cl := ((HB.out.bx).box 0 _ _ rfl).lt
          have c0 := ((HB.out.bx).box 0 _ _ rfl).cell 0 _ rfl
          have c1 := ((HB.out.bx).box 0 _ _ rfl).cell 1 _ rfl
          have c2 := ((HB.out.bx).box 0 _ _ rfl).cell 2 _ rfl
          have c3 := ((HB.out.bx).box 0 _ _ rfl).cell 3 _ rfl
          have xl := ((HB.out.bx).box 4 _ _ rfl).lt
          have x0 := ((HB.out.bx).box 4 _ _ rfl).cell 0 _ rfl
          have x1 := ((HB.out.bx).box 4 _ _ rfl).cell 1 _ rfl
          have x2 := ((HB.out.bx).box 4 _ _ rfl).cell 2 _ rfl
          have x3 := ((HB.out.bx).box 4 _ _ rfl).cell 3 _ rfl
          have xf0 := ((HB.out.bx).box 4 _ _ rfl).froz 0 _ rfl
          have xf1 := ((HB.out.bx).box 4 _ _ rfl).froz 1 _ rfl
          have xf2 := ((HB.out.bx).box 4 _ _ rfl).froz 2 _ rfl
          have xf3 := ((HB.out.bx).box 4 _ _ rfl).froz 3 _ rfl
          go_wp2_with (go_at_call 17; refine (CA.out _).mono ?_; rintro r w5 ⟨rfl, rfl⟩)
          go_roundg (4 - (1 + 1) + 1)
          case measure => omega
          case rel => exact ⟨2, rfl, by omega, by omega, HB.out.store (by omega)⟩
      · rcases HP.out 2 (by omega) with ⟨he, hc⟩ | ⟨he, hc⟩
        · have CA : Hid (_) := hc
          clear hc
          have cl := ((HB.out.bx).box 0 _ _ rfl).lt
          have c0 := ((HB.out.bx).box 0 _ _ rfl).cell 0 _ rfl
          have c1 := ((HB.out.bx).box 0 _ _ rfl).cell 1 _ rfl
          have c2 := ((HB.out.bx).box 0 _ _ rfl).cell 2 _ rfl
          have c3 := ((HB.out.bx).box 0 _ _ rfl).cell 3 _ rfl
          have dl := ((HB.out.bx).box 1 _ _ rfl).lt
          have d0 := ((HB.out.bx).box 1 _ _ rfl).cell 0 _ rfl
          have d1 := ((HB.out.bx).box 1 _ _ rfl).cell 1 _ rfl
          have d2 := ((HB.out.bx).box 1 _ _ rfl).cell 2 _ rfl
          have d3 := ((HB.out.bx).box 1 _ _ rfl).cell 3 _ rfl
          have xl := ((HB.out.bx).box 4 _ _ rfl).lt
          have x0 := ((HB.out.bx).box 4 _ _ rfl).cell 0 _ rfl
          have x1 := ((HB.out.bx).box 4 _ _ rfl).cell 1 _ rfl
          have x2 := ((HB.out.bx).box 4 _ _ rfl).cell 2 _ rfl
          have x3 := ((HB.out.bx).box 4 _ _ rfl).cell 3 _ rfl
          have xf0 := ((HB.out.bx).box 4 _ _ rfl).froz 0 _ rfl
          have xf1 := ((HB.out.bx).box 4 _ _ rfl).froz 1 _ rfl
          have xf2 := ((HB.out.bx).box 4 _ _ rfl).froz 2 _ rfl
          have xf3 := ((HB.out.bx).box 4 _ _ rfl).froz 3 _ rfl
          go_wp2_with fail
          have HX := (HB.out.bx.set 4 N 2 _ (.int .i32 (S 2)) rfl (by simp)).drew
          have HX0 := (HX.box 0 _ _ rfl).cell 2 _ rfl
          have HX1 := (HX.box 1 _ _ rfl).cell 2 _ rfl
          clear HX
          go_region_held3 (fun w' => w'.cell? ⟨w.heap.size, 2, none⟩ = some (.int .i32 (O 2)) ∧ w'.cell? ⟨w.heap.size + 1, 2, none⟩ = some (.int .i32 (F 2))) (go_keep) (first | (go_at_call 16; refine (CA.out _).mono ?_; rintro r w5 ⟨rfl, rfl⟩))
          all_goals (try go_wp2_with fail)
          all_goals go_roundg (4 - (2 + 1) + 1)
          case measure => omega
          case rel => exact ⟨3, rfl, by omega, by omega, HB.out.drew.store (by omega)⟩
        · have CA : Hid (_) := hc
          clear hc
          have cl := ((HB.out.bx).box 0 _ _ rfl).lt
          have c0 := ((HB.out.bx).box 0 _ _ rfl).cell 0 _ rfl
          have c1 := ((HB.out.bx).box 0 _ _ rfl).cell 1 _ rfl
          have c2 := ((HB.out.bx).box 0 _ _ rfl).cell 2 _ rfl
          have c3 := ((HB.out.bx).box 0 _ _ rfl).cell 3 _ rfl
          have xl := ((HB.out.bx).box 4 _ _ rfl).lt
          have x0 := ((HB.out.bx).box 4 _ _ rfl).cell 0 _ rfl
          have x1 := ((HB.out.bx).box 4 _ _ rfl).cell 1 _ rfl
          have x2 := ((HB.out.bx).box 4 _ _ rfl).cell 2 _ rfl
          have x3 := ((HB.out.bx).box 4 _ _ rfl).cell 3 _ rfl
          have xf0 := ((HB.out.bx).box 4 _ _ rfl).froz 0 _ rfl
          have xf1 := ((HB.out.bx).box 4 _ _ rfl).froz 1 _ rfl
          have xf2 := ((HB.out.bx).box 4 _ _ rfl).froz 2 _ rfl
          have xf3 := ((HB.out.bx).box 4 _ _ rfl).froz 3 _ rfl
          go_wp2_with (go_at_call 17; refine (CA.out _).mono ?_; rintro r w5 ⟨rfl, rfl⟩)
          go_roundg (4 - (2 + 1) + 1)
          case measure => omega
          case rel => exact ⟨3, rfl, by omega, by omega, HB.out.store (by omega)⟩
      · rcases HP.out 3 (by omega) with ⟨he, hc⟩ | ⟨he, hc⟩
        · have CA : Hid (_) := hc
          clear hc
          have cl := ((HB.out.bx).box 0 _ _ rfl).lt
          have c0 := ((HB.out.bx).box 0 _ _ rfl).cell 0 _ rfl
          have c1 := ((HB.out.bx).box 0 _ _ rfl).cell 1 _ rfl
          have c2 := ((HB.out.bx).box 0 _ _ rfl).cell 2 _ rfl
          have c3 := ((HB.out.bx).box 0 _ _ rfl).cell 3 _ rfl
          have dl := ((HB.out.bx).box 1 _ _ rfl).lt
          have d0 := ((HB.out.bx).box 1 _ _ rfl).cell 0 _ rfl
          have d1 := ((HB.out.bx).box 1 _ _ rfl).cell 1 _ rfl
          have d2 := ((HB.out.bx).box 1 _ _ rfl).cell 2 _ rfl
          have d3 := ((HB.out.bx).box 1 _ _ rfl).cell 3 _ rfl
          have xl := ((HB.out.bx).box 4 _ _ rfl).lt
          have x0 := ((HB.out.bx).box 4 _ _ rfl).cell 0 _ rfl
          have x1 := ((HB.out.bx).box 4 _ _ rfl).cell 1 _ rfl
          have x2 := ((HB.out.bx).box 4 _ _ rfl).cell 2 _ rfl
          have x3 := ((HB.out.bx).box 4 _ _ rfl).cell 3 _ rfl
          have xf0 := ((HB.out.bx).box 4 _ _ rfl).froz 0 _ rfl
          have xf1 := ((HB.out.bx).box 4 _ _ rfl).froz 1 _ rfl
          have xf2 := ((HB.out.bx).box 4 _ _ rfl).froz 2 _ rfl
          have xf3 := ((HB.out.bx).box 4 _ _ rfl).froz 3 _ rfl
          go_wp2_with fail
          have HX := (HB.out.bx.set 4 N 3 _ (.int .i32 (S 3)) rfl (by simp)).drew
          have HX0 := (HX.box 0 _ _ rfl).cell 3 _ rfl
          have HX1 := (HX.box 1 _ _ rfl).cell 3 _ rfl
          clear HX
          go_region_held3 (fun w' => w'.cell? ⟨w.heap.size, 3, none⟩ = some (.int .i32 (O 3)) ∧ w'.cell? ⟨w.heap.size + 1, 3, none⟩ = some (.int .i32 (F 3))) (go_keep) (first | (go_at_call 16; refine (CA.out _).mono ?_; rintro r w5 ⟨rfl, rfl⟩))
          all_goals (try go_wp2_with fail)
          all_goals go_roundg (4 - (3 + 1) + 1)
          case measure => omega
          case rel => exact ⟨4, rfl, by omega, by omega, HB.out.drew.store (by omega)⟩
        · have CA : Hid (_) := hc
          clear hc
          have cl := ((HB.out.bx).box 0 _ _ rfl).lt
          have c0 := ((HB.out.bx).box 0 _ _ rfl).cell 0 _ rfl
          have c1 := ((HB.out.bx).box 0 _ _ rfl).cell 1 _ rfl
          have c2 := ((HB.out.bx).box 0 _ _ rfl).cell 2 _ rfl
          have c3 := ((HB.out.bx).box 0 _ _ rfl).cell 3 _ rfl
          have xl := ((HB.out.bx).box 4 _ _ rfl).lt
          have x0 := ((HB.out.bx).box 4 _ _ rfl).cell 0 _ rfl
          have x1 := ((HB.out.bx).box 4 _ _ rfl).cell 1 _ rfl
          have x2 := ((HB.out.bx).box 4 _ _ rfl).cell 2 _ rfl
          have x3 := ((HB.out.bx).box 4 _ _ rfl).cell 3 _ rfl
          have xf0 := ((HB.out.bx).box 4 _ _ rfl).froz 0 _ rfl
          have xf1 := ((HB.out.bx).box 4 _ _ rfl).froz 1 _ rfl
          have xf2 := ((HB.out.bx).box 4 _ _ rfl).froz 2 _ rfl
          have xf3 := ((HB.out.bx).box 4 _ _ rfl).froz 3 _ rfl
          go_wp2_with (go_at_call 17; refine (CA.out _).mono ?_; rintro r w5 ⟨rfl, rfl⟩)
          go_roundg (4 - (3 + 1) + 1)
          case measure => omega
          case rel => exact ⟨4, rfl, by omega, by omega, HB.out.store (by omega)⟩
    · obtain rfl : j = 4 := by omega
      have cl := ((HB.out.bx).box 3 _ _ rfl).lt
      have c0 := ((HB.out.bx).box 3 _ _ rfl).cell 0 _ rfl
      have c1 := ((HB.out.bx).box 3 _ _ rfl).cell 1 _ rfl
      have c2 := ((HB.out.bx).box 3 _ _ rfl).cell 2 _ rfl
      have c3 := ((HB.out.bx).box 3 _ _ rfl).cell 3 _ rfl
      have cf0 := ((HB.out.bx).box 3 _ _ rfl).froz 0 _ rfl
      have cf1 := ((HB.out.bx).box 3 _ _ rfl).froz 1 _ rfl
      have cf2 := ((HB.out.bx).box 3 _ _ rfl).froz 2 _ rfl
      have cf3 := ((HB.out.bx).box 3 _ _ rfl).froz 3 _ rfl
      have xl := ((HB.out.bx).box 4 _ _ rfl).lt
      have x0 := ((HB.out.bx).box 4 _ _ rfl).cell 0 _ rfl
      have x1 := ((HB.out.bx).box 4 _ _ rfl).cell 1 _ rfl
      have x2 := ((HB.out.bx).box 4 _ _ rfl).cell 2 _ rfl
      have x3 := ((HB.out.bx).box 4 _ _ rfl).cell 3 _ rfl
      go_wp2_with fail
      obtain ⟨w3, hw3, B3⟩ := HB.out.bx.put4 3 _ (.int .i32 (upI 4 0 (S 0))) (.int .i32 (upI 4 1 (S 1))) (.int .i32 (upI 4 2 (S 2))) (.int .i32 (upI 4 3 (S 3))) rfl
      rw [hw3]
      have fl := (B3.box 3 _ _ rfl).lt
      have f0 := (B3.box 3 _ _ rfl).cell 0 _ rfl
      have f1 := (B3.box 3 _ _ rfl).cell 1 _ rfl
      have f2 := (B3.box 3 _ _ rfl).cell 2 _ rfl
      have f3 := (B3.box 3 _ _ rfl).cell 3 _ rfl
      refine bodyPost_ret (by simp [results, Try.results7, go_sem, f0, f1, f2, f3]; try rfl) rfl ?_
      exact ⟨rfl, B3.bel⟩

set_option maxHeartbeats 4000000 in
theorem evStep_bad (o0 o1 o2 o3 p0 p1 p2 p3 a b c d n m : Int) (w : World) (h : ¬ OkE o0 o1 o2 o3 a b c d n m) (m2 : m ≤ 2147483647) : Calls Try.prog 7 #[.agg #[.int .i32 o0, .int .i32 o1, .int .i32 o2, .int .i32 o3], .agg #[.int .i32 p0, .int .i32 p1, .int .i32 p2, .int .i32 p3], .agg #[.int .i64 a, .int .i64 b, .int .i64 c, .int .i64 d], .int .i64 n, .int .i32 m] w fun e w' => e = .returned (.tuple #[.agg #[.int .i32 0, .int .i32 0, .int .i32 0, .int .i32 0], .int .i64 1]) ∧ Below w.heap.size w w' := by
  have HC : Hid (_) := fun W => evCheck_bad o0 o1 o2 o3 a b c d n m W h m2
  have B0 : Hid (_) := bxs_four w #[.int .i32 o0, .int .i32 o1, .int .i32 o2, .int .i32 o3] #[.int .i32 p0, .int .i32 p1, .int .i32 p2, .int .i32 p3] #[.int .i64 a, .int .i64 b, .int .i64 c, .int .i64 d] #[.int .i32 0, .int .i32 0, .int .i32 0, .int .i32 0] 22 22 23 22
  clear h
  go_enter Try.func7, Try.ntmps7
  go_wp2_with fail
  refine (HC.out _).mono ?_
  rintro r w1 ⟨rfl, hb⟩
  have B1 : Hid (_) := B0.out.step hb
  clear hb B0 HC
  have cl := (B1.out.box 3 _ _ rfl).lt
  have c0 := (B1.out.box 3 _ _ rfl).cell 0 _ rfl
  have c1 := (B1.out.box 3 _ _ rfl).cell 1 _ rfl
  have c2 := (B1.out.box 3 _ _ rfl).cell 2 _ rfl
  have c3 := (B1.out.box 3 _ _ rfl).cell 3 _ rfl
  have cf0 := (B1.out.box 3 _ _ rfl).froz 0 _ rfl
  have cf1 := (B1.out.box 3 _ _ rfl).froz 1 _ rfl
  have cf2 := (B1.out.box 3 _ _ rfl).froz 2 _ rfl
  have cf3 := (B1.out.box 3 _ _ rfl).froz 3 _ rfl
  go_wp2_with fail
  obtain ⟨w3, hw3, B3⟩ := B1.out.put4 3 _ (.int .i32 0) (.int .i32 0) (.int .i32 0) (.int .i32 0) rfl
  rw [hw3]
  have fl := (B3.box 3 _ _ rfl).lt
  have f0 := (B3.box 3 _ _ rfl).cell 0 _ rfl
  have f1 := (B3.box 3 _ _ rfl).cell 1 _ rfl
  have f2 := (B3.box 3 _ _ rfl).cell 2 _ rfl
  have f3 := (B3.box 3 _ _ rfl).cell 3 _ rfl
  refine bodyPost_ret (by simp [results, Try.results7, go_sem, f0, f1, f2, f3]; try rfl) rfl ?_
  exact ⟨rfl, B3.bel⟩

set_option maxHeartbeats 8000000 in
set_option maxRecDepth 100000 in
theorem trim_core (V O S : Nat → Int) (w : World) (HP : Hid (∀ j, j < 4 → ∀ W, Calls Try.prog 19 #[.int .i32 (V j), .int .i32 (O j)] W fun e w' => e = .returned (.int .i32 (S j)) ∧ w' = W)) :
    Calls Try.prog 9 #[.agg #[.int .i32 (V 0), .int .i32 (V 1), .int .i32 (V 2), .int .i32 (V 3)], .agg #[.int .i32 (O 0), .int .i32 (O 1), .int .i32 (O 2), .int .i32 (O 3)]] w fun e w' => e = .returned (.agg #[.int .i32 (S 0), .int .i32 (S 1), .int .i32 (S 2), .int .i32 (S 3)]) ∧ Below w.heap.size w w' := by
  have B0 : Hid (Lay w [[.int .i32 (V 0), .int .i32 (V 1), .int .i32 (V 2), .int .i32 (V 3)], [.int .i32 (O 0), .int .i32 (O 1), .int .i32 (O 2), .int .i32 (O 3)], [.int .i32 0, .int .i32 0, .int .i32 0, .int .i32 0], [.int .i32 (upI 0 0 (S 0)), .int .i32 (upI 0 1 (S 1)), .int .i32 (upI 0 2 (S 2)), .int .i32 (upI 0 3 (S 3))]] _) := lay4 w #[.int .i32 (V 0), .int .i32 (V 1), .int .i32 (V 2), .int .i32 (V 3)] #[.int .i32 (O 0), .int .i32 (O 1), .int .i32 (O 2), .int .i32 (O 3)] #[.int .i32 0, .int .i32 0, .int .i32 0, .int .i32 0] #[.int .i32 0, .int .i32 0, .int .i32 0, .int .i32 0] 22 22 22 22
  obtain ⟨i0, i1, i2, i3⟩ := ixI (V 0) (V 1) (V 2) (V 3)
  go_enter Try.func9, Try.ntmps9
  go_wp2_with fail
  go_loopg [9] (5) (fun g s wr => ∃ j : Nat, s = .int .i64 j ∧ 4 - j < g ∧ j ≤ 4 ∧ Hid (Lay w [[.int .i32 (V 0), .int .i32 (V 1), .int .i32 (V 2), .int .i32 (V 3)], [.int .i32 (O 0), .int .i32 (O 1), .int .i32 (O 2), .int .i32 (O 3)], [.int .i32 0, .int .i32 0, .int .i32 0, .int .i32 0], [.int .i32 (upI j 0 (S 0)), .int .i32 (upI j 1 (S 1)), .int .i32 (upI j 2 (S 2)), .int .i32 (upI j 3 (S 3))]] wr))
  case atStart => exact ⟨0, rfl, by omega, by omega, B0⟩
  case round =>
    obtain ⟨j, rfl, hg, hj, HB⟩ := hrel
    clear B0
    by_cases hlt : j < 4
    · obtain rfl | rfl | rfl | rfl := cases4 hlt
      · skip
        have cl := (HB.out.blk 1 (w.heap.size + 1) _ rfl rfl).lt
        have c0 := (HB.out.blk 1 (w.heap.size + 1) _ rfl rfl).cell 0 _ rfl
        have c1 := (HB.out.blk 1 (w.heap.size + 1) _ rfl rfl).cell 1 _ rfl
        have c2 := (HB.out.blk 1 (w.heap.size + 1) _ rfl rfl).cell 2 _ rfl
        have c3 := (HB.out.blk 1 (w.heap.size + 1) _ rfl rfl).cell 3 _ rfl
        have xl := (HB.out.blk 3 (w.heap.size + 1 + 1 + 1) _ rfl rfl).lt
        have x0 := (HB.out.blk 3 (w.heap.size + 1 + 1 + 1) _ rfl rfl).cell 0 _ rfl
        have x1 := (HB.out.blk 3 (w.heap.size + 1 + 1 + 1) _ rfl rfl).cell 1 _ rfl
        have x2 := (HB.out.blk 3 (w.heap.size + 1 + 1 + 1) _ rfl rfl).cell 2 _ rfl
        have x3 := (HB.out.blk 3 (w.heap.size + 1 + 1 + 1) _ rfl rfl).cell 3 _ rfl
        have xf0 := (HB.out.blk 3 (w.heap.size + 1 + 1 + 1) _ rfl rfl).froz 0 _ rfl
        have xf1 := (HB.out.blk 3 (w.heap.size + 1 + 1 + 1) _ rfl rfl).froz 1 _ rfl
        have xf2 := (HB.out.blk 3 (w.heap.size + 1 + 1 + 1) _ rfl rfl).froz 2 _ rfl
        have xf3 := (HB.out.blk 3 (w.heap.size + 1 + 1 + 1) _ rfl rfl).froz 3 _ rfl
        go_wp2_with (go_at_call 19; refine (HP.out 0 (by omega) _).mono ?_; rintro r w5 ⟨rfl, rfl⟩)
        go_roundg (4 - (0 + 1) + 1)
        case measure => omega
        case rel => exact ⟨1, rfl, by omega, by omega, HB.out.set 3 (w.heap.size + 1 + 1 + 1) 0 _ (.int .i32 (S 0)) rfl rfl (by simp)⟩
      · skip
        have cl := (HB.out.blk 1 (w.heap.size + 1) _ rfl rfl).lt
        have c0 := (HB.out.blk 1 (w.heap.size + 1) _ rfl rfl).cell 0 _ rfl
        have c1 := (HB.out.blk 1 (w.heap.size + 1) _ rfl rfl).cell 1 _ rfl
        have c2 := (HB.out.blk 1 (w.heap.size + 1) _ rfl rfl).cell 2 _ rfl
        have c3 := (HB.out.blk 1 (w.heap.size + 1) _ rfl rfl).cell 3 _ rfl
        have xl := (HB.out.blk 3 (w.heap.size + 1 + 1 + 1) _ rfl rfl).lt
        have x0 := (HB.out.blk 3 (w.heap.size + 1 + 1 + 1) _ rfl rfl).cell 0 _ rfl
        have x1 := (HB.out.blk 3 (w.heap.size + 1 + 1 + 1) _ rfl rfl).cell 1 _ rfl
        have x2 := (HB.out.blk 3 (w.heap.size + 1 + 1 + 1) _ rfl rfl).cell 2 _ rfl
        have x3 := (HB.out.blk 3 (w.heap.size + 1 + 1 + 1) _ rfl rfl).cell 3 _ rfl
        have xf0 := (HB.out.blk 3 (w.heap.size + 1 + 1 + 1) _ rfl rfl).froz 0 _ rfl
        have xf1 := (HB.out.blk 3 (w.heap.size + 1 + 1 + 1) _ rfl rfl).froz 1 _ rfl
        have xf2 := (HB.out.blk 3 (w.heap.size + 1 + 1 + 1) _ rfl rfl).froz 2 _ rfl
        have xf3 := (HB.out.blk 3 (w.heap.size + 1 + 1 + 1) _ rfl rfl).froz 3 _ rfl
        go_wp2_with (go_at_call 19; refine (HP.out 1 (by omega) _).mono ?_; rintro r w5 ⟨rfl, rfl⟩)
        go_roundg (4 - (1 + 1) + 1)
        case measure => omega
        case rel => exact ⟨2, rfl, by omega, by omega, HB.out.set 3 (w.heap.size + 1 + 1 + 1) 1 _ (.int .i32 (S 1)) rfl rfl (by simp)⟩
      · skip
        have cl := (HB.out.blk 1 (w.heap.size + 1) _ rfl rfl).lt
        have c0 := (HB.out.blk 1 (w.heap.size + 1) _ rfl rfl).cell 0 _ rfl
        have c1 := (HB.out.blk 1 (w.heap.size + 1) _ rfl rfl).cell 1 _ rfl
        have c2 := (HB.out.blk 1 (w.heap.size + 1) _ rfl rfl).cell 2 _ rfl
        have c3 := (HB.out.blk 1 (w.heap.size + 1) _ rfl rfl).cell 3 _ rfl
        have xl := (HB.out.blk 3 (w.heap.size + 1 + 1 + 1) _ rfl rfl).lt
        have x0 := (HB.out.blk 3 (w.heap.size + 1 + 1 + 1) _ rfl rfl).cell 0 _ rfl
        have x1 := (HB.out.blk 3 (w.heap.size + 1 + 1 + 1) _ rfl rfl).cell 1 _ rfl
        have x2 := (HB.out.blk 3 (w.heap.size + 1 + 1 + 1) _ rfl rfl).cell 2 _ rfl
        have x3 := (HB.out.blk 3 (w.heap.size + 1 + 1 + 1) _ rfl rfl).cell 3 _ rfl
        have xf0 := (HB.out.blk 3 (w.heap.size + 1 + 1 + 1) _ rfl rfl).froz 0 _ rfl
        have xf1 := (HB.out.blk 3 (w.heap.size + 1 + 1 + 1) _ rfl rfl).froz 1 _ rfl
        have xf2 := (HB.out.blk 3 (w.heap.size + 1 + 1 + 1) _ rfl rfl).froz 2 _ rfl
        have xf3 := (HB.out.blk 3 (w.heap.size + 1 + 1 + 1) _ rfl rfl).froz 3 _ rfl
        go_wp2_with (go_at_call 19; refine (HP.out 2 (by omega) _).mono ?_; rintro r w5 ⟨rfl, rfl⟩)
        go_roundg (4 - (2 + 1) + 1)
        case measure => omega
        case rel => exact ⟨3, rfl, by omega, by omega, HB.out.set 3 (w.heap.size + 1 + 1 + 1) 2 _ (.int .i32 (S 2)) rfl rfl (by simp)⟩
      · skip
        have cl := (HB.out.blk 1 (w.heap.size + 1) _ rfl rfl).lt
        have c0 := (HB.out.blk 1 (w.heap.size + 1) _ rfl rfl).cell 0 _ rfl
        have c1 := (HB.out.blk 1 (w.heap.size + 1) _ rfl rfl).cell 1 _ rfl
        have c2 := (HB.out.blk 1 (w.heap.size + 1) _ rfl rfl).cell 2 _ rfl
        have c3 := (HB.out.blk 1 (w.heap.size + 1) _ rfl rfl).cell 3 _ rfl
        have xl := (HB.out.blk 3 (w.heap.size + 1 + 1 + 1) _ rfl rfl).lt
        have x0 := (HB.out.blk 3 (w.heap.size + 1 + 1 + 1) _ rfl rfl).cell 0 _ rfl
        have x1 := (HB.out.blk 3 (w.heap.size + 1 + 1 + 1) _ rfl rfl).cell 1 _ rfl
        have x2 := (HB.out.blk 3 (w.heap.size + 1 + 1 + 1) _ rfl rfl).cell 2 _ rfl
        have x3 := (HB.out.blk 3 (w.heap.size + 1 + 1 + 1) _ rfl rfl).cell 3 _ rfl
        have xf0 := (HB.out.blk 3 (w.heap.size + 1 + 1 + 1) _ rfl rfl).froz 0 _ rfl
        have xf1 := (HB.out.blk 3 (w.heap.size + 1 + 1 + 1) _ rfl rfl).froz 1 _ rfl
        have xf2 := (HB.out.blk 3 (w.heap.size + 1 + 1 + 1) _ rfl rfl).froz 2 _ rfl
        have xf3 := (HB.out.blk 3 (w.heap.size + 1 + 1 + 1) _ rfl rfl).froz 3 _ rfl
        go_wp2_with (go_at_call 19; refine (HP.out 3 (by omega) _).mono ?_; rintro r w5 ⟨rfl, rfl⟩)
        go_roundg (4 - (3 + 1) + 1)
        case measure => omega
        case rel => exact ⟨4, rfl, by omega, by omega, HB.out.set 3 (w.heap.size + 1 + 1 + 1) 3 _ (.int .i32 (S 3)) rfl rfl (by simp)⟩
    · obtain rfl : j = 4 := by omega
      have cl := (HB.out.blk 2 (w.heap.size + 1 + 1) _ rfl rfl).lt
      have c0 := (HB.out.blk 2 (w.heap.size + 1 + 1) _ rfl rfl).cell 0 _ rfl
      have c1 := (HB.out.blk 2 (w.heap.size + 1 + 1) _ rfl rfl).cell 1 _ rfl
      have c2 := (HB.out.blk 2 (w.heap.size + 1 + 1) _ rfl rfl).cell 2 _ rfl
      have c3 := (HB.out.blk 2 (w.heap.size + 1 + 1) _ rfl rfl).cell 3 _ rfl
      have cf0 := (HB.out.blk 2 (w.heap.size + 1 + 1) _ rfl rfl).froz 0 _ rfl
      have cf1 := (HB.out.blk 2 (w.heap.size + 1 + 1) _ rfl rfl).froz 1 _ rfl
      have cf2 := (HB.out.blk 2 (w.heap.size + 1 + 1) _ rfl rfl).froz 2 _ rfl
      have cf3 := (HB.out.blk 2 (w.heap.size + 1 + 1) _ rfl rfl).froz 3 _ rfl
      have xl := (HB.out.blk 3 (w.heap.size + 1 + 1 + 1) _ rfl rfl).lt
      have x0 := (HB.out.blk 3 (w.heap.size + 1 + 1 + 1) _ rfl rfl).cell 0 _ rfl
      have x1 := (HB.out.blk 3 (w.heap.size + 1 + 1 + 1) _ rfl rfl).cell 1 _ rfl
      have x2 := (HB.out.blk 3 (w.heap.size + 1 + 1 + 1) _ rfl rfl).cell 2 _ rfl
      have x3 := (HB.out.blk 3 (w.heap.size + 1 + 1 + 1) _ rfl rfl).cell 3 _ rfl
      go_wp2_with fail
      obtain ⟨w3, hw3, B3⟩ := HB.out.put4 2 (w.heap.size + 1 + 1) (.int .i32 (upI 4 0 (S 0))) (.int .i32 (upI 4 1 (S 1))) (.int .i32 (upI 4 2 (S 2))) (.int .i32 (upI 4 3 (S 3))) rfl rfl
      rw [hw3]
      have fl := (B3.blk 2 (w.heap.size + 1 + 1) _ rfl rfl).lt
      have f0 := (B3.blk 2 (w.heap.size + 1 + 1) _ rfl rfl).cell 0 _ rfl
      have f1 := (B3.blk 2 (w.heap.size + 1 + 1) _ rfl rfl).cell 1 _ rfl
      have f2 := (B3.blk 2 (w.heap.size + 1 + 1) _ rfl rfl).cell 2 _ rfl
      have f3 := (B3.blk 2 (w.heap.size + 1 + 1) _ rfl rfl).cell 3 _ rfl
      refine bodyPost_ret (by simp [results, Try.results9, go_sem, f0, f1, f2, f3]; try rfl) rfl ?_
      exact ⟨rfl, B3.bel⟩

/-- four numbers by their place; four numbers of 32 bits -/
def q4 (a b c d : Int) (j : Nat) : Int := if j = 0 then a else if j = 1 then b else if j = 2 then c else d
structure Q4 (a b c d : Int) : Prop where
  a : I32 a
  b : I32 b
  c : I32 c
  d : I32 d
theorem evStep_ok (o0 o1 o2 o3 p0 p1 p2 p3 a b c d m : Int) (n : Nat) (w : World) (h : OkE o0 o1 o2 o3 a b c d n m) (hm : I32 m) (ho : Q4 o0 o1 o2 o3) (hp : Q4 p0 p1 p2 p3) : Calls Try.prog 7 #[.agg #[.int .i32 o0, .int .i32 o1, .int .i32 o2, .int .i32 o3], .agg #[.int .i32 p0, .int .i32 p1, .int .i32 p2, .int .i32 p3], .agg #[.int .i64 a, .int .i64 b, .int .i64 c, .int .i64 d], .int .i64 n, .int .i32 m] w fun e w' => e = .returned (.tuple #[.agg #[.int .i32 (evN a o0 p0 n m), .int .i32 (evN b o1 p1 n m), .int .i32 (evN c o2 p2 n m), .int .i32 (evN d o3 p3 n m)], .int .i64 0]) ∧ Below w.heap.size w w' := by
  have hn : n ≤ 30 := by have := h.1.2; omega
  have m1 := h.2.1
  exact evStep_core (q4 o0 o1 o2 o3) (q4 p0 p1 p2 p3) (q4 a b c d) (q4 (evN a o0 p0 n m) (evN b o1 p1 n m) (evN c o2 p2 n m) (evN d o3 p3 n m)) n m w (fun W => evCheck_ok o0 o1 o2 o3 a b c d n m W h hm.2) (fun j hj => by
    obtain rfl | rfl | rfl | rfl := cases4 hj
    · exact ln_any ho.a hp.a m1 hm.2 hn
    · exact ln_any ho.b hp.b m1 hm.2 hn
    · exact ln_any ho.c hp.c m1 hm.2 hn
    · exact ln_any ho.d hp.d m1 hm.2 hn)
theorem trim_any (v0 v1 v2 v3 o0 o1 o2 o3 : Int) (hv : Q4 v0 v1 v2 v3) (ho : Q4 o0 o1 o2 o3) (w : World) : Calls Try.prog 9 #[.agg #[.int .i32 v0, .int .i32 v1, .int .i32 v2, .int .i32 v3], .agg #[.int .i32 o0, .int .i32 o1, .int .i32 o2, .int .i32 o3]] w fun e w' => e = .returned (.agg #[.int .i32 (s32 (v0 + o0)), .int .i32 (s32 (v1 + o1)), .int .i32 (s32 (v2 + o2)), .int .i32 (s32 (v3 + o3))]) ∧ Below w.heap.size w w' :=
  trim_core (q4 v0 v1 v2 v3) (q4 o0 o1 o2 o3) (q4 (s32 (v0 + o0)) (s32 (v1 + o1)) (s32 (v2 + o2)) (s32 (v3 + o3))) w (fun j hj => by
    obtain rfl | rfl | rfl | rfl := cases4 hj
    · exact fun W => add_any _ _ hv.a.1 hv.a.2 ho.a.1 ho.a.2 W
    · exact fun W => add_any _ _ hv.b.1 hv.b.2 ho.b.1 ho.b.2 W
    · exact fun W => add_any _ _ hv.c.1 hv.c.2 ho.c.1 ho.c.2 W
    · exact fun W => add_any _ _ hv.d.1 hv.d.2 ho.d.1 ho.d.2 W)

end Go.Proofs.Ytfbokeekkbdblaa
