/-
  Contracts of the document's own EvenErr, EvenStep and Trim (package steadref): whatever is handed in.
-/
import Derived.Test.YtfbokeekkbdblaaEven
import Derived.Test.YtfbokeekkbdblaaRFilt
namespace Go.Proofs.Ytfbokeekkbdblaa
open Go.RowKit
set_option linter.unusedVariables false

set_option maxHeartbeats 2000000 in
theorem rmodes_ok (a b c d : Int) (w : World) (ha : OkM a) (hb : OkM b) (hc : OkM c) (hd : OkM d) : Calls Try.prog 15 #[.agg #[.int .i64 a, .int .i64 b, .int .i64 c, .int .i64 d]] w fun e w' => e = .returned (.bool true) ∧ Below w.heap.size w w' := by
  have a1 : ¬ a < 0 := by have := ha.1; omega
  have a2 : ¬ 3 < a := by have := ha.2; omega
  have b1 : ¬ b < 0 := by have := hb.1; omega
  have b2 : ¬ 3 < b := by have := hb.2; omega
  have c1 : ¬ c < 0 := by have := hc.1; omega
  have c2 : ¬ 3 < c := by have := hc.2; omega
  have d1 : ¬ d < 0 := by have := hd.1; omega
  have d2 : ¬ 3 < d := by have := hd.2; omega
  clear ha hb hc hd
  obtain ⟨i0, i1, i2, i3⟩ := ixN a b c d
  go_enter Try.func15, Try.ntmps15
  go_wp2_with fail
  go_rounds 5
  go_returns
  exact ⟨rfl, by go_grown⟩

/-- a mode that is none of the four -/
def NoM (m : Int) : Prop := m < 0 ∨ (¬ m < 0 ∧ 3 < m)
def YesM (m : Int) : Prop := ¬ m < 0 ∧ ¬ 3 < m
theorem noWays {a b c d : Int} (h : ¬ (OkM a ∧ OkM b ∧ OkM c ∧ OkM d)) : NoM a ∨ (YesM a ∧ NoM b) ∨ (YesM a ∧ YesM b ∧ NoM c) ∨ (YesM a ∧ YesM b ∧ YesM c ∧ NoM d) := by
  unfold OkM at h
  unfold NoM YesM
  omega

set_option maxHeartbeats 8000000 in
theorem rmodes_bad (a b c d : Int) (w : World) (h : ¬ (OkM a ∧ OkM b ∧ OkM c ∧ OkM d)) : Calls Try.prog 15 #[.agg #[.int .i64 a, .int .i64 b, .int .i64 c, .int .i64 d]] w fun e w' => e = .returned (.bool false) ∧ Below w.heap.size w w' := by
  obtain ⟨i0, i1, i2, i3⟩ := ixN a b c d
  rcases noWays h with z | ⟨⟨x0, y0⟩, z⟩ | ⟨⟨x0, y0⟩, ⟨x1, y1⟩, z⟩ | ⟨⟨x0, y0⟩, ⟨x1, y1⟩, ⟨x2, y2⟩, z⟩
  · clear h
    rcases z with z | ⟨z, z2⟩
    · go_enter Try.func15, Try.ntmps15
      go_wp2_with fail
      go_rounds 1
      go_returns
      exact ⟨rfl, by go_grown⟩
    · go_enter Try.func15, Try.ntmps15
      go_wp2_with fail
      go_rounds 1
      go_returns
      exact ⟨rfl, by go_grown⟩
  · clear h
    rcases z with z | ⟨z, z2⟩
    · go_enter Try.func15, Try.ntmps15
      go_wp2_with fail
      go_rounds 2
      go_returns
      exact ⟨rfl, by go_grown⟩
    · go_enter Try.func15, Try.ntmps15
      go_wp2_with fail
      go_rounds 2
      go_returns
      exact ⟨rfl, by go_grown⟩
  · clear h
    rcases z with z | ⟨z, z2⟩
    · go_enter Try.func15, Try.ntmps15
      go_wp2_with fail
      go_rounds 3
      go_returns
      exact ⟨rfl, by go_grown⟩
    · go_enter Try.func15, Try.ntmps15
      go_wp2_with fail
      go_rounds 3
      go_returns
      exact ⟨rfl, by go_grown⟩
  · clear h
    rcases z with z | ⟨z, z2⟩
    · go_enter Try.func15, Try.ntmps15
      go_wp2_with fail
      go_rounds 4
      go_returns
      exact ⟨rfl, by go_grown⟩
    · go_enter Try.func15, Try.ntmps15
      go_wp2_with fail
      go_rounds 4
      go_returns
      exact ⟨rfl, by go_grown⟩

set_option maxHeartbeats 4000000 in
theorem rEvErr_ok (o0 o1 o2 o3 a b c d n m : Int) (w : World) (h : OkE o0 o1 o2 o3 a b c d n m) (hm : I32 m) (ho : Q4 o0 o1 o2 o3) : Calls Try.prog 6 #[.agg #[.int .i32 o0, .int .i32 o1, .int .i32 o2, .int .i32 o3], .agg #[.int .i64 a, .int .i64 b, .int .i64 c, .int .i64 d], .int .i64 n, .int .i32 m] w fun e w' => e = .returned (.int .i64 0) ∧ Below w.heap.size w w' := by
  obtain ⟨⟨h1, h2⟩, h3, HM, k0, k1, k2, k3⟩ := h
  have B0 : Hid (_) := lay2 w #[.int .i32 o0, .int .i32 o1, .int .i32 o2, .int .i32 o3] #[.int .i64 a, .int .i64 b, .int .i64 c, .int .i64 d] 22 23
  obtain ⟨m1, m2⟩ := hm
  obtain ⟨⟨o1a, o1b⟩, ⟨o2a, o2b⟩, ⟨o3a, o3b⟩, ⟨o4a, o4b⟩⟩ := ho
  obtain ⟨x0, y0⟩ := k0
  obtain ⟨x1, y1⟩ := k1
  obtain ⟨x2, y2⟩ := k2
  obtain ⟨x3, y3⟩ := k3
  obtain ⟨i0, i1, i2, i3⟩ := ixI o0 o1 o2 o3
  go_enter Try.func6, Try.ntmps6
  go_wp2_with fail
  refine (rmodes_ok a b c d _ HM.1 HM.2.1 HM.2.2.1 HM.2.2.2).mono ?_
  rintro r w1 ⟨rfl, hb⟩
  have B1 : Hid (_) := B0.out.step hb
  clear hb B0
  have ul := (B1.out.blk 0 (w.heap.size) _ rfl rfl).lt
  have u0 := (B1.out.blk 0 (w.heap.size) _ rfl rfl).cell 0 _ rfl
  have u1 := (B1.out.blk 0 (w.heap.size) _ rfl rfl).cell 1 _ rfl
  have u2 := (B1.out.blk 0 (w.heap.size) _ rfl rfl).cell 2 _ rfl
  have u3 := (B1.out.blk 0 (w.heap.size) _ rfl rfl).cell 3 _ rfl
  go_wp2_with fail
  go_rounds 5
  go_wp2_with fail
  go_returns
  exact ⟨rfl, B1.out.bel⟩

set_option maxHeartbeats 16000000 in
theorem rEvErr_bad (o0 o1 o2 o3 a b c d n m : Int) (w : World) (h : ¬ OkE o0 o1 o2 o3 a b c d n m) (hm : I32 m) (ho : Q4 o0 o1 o2 o3) : Calls Try.prog 6 #[.agg #[.int .i32 o0, .int .i32 o1, .int .i32 o2, .int .i32 o3], .agg #[.int .i64 a, .int .i64 b, .int .i64 c, .int .i64 d], .int .i64 n, .int .i32 m] w fun e w' => e = .returned (.int .i64 1) ∧ Below w.heap.size w w' := by
  have B0 : Hid (_) := lay2 w #[.int .i32 o0, .int .i32 o1, .int .i32 o2, .int .i32 o3] #[.int .i64 a, .int .i64 b, .int .i64 c, .int .i64 d] 22 23
  obtain ⟨m1, m2⟩ := hm
  obtain ⟨⟨o1a, o1b⟩, ⟨o2a, o2b⟩, ⟨o3a, o3b⟩, ⟨o4a, o4b⟩⟩ := ho
  obtain ⟨i0, i1, i2, i3⟩ := ixI o0 o1 o2 o3
  rcases evWays h with q1 | ⟨q1, q2⟩ | ⟨q1, q2, q3⟩ | ⟨q1, q2, q3, hm | ⟨hm, z | ⟨⟨x0, y0⟩, z⟩ | ⟨⟨x0, y0⟩, ⟨x1, y1⟩, z⟩ | ⟨⟨x0, y0⟩, ⟨x1, y1⟩, ⟨x2, y2⟩, z⟩⟩⟩
  · clear h
    have k1 : ¬ 0 ≤ n := by omega
    clear q1
    go_enter Try.func6, Try.ntmps6
    go_wp2_with fail
    go_rounds 5
    go_wp2_with fail
    go_returns
    exact ⟨rfl, by go_grown⟩
  · clear h
    have k1 : 0 ≤ n := by omega
    have k2 : ¬ n ≤ 30 := by omega
    clear q1 q2
    go_enter Try.func6, Try.ntmps6
    go_wp2_with fail
    go_rounds 5
    go_wp2_with fail
    go_returns
    exact ⟨rfl, by go_grown⟩
  · clear h
    have k1 : 0 ≤ n := by omega
    have k2 : n ≤ 30 := by omega
    have k3 : ¬ 0 ≤ m := by omega
    clear q1 q2 q3
    go_enter Try.func6, Try.ntmps6
    go_wp2_with fail
    go_rounds 5
    go_wp2_with fail
    go_returns
    exact ⟨rfl, by go_grown⟩
  · clear h
    have HM : Hid (_) := hm
    have k1 : 0 ≤ n := by omega
    have k2 : n ≤ 30 := by omega
    have k3 : 0 ≤ m := by omega
    clear hm q1 q2 q3
    go_enter Try.func6, Try.ntmps6
    go_wp2_with fail
    refine (rmodes_bad a b c d _ HM.out).mono ?_
    rintro r w1 ⟨rfl, hb⟩
    have B1 : Hid (_) := B0.out.step hb
    clear hb B0
    have tl := (B1.out.blk 0 (w.heap.size) _ rfl rfl).lt
    have t0 := (B1.out.blk 0 (w.heap.size) _ rfl rfl).cell 0 _ rfl
    have t1 := (B1.out.blk 0 (w.heap.size) _ rfl rfl).cell 1 _ rfl
    have t2 := (B1.out.blk 0 (w.heap.size) _ rfl rfl).cell 2 _ rfl
    have t3 := (B1.out.blk 0 (w.heap.size) _ rfl rfl).cell 3 _ rfl
    go_wp2_with fail
    go_rounds 5
    go_wp2_with fail
    go_returns
    exact ⟨rfl, B1.out.bel⟩
  · clear h
    have HM : Hid (_) := hm
    have k1 : 0 ≤ n := by omega
    have k2 : n ≤ 30 := by omega
    have k3 : 0 ≤ m := by omega
    clear hm q1 q2 q3
    rcases z with z | ⟨z, z2⟩
    · have z3 : ¬ -m ≤ o0 := by omega
      clear z
      go_enter Try.func6, Try.ntmps6
      go_wp2_with fail
      refine (rmodes_ok a b c d _ HM.out.1 HM.out.2.1 HM.out.2.2.1 HM.out.2.2.2).mono ?_
      rintro r w1 ⟨rfl, hb⟩
      have B1 : Hid (_) := B0.out.step hb
      clear hb B0
      have tl := (B1.out.blk 0 (w.heap.size) _ rfl rfl).lt
      have t0 := (B1.out.blk 0 (w.heap.size) _ rfl rfl).cell 0 _ rfl
      have t1 := (B1.out.blk 0 (w.heap.size) _ rfl rfl).cell 1 _ rfl
      have t2 := (B1.out.blk 0 (w.heap.size) _ rfl rfl).cell 2 _ rfl
      have t3 := (B1.out.blk 0 (w.heap.size) _ rfl rfl).cell 3 _ rfl
      go_wp2_with fail
      go_rounds 5
      go_wp2_with fail
      go_returns
      exact ⟨rfl, B1.out.bel⟩
    · have z3 : -m ≤ o0 := by omega
      have z4 : ¬ o0 ≤ m := by omega
      clear z z2
      go_enter Try.func6, Try.ntmps6
      go_wp2_with fail
      refine (rmodes_ok a b c d _ HM.out.1 HM.out.2.1 HM.out.2.2.1 HM.out.2.2.2).mono ?_
      rintro r w1 ⟨rfl, hb⟩
      have B1 : Hid (_) := B0.out.step hb
      clear hb B0
      have tl := (B1.out.blk 0 (w.heap.size) _ rfl rfl).lt
      have t0 := (B1.out.blk 0 (w.heap.size) _ rfl rfl).cell 0 _ rfl
      have t1 := (B1.out.blk 0 (w.heap.size) _ rfl rfl).cell 1 _ rfl
      have t2 := (B1.out.blk 0 (w.heap.size) _ rfl rfl).cell 2 _ rfl
      have t3 := (B1.out.blk 0 (w.heap.size) _ rfl rfl).cell 3 _ rfl
      go_wp2_with fail
      go_rounds 5
      go_wp2_with fail
      go_returns
      exact ⟨rfl, B1.out.bel⟩
  · clear h
    have HM : Hid (_) := hm
    have k1 : 0 ≤ n := by omega
    have k2 : n ≤ 30 := by omega
    have k3 : 0 ≤ m := by omega
    clear hm q1 q2 q3
    have u0 : -m ≤ o0 := by omega
    have v0 : o0 ≤ m := by omega
    clear x0 y0
    rcases z with z | ⟨z, z2⟩
    · have z3 : ¬ -m ≤ o1 := by omega
      clear z
      go_enter Try.func6, Try.ntmps6
      go_wp2_with fail
      refine (rmodes_ok a b c d _ HM.out.1 HM.out.2.1 HM.out.2.2.1 HM.out.2.2.2).mono ?_
      rintro r w1 ⟨rfl, hb⟩
      have B1 : Hid (_) := B0.out.step hb
      clear hb B0
      have tl := (B1.out.blk 0 (w.heap.size) _ rfl rfl).lt
      have t0 := (B1.out.blk 0 (w.heap.size) _ rfl rfl).cell 0 _ rfl
      have t1 := (B1.out.blk 0 (w.heap.size) _ rfl rfl).cell 1 _ rfl
      have t2 := (B1.out.blk 0 (w.heap.size) _ rfl rfl).cell 2 _ rfl
      have t3 := (B1.out.blk 0 (w.heap.size) _ rfl rfl).cell 3 _ rfl
      go_wp2_with fail
      go_rounds 5
      go_wp2_with fail
      go_returns
      exact ⟨rfl, B1.out.bel⟩
    · have z3 : -m ≤ o1 := by omega
      have z4 : ¬ o1 ≤ m := by omega
      clear z z2
      go_enter Try.func6, Try.ntmps6
      go_wp2_with fail
      refine (rmodes_ok a b c d _ HM.out.1 HM.out.2.1 HM.out.2.2.1 HM.out.2.2.2).mono ?_
      rintro r w1 ⟨rfl, hb⟩
      have B1 : Hid (_) := B0.out.step hb
      clear hb B0
      have tl := (B1.out.blk 0 (w.heap.size) _ rfl rfl).lt
      have t0 := (B1.out.blk 0 (w.heap.size) _ rfl rfl).cell 0 _ rfl
      have t1 := (B1.out.blk 0 (w.heap.size) _ rfl rfl).cell 1 _ rfl
      have t2 := (B1.out.blk 0 (w.heap.size) _ rfl rfl).cell 2 _ rfl
      have t3 := (B1.out.blk 0 (w.heap.size) _ rfl rfl).cell 3 _ rfl
      go_wp2_with fail
      go_rounds 5
      go_wp2_with fail
      go_returns
      exact ⟨rfl, B1.out.bel⟩
  · clear h
    have HM : Hid (_) := hm
    have k1 : 0 ≤ n := by omega
    have k2 : n ≤ 30 := by omega
    have k3 : 0 ≤ m := by omega
    clear hm q1 q2 q3
    have u0 : -m ≤ o0 := by omega
    have v0 : o0 ≤ m := by omega
    clear x0 y0
    have u1 : -m ≤ o1 := by omega
    have v1 : o1 ≤ m := by omega
    clear x1 y1
    rcases z with z | ⟨z, z2⟩
    · have z3 : ¬ -m ≤ o2 := by omega
      clear z
      go_enter Try.func6, Try.ntmps6
      go_wp2_with fail
      refine (rmodes_ok a b c d _ HM.out.1 HM.out.2.1 HM.out.2.2.1 HM.out.2.2.2).mono ?_
      rintro r w1 ⟨rfl, hb⟩
      have B1 : Hid (_) := B0.out.step hb
      clear hb B0
      have tl := (B1.out.blk 0 (w.heap.size) _ rfl rfl).lt
      have t0 := (B1.out.blk 0 (w.heap.size) _ rfl rfl).cell 0 _ rfl
      have t1 := (B1.out.blk 0 (w.heap.size) _ rfl rfl).cell 1 _ rfl
      have t2 := (B1.out.blk 0 (w.heap.size) _ rfl rfl).cell 2 _ rfl
      have t3 := (B1.out.blk 0 (w.heap.size) _ rfl rfl).cell 3 _ rfl
      go_wp2_with fail
      go_rounds 5
      go_wp2_with fail
      go_returns
      exact ⟨rfl, B1.out.bel⟩
    · have z3 : -m ≤ o2 := by omega
      have z4 : ¬ o2 ≤ m := by omega
      clear z z2
      go_enter Try.func6, Try.ntmps6
      go_wp2_with fail
      refine (rmodes_ok a b c d _ HM.out.1 HM.out.2.1 HM.out.2.2.1 HM.out.2.2.2).mono ?_
      rintro r w1 ⟨rfl, hb⟩
      have B1 : Hid (_) := B0.out.step hb
      clear hb B0
      have tl := (B1.out.blk 0 (w.heap.size) _ rfl rfl).lt
      have t0 := (B1.out.blk 0 (w.heap.size) _ rfl rfl).cell 0 _ rfl
      have t1 := (B1.out.blk 0 (w.heap.size) _ rfl rfl).cell 1 _ rfl
      have t2 := (B1.out.blk 0 (w.heap.size) _ rfl rfl).cell 2 _ rfl
      have t3 := (B1.out.blk 0 (w.heap.size) _ rfl rfl).cell 3 _ rfl
      go_wp2_with fail
      go_rounds 5
      go_wp2_with fail
      go_returns
      exact ⟨rfl, B1.out.bel⟩
  · clear h
    have HM : Hid (_) := hm
    have k1 : 0 ≤ n := by omega
    have k2 : n ≤ 30 := by omega
    have k3 : 0 ≤ m := by omega
    clear hm q1 q2 q3
    have u0 : -m ≤ o0 := by omega
    have v0 : o0 ≤ m := by omega
    clear x0 y0
    have u1 : -m ≤ o1 := by omega
    have v1 : o1 ≤ m := by omega
    clear x1 y1
    have u2 : -m ≤ o2 := by omega
    have v2 : o2 ≤ m := by omega
    clear x2 y2
    rcases z with z | ⟨z, z2⟩
    · have z3 : ¬ -m ≤ o3 := by omega
      clear z
      go_enter Try.func6, Try.ntmps6
      go_wp2_with fail
      refine (rmodes_ok a b c d _ HM.out.1 HM.out.2.1 HM.out.2.2.1 HM.out.2.2.2).mono ?_
      rintro r w1 ⟨rfl, hb⟩
      have B1 : Hid (_) := B0.out.step hb
      clear hb B0
      have tl := (B1.out.blk 0 (w.heap.size) _ rfl rfl).lt
      have t0 := (B1.out.blk 0 (w.heap.size) _ rfl rfl).cell 0 _ rfl
      have t1 := (B1.out.blk 0 (w.heap.size) _ rfl rfl).cell 1 _ rfl
      have t2 := (B1.out.blk 0 (w.heap.size) _ rfl rfl).cell 2 _ rfl
      have t3 := (B1.out.blk 0 (w.heap.size) _ rfl rfl).cell 3 _ rfl
      go_wp2_with fail
      go_rounds 5
      go_wp2_with fail
      go_returns
      exact ⟨rfl, B1.out.bel⟩
    · have z3 : -m ≤ o3 := by omega
      have z4 : ¬ o3 ≤ m := by omega
      clear z z2
      go_enter Try.func6, Try.ntmps6
      go_wp2_with fail
      refine (rmodes_ok a b c d _ HM.out.1 HM.out.2.1 HM.out.2.2.1 HM.out.2.2.2).mono ?_
      rintro r w1 ⟨rfl, hb⟩
      have B1 : Hid (_) := B0.out.step hb
      clear hb B0
      have tl := (B1.out.blk 0 (w.heap.size) _ rfl rfl).lt
      have t0 := (B1.out.blk 0 (w.heap.size) _ rfl rfl).cell 0 _ rfl
      have t1 := (B1.out.blk 0 (w.heap.size) _ rfl rfl).cell 1 _ rfl
      have t2 := (B1.out.blk 0 (w.heap.size) _ rfl rfl).cell 2 _ rfl
      have t3 := (B1.out.blk 0 (w.heap.size) _ rfl rfl).cell 3 _ rfl
      go_wp2_with fail
      go_rounds 5
      go_wp2_with fail
      go_returns
      exact ⟨rfl, B1.out.bel⟩

end Go.Proofs.Ytfbokeekkbdblaa
