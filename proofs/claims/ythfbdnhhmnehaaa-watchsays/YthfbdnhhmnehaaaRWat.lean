/-
  Contract of the document's Look.
-/
import Derived.Test.YthfbdnhhmnehaaaWat
namespace Go.Proofs.Ythfbdnhhmnehaaa
open Go.RowKit
set_option linter.unusedVariables false

/-- reading an array of three pairs by its place -/
theorem ixP (a b c d e f : Int) : (∀ w : World, (Instr.index 50 (.agg #[.int .i32 a, .int .i32 b, .int .i32 c, .int .i32 d, .int .i32 e, .int .i32 f]) (.int .i64 0)).run Try.prog w = .ok (.agg #[.int .i32 a, .int .i32 b]) w) ∧ (∀ w : World, (Instr.index 50 (.agg #[.int .i32 a, .int .i32 b, .int .i32 c, .int .i32 d, .int .i32 e, .int .i32 f]) (.int .i64 1)).run Try.prog w = .ok (.agg #[.int .i32 c, .int .i32 d]) w) ∧ (∀ w : World, (Instr.index 50 (.agg #[.int .i32 a, .int .i32 b, .int .i32 c, .int .i32 d, .int .i32 e, .int .i32 f]) (.int .i64 2)).run Try.prog w = .ok (.agg #[.int .i32 e, .int .i32 f]) w) :=
  ⟨fun _ => by kernel_rfl, fun _ => by kernel_rfl, fun _ => by kernel_rfl⟩

set_option maxHeartbeats 4000000 in
set_option maxRecDepth 100000 in
theorem rlook_any (m0 m1 m2 m3 m4 u d m x0 x1 x2 x3 x4 x5 : Int) (v : Bool) (w : World) (H : W5 m0 m1 m2 m3 m4 x0 x1 x2 x3 x4 x5) :
    Calls Try.prog 10 #[.agg #[.int .i32 m0, .int .i32 m1, .int .i32 m2, .int .i32 m3, .int .i32 m4, .int .i64 u, .int .i64 d, .int .i64 m], .agg #[.int .i32 x0, .int .i32 x1, .int .i32 x2, .int .i32 x3, .int .i32 x4, .int .i32 x5, .bool v]] w fun e w' => e = .returned (.agg #[.bool (farB m0 x0 x1), .bool (farB m1 x2 x3), .bool (farB m2 x2 x4), .bool (aboveB m3 x5), .bool (!v)]) ∧ Below w.heap.size w w' := by
  obtain ⟨W0, hW0, B0', Z0'⟩ := lay5n w #[.int .i32 m0, .int .i32 m1, .int .i32 m2, .int .i32 m3, .int .i32 m4, .int .i64 u, .int .i64 d, .int .i64 m] #[.int .i32 x0, .int .i32 x1, .int .i32 x2, .int .i32 x3, .int .i32 x4, .int .i32 x5, .bool v] #[.bool false, .bool false, .bool false, .bool false, .bool false] #[.bool false, .bool false, .bool false, .bool false, .bool false] #[.int .i32 x0, .int .i32 x1, .int .i32 x2, .int .i32 x3, .int .i32 x2, .int .i32 x4] 26 31 36 36 50
  have HW : Hid (_) := hW0
  have B0 : Hid (_) := B0'
  have HZ : Hid (_) := Z0'
  clear hW0 B0' Z0'
  obtain ⟨A, hA⟩ : ∃ A : Int → Int → Int, A = fun a b => absI (a - b) := ⟨_, rfl⟩
  have C1 : Hid (∀ a b W, Q32 a → Q32 b → Calls Try.prog 17 #[.int .i32 a, .int .i32 b] W fun e w' => e = .returned (.int .i64 (A a b)) ∧ w' = W) := fun a b W ha hb => by
    rw [hA]
    exact wrapart_any a b W ha hb
  obtain ⟨F, hF⟩ : ∃ F : Int, s32 (absI x5) = F := ⟨_, rfl⟩
  have C2 : Hid (∀ W, Calls Try.prog 18 #[.int .i32 x5] W fun e w' => e = .returned (.int .i32 F) ∧ w' = W) := fun W => by
    rw [← hF]
    exact wrabs_any _ W H.x5
  have e0 : farB m0 x0 x1 = decide (m0 < A x0 x1) := by rw [hA]; rfl
  have e1 : farB m1 x2 x3 = decide (m1 < A x2 x3) := by rw [hA]; rfl
  have e2 : farB m2 x2 x4 = decide (m2 < A x2 x4) := by rw [hA]; rfl
  have e3 : aboveB m3 x5 = decide (m3 < F) := by rw [← hF]; rfl
  rw [e0, e1, e2, e3]
  have HH : Hid (_) := H
  obtain ⟨m0a, m0b⟩ := H.m0
  obtain ⟨m1a, m1b⟩ := H.m1
  obtain ⟨m2a, m2b⟩ := H.m2
  clear hA hF e0 e1 e2 e3 H
  obtain ⟨i0, i1, i2⟩ := ixP x0 x1 x2 x3 x2 x4
  go_enter Try.func10, Try.ntmps10
  go_wp2_with fail
  rw [HW.out]
  have Z0 := HZ.out
  clear HW HZ
  refine wp_loop_rounds 4 ?_
  rw [rounds_succ]
  have q0 := (B0.out.blk 0 (w.heap.size) _ rfl rfl).cell 0 _ rfl
  have ql := (B0.out.blk 0 (w.heap.size) _ rfl rfl).lt
  go_wp2_with fail
  obtain ⟨V0, hV, D', z⟩ := B0.out.new1 Z0 #[.int .i32 x0, .int .i32 x1] 49
  rw [hV]
  have D0 : Hid (_) := D'
  have Y0 : V0.heap.size = w.heap.size + 1 + 1 + 1 + 1 + 1 + 1 := z
  clear hV z D' B0 Z0 q0 ql
  have q0 := (D0.out.blk 0 (w.heap.size) _ rfl rfl).cell 0 _ rfl
  have ql := (D0.out.blk 0 (w.heap.size) _ rfl rfl).lt
  have r0 := (D0.out.blk 3 (w.heap.size + 1 + 1 + 1) _ rfl rfl).cell 0 _ rfl
  have rf := (D0.out.blk 3 (w.heap.size + 1 + 1 + 1) _ rfl rfl).froz 0 _ rfl
  have rl := (D0.out.blk 3 (w.heap.size + 1 + 1 + 1) _ rfl rfl).lt
  have pl := (D0.out.blk 5 (w.heap.size + 1 + 1 + 1 + 1 + 1) _ rfl rfl).lt
  have p0 := (D0.out.blk 5 (w.heap.size + 1 + 1 + 1 + 1 + 1) _ rfl rfl).cell 0 _ rfl
  have p1 := (D0.out.blk 5 (w.heap.size + 1 + 1 + 1 + 1 + 1) _ rfl rfl).cell 1 _ rfl
  have f0 : ¬ w.heap.size = w.heap.size + 1 + 1 + 1 := by omega
  have f1 : ¬ w.heap.size + 1 + 1 + 1 = w.heap.size := by omega
  have f2 : ¬ w.heap.size + 1 + 1 + 1 + 1 + 1 = w.heap.size + 1 + 1 + 1 := by omega
  have f3 : ¬ w.heap.size + 1 + 1 + 1 = w.heap.size + 1 + 1 + 1 + 1 + 1 := by omega
  go_region_held3 (fun w' => (w'.cell? ⟨w.heap.size + 1 + 1 + 1 + 1 + 1, 0, none⟩ = some (.int .i32 x0) ∧ w'.cell? ⟨w.heap.size + 1 + 1 + 1 + 1 + 1, 1, none⟩ = some (.int .i32 x1)) ∧ w'.cell? ⟨w.heap.size, 0, none⟩ = some (.int .i32 m0)) (go_keep) (first | (go_at_call 17; refine (C1.out _ _ _ HH.out.x0 HH.out.x1).mono ?_; rintro r w5 ⟨rfl, rfl⟩))
  clear f0 f1 f2 f3 q0 ql r0 rf rl p0 p1 pl
  obtain ⟨w3, hw3, E', z⟩ := D0.out.put1 3 (w.heap.size + 1 + 1 + 1) 0 _ (.bool (decide (IntKind.i64.wrap m0 < A x0 x1))) rfl rfl (by simp)
  rw [hw3]
  have e : IntKind.i64.wrap m0 = m0 := by rw [IntKind.wrap_i64]; omega
  rw [e] at E'
  have B1 : Hid (_) := E'.drew
  have Z1 : w3.drew.heap.size = w.heap.size + 1 + 1 + 1 + 1 + 1 + 1 := z.trans Y0
  clear e E' z hw3 D0
  generalize w3.drew = W1 at *
  go_wp2_with fail
  rw [rounds_succ]
  have q0 := (B1.out.blk 0 (w.heap.size) _ rfl rfl).cell 1 _ rfl
  have ql := (B1.out.blk 0 (w.heap.size) _ rfl rfl).lt
  go_wp2_with fail
  obtain ⟨V1, hV, D', z⟩ := B1.out.new1 Z1 #[.int .i32 x2, .int .i32 x3] 49
  rw [hV]
  have D1 : Hid (_) := D'
  have Y1 : V1.heap.size = w.heap.size + 1 + 1 + 1 + 1 + 1 + 1 + 1 := z
  clear hV z D' B1 Z1 q0 ql
  have q0 := (D1.out.blk 0 (w.heap.size) _ rfl rfl).cell 1 _ rfl
  have ql := (D1.out.blk 0 (w.heap.size) _ rfl rfl).lt
  have r0 := (D1.out.blk 3 (w.heap.size + 1 + 1 + 1) _ rfl rfl).cell 1 _ rfl
  have rf := (D1.out.blk 3 (w.heap.size + 1 + 1 + 1) _ rfl rfl).froz 1 _ rfl
  have rl := (D1.out.blk 3 (w.heap.size + 1 + 1 + 1) _ rfl rfl).lt
  have pl := (D1.out.blk 6 (w.heap.size + 1 + 1 + 1 + 1 + 1 + 1) _ rfl rfl).lt
  have p0 := (D1.out.blk 6 (w.heap.size + 1 + 1 + 1 + 1 + 1 + 1) _ rfl rfl).cell 0 _ rfl
  have p1 := (D1.out.blk 6 (w.heap.size + 1 + 1 + 1 + 1 + 1 + 1) _ rfl rfl).cell 1 _ rfl
  have f0 : ¬ w.heap.size = w.heap.size + 1 + 1 + 1 := by omega
  have f1 : ¬ w.heap.size + 1 + 1 + 1 = w.heap.size := by omega
  have f2 : ¬ w.heap.size + 1 + 1 + 1 + 1 + 1 + 1 = w.heap.size + 1 + 1 + 1 := by omega
  have f3 : ¬ w.heap.size + 1 + 1 + 1 = w.heap.size + 1 + 1 + 1 + 1 + 1 + 1 := by omega
  go_region_held3 (fun w' => (w'.cell? ⟨w.heap.size + 1 + 1 + 1 + 1 + 1 + 1, 0, none⟩ = some (.int .i32 x2) ∧ w'.cell? ⟨w.heap.size + 1 + 1 + 1 + 1 + 1 + 1, 1, none⟩ = some (.int .i32 x3)) ∧ w'.cell? ⟨w.heap.size, 1, none⟩ = some (.int .i32 m1)) (go_keep) (first | (go_at_call 17; refine (C1.out _ _ _ HH.out.x2 HH.out.x3).mono ?_; rintro r w5 ⟨rfl, rfl⟩))
  clear f0 f1 f2 f3 q0 ql r0 rf rl p0 p1 pl
  obtain ⟨w3, hw3, E', z⟩ := D1.out.put1 3 (w.heap.size + 1 + 1 + 1) 1 _ (.bool (decide (IntKind.i64.wrap m1 < A x2 x3))) rfl rfl (by simp)
  rw [hw3]
  have e : IntKind.i64.wrap m1 = m1 := by rw [IntKind.wrap_i64]; omega
  rw [e] at E'
  have B2 : Hid (_) := E'.drew
  have Z2 : w3.drew.heap.size = w.heap.size + 1 + 1 + 1 + 1 + 1 + 1 + 1 := z.trans Y1
  clear e E' z hw3 D1
  generalize w3.drew = W2 at *
  go_wp2_with fail
  rw [rounds_succ]
  have q0 := (B2.out.blk 0 (w.heap.size) _ rfl rfl).cell 2 _ rfl
  have ql := (B2.out.blk 0 (w.heap.size) _ rfl rfl).lt
  go_wp2_with fail
  obtain ⟨V2, hV, D', z⟩ := B2.out.new1 Z2 #[.int .i32 x2, .int .i32 x4] 49
  rw [hV]
  have D2 : Hid (_) := D'
  have Y2 : V2.heap.size = w.heap.size + 1 + 1 + 1 + 1 + 1 + 1 + 1 + 1 := z
  clear hV z D' B2 Z2 q0 ql
  have q0 := (D2.out.blk 0 (w.heap.size) _ rfl rfl).cell 2 _ rfl
  have ql := (D2.out.blk 0 (w.heap.size) _ rfl rfl).lt
  have r0 := (D2.out.blk 3 (w.heap.size + 1 + 1 + 1) _ rfl rfl).cell 2 _ rfl
  have rf := (D2.out.blk 3 (w.heap.size + 1 + 1 + 1) _ rfl rfl).froz 2 _ rfl
  have rl := (D2.out.blk 3 (w.heap.size + 1 + 1 + 1) _ rfl rfl).lt
  have pl := (D2.out.blk 7 (w.heap.size + 1 + 1 + 1 + 1 + 1 + 1 + 1) _ rfl rfl).lt
  have p0 := (D2.out.blk 7 (w.heap.size + 1 + 1 + 1 + 1 + 1 + 1 + 1) _ rfl rfl).cell 0 _ rfl
  have p1 := (D2.out.blk 7 (w.heap.size + 1 + 1 + 1 + 1 + 1 + 1 + 1) _ rfl rfl).cell 1 _ rfl
  have f0 : ¬ w.heap.size = w.heap.size + 1 + 1 + 1 := by omega
  have f1 : ¬ w.heap.size + 1 + 1 + 1 = w.heap.size := by omega
  have f2 : ¬ w.heap.size + 1 + 1 + 1 + 1 + 1 + 1 + 1 = w.heap.size + 1 + 1 + 1 := by omega
  have f3 : ¬ w.heap.size + 1 + 1 + 1 = w.heap.size + 1 + 1 + 1 + 1 + 1 + 1 + 1 := by omega
  go_region_held3 (fun w' => (w'.cell? ⟨w.heap.size + 1 + 1 + 1 + 1 + 1 + 1 + 1, 0, none⟩ = some (.int .i32 x2) ∧ w'.cell? ⟨w.heap.size + 1 + 1 + 1 + 1 + 1 + 1 + 1, 1, none⟩ = some (.int .i32 x4)) ∧ w'.cell? ⟨w.heap.size, 2, none⟩ = some (.int .i32 m2)) (go_keep) (first | (go_at_call 17; refine (C1.out _ _ _ HH.out.x2 HH.out.x4).mono ?_; rintro r w5 ⟨rfl, rfl⟩))
  clear f0 f1 f2 f3 q0 ql r0 rf rl p0 p1 pl
  obtain ⟨w3, hw3, E', z⟩ := D2.out.put1 3 (w.heap.size + 1 + 1 + 1) 2 _ (.bool (decide (IntKind.i64.wrap m2 < A x2 x4))) rfl rfl (by simp)
  rw [hw3]
  have e : IntKind.i64.wrap m2 = m2 := by rw [IntKind.wrap_i64]; omega
  rw [e] at E'
  have B3 : Hid (_) := E'.drew
  have Z3 : w3.drew.heap.size = w.heap.size + 1 + 1 + 1 + 1 + 1 + 1 + 1 + 1 := z.trans Y2
  clear e E' z hw3 D2
  generalize w3.drew = W3 at *
  go_wp2_with fail
  rw [rounds_succ]
  have r0 := (B3.out.blk 3 (w.heap.size + 1 + 1 + 1) _ rfl rfl).cell 3 _ rfl
  have rf := (B3.out.blk 3 (w.heap.size + 1 + 1 + 1) _ rfl rfl).froz 3 _ rfl
  have rl := (B3.out.blk 3 (w.heap.size + 1 + 1 + 1) _ rfl rfl).lt
  have q0 := (B3.out.blk 0 (w.heap.size) _ rfl rfl).cell 3 _ rfl
  have ql := (B3.out.blk 0 (w.heap.size) _ rfl rfl).lt
  have p0 := (B3.out.blk 1 (w.heap.size + 1) _ rfl rfl).cell 5 _ rfl
  have pl := (B3.out.blk 1 (w.heap.size + 1) _ rfl rfl).lt
  have f0 : ¬ w.heap.size = w.heap.size + 1 + 1 + 1 := by omega
  have f1 : ¬ w.heap.size + 1 + 1 + 1 = w.heap.size := by omega
  have f2 : ¬ w.heap.size = w.heap.size + 1 + 1 := by omega
  have f3 : ¬ w.heap.size + 1 + 1 = w.heap.size := by omega
  go_wp2_with fail
  go_region_held3 (fun w' => w'.cell? ⟨w.heap.size + 1, 5, none⟩ = some (.int .i32 x5) ∧ w'.cell? ⟨w.heap.size, 3, none⟩ = some (.int .i32 m3)) (go_keep) (first | (go_at_call 18; refine (C2.out _).mono ?_; rintro r w5 ⟨rfl, rfl⟩))
  clear f0 f1 f2 f3 q0 ql r0 rf rl p0 pl
  obtain ⟨w3, hw3, E', z⟩ := B3.out.put1 3 (w.heap.size + 1 + 1 + 1) 3 _ (.bool (decide (m3 < F))) rfl rfl (by simp)
  rw [hw3]
  have B4 : Hid (_) := E'.drew
  have Z4 : w3.drew.heap.size = w.heap.size + 1 + 1 + 1 + 1 + 1 + 1 + 1 + 1 := z.trans Z3
  clear E' z hw3 B3 Z3
  generalize w3.drew = W4 at *
  have rl := (B4.out.blk 3 (w.heap.size + 1 + 1 + 1) _ rfl rfl).lt
  have r0 := (B4.out.blk 3 (w.heap.size + 1 + 1 + 1) _ rfl rfl).cell 0 _ rfl
  have r1 := (B4.out.blk 3 (w.heap.size + 1 + 1 + 1) _ rfl rfl).cell 1 _ rfl
  have r2 := (B4.out.blk 3 (w.heap.size + 1 + 1 + 1) _ rfl rfl).cell 2 _ rfl
  have r3 := (B4.out.blk 3 (w.heap.size + 1 + 1 + 1) _ rfl rfl).cell 3 _ rfl
  have r4 := (B4.out.blk 3 (w.heap.size + 1 + 1 + 1) _ rfl rfl).cell 4 _ rfl
  have rf0 := (B4.out.blk 3 (w.heap.size + 1 + 1 + 1) _ rfl rfl).froz 0 _ rfl
  have rf1 := (B4.out.blk 3 (w.heap.size + 1 + 1 + 1) _ rfl rfl).froz 1 _ rfl
  have rf2 := (B4.out.blk 3 (w.heap.size + 1 + 1 + 1) _ rfl rfl).froz 2 _ rfl
  have rf3 := (B4.out.blk 3 (w.heap.size + 1 + 1 + 1) _ rfl rfl).froz 3 _ rfl
  have rf4 := (B4.out.blk 3 (w.heap.size + 1 + 1 + 1) _ rfl rfl).froz 4 _ rfl
  have kl := (B4.out.blk 2 (w.heap.size + 1 + 1) _ rfl rfl).lt
  have k0 := (B4.out.blk 2 (w.heap.size + 1 + 1) _ rfl rfl).cell 0 _ rfl
  have k1 := (B4.out.blk 2 (w.heap.size + 1 + 1) _ rfl rfl).cell 1 _ rfl
  have k2 := (B4.out.blk 2 (w.heap.size + 1 + 1) _ rfl rfl).cell 2 _ rfl
  have k3 := (B4.out.blk 2 (w.heap.size + 1 + 1) _ rfl rfl).cell 3 _ rfl
  have k4 := (B4.out.blk 2 (w.heap.size + 1 + 1) _ rfl rfl).cell 4 _ rfl
  have kf0 := (B4.out.blk 2 (w.heap.size + 1 + 1) _ rfl rfl).froz 0 _ rfl
  have kf1 := (B4.out.blk 2 (w.heap.size + 1 + 1) _ rfl rfl).froz 1 _ rfl
  have kf2 := (B4.out.blk 2 (w.heap.size + 1 + 1) _ rfl rfl).froz 2 _ rfl
  have kf3 := (B4.out.blk 2 (w.heap.size + 1 + 1) _ rfl rfl).froz 3 _ rfl
  have kf4 := (B4.out.blk 2 (w.heap.size + 1 + 1) _ rfl rfl).froz 4 _ rfl
  have pl := (B4.out.blk 1 (w.heap.size + 1) _ rfl rfl).lt
  have p0 := (B4.out.blk 1 (w.heap.size + 1) _ rfl rfl).cell 0 _ rfl
  have p1 := (B4.out.blk 1 (w.heap.size + 1) _ rfl rfl).cell 1 _ rfl
  have p2 := (B4.out.blk 1 (w.heap.size + 1) _ rfl rfl).cell 2 _ rfl
  have p3 := (B4.out.blk 1 (w.heap.size + 1) _ rfl rfl).cell 3 _ rfl
  have p4 := (B4.out.blk 1 (w.heap.size + 1) _ rfl rfl).cell 4 _ rfl
  have p5 := (B4.out.blk 1 (w.heap.size + 1) _ rfl rfl).cell 5 _ rfl
  have p6 := (B4.out.blk 1 (w.heap.size + 1) _ rfl rfl).cell 6 _ rfl
  go_wp2_with fail
  obtain ⟨w5, hw5, E', z⟩ := B4.out.put1 3 (w.heap.size + 1 + 1 + 1) 4 _ (.bool (!v)) rfl rfl (by simp)
  rw [hw5]
  obtain ⟨w6, hw6, B6⟩ := E'.put5 2 (w.heap.size + 1 + 1) (.bool (decide (m0 < A x0 x1))) (.bool (decide (m1 < A x2 x3))) (.bool (decide (m2 < A x2 x4))) (.bool (decide (m3 < F))) (.bool (!v)) rfl rfl
  rw [hw6]
  have yl := (B6.blk 2 (w.heap.size + 1 + 1) _ rfl rfl).lt
  have y0 := (B6.blk 2 (w.heap.size + 1 + 1) _ rfl rfl).cell 0 _ rfl
  have y1 := (B6.blk 2 (w.heap.size + 1 + 1) _ rfl rfl).cell 1 _ rfl
  have y2 := (B6.blk 2 (w.heap.size + 1 + 1) _ rfl rfl).cell 2 _ rfl
  have y3 := (B6.blk 2 (w.heap.size + 1 + 1) _ rfl rfl).cell 3 _ rfl
  have y4 := (B6.blk 2 (w.heap.size + 1 + 1) _ rfl rfl).cell 4 _ rfl
  refine bodyPost_ret (by simp [results, Try.results10, go_sem, y0, y1, y2, y3, y4]; try rfl) rfl ?_
  exact ⟨rfl, B6.bel⟩

end Go.Proofs.Ythfbdnhhmnehaaa
