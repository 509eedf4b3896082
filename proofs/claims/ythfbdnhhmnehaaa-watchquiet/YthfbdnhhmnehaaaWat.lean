/-
  Contracts of watch.apart, watch.Look and the document's apart, abs, Look: each returns what plain functions of whole numbers give.
-/
import Derived.Test.YthfbdnhhmnehaaaRefSat
import Derived.Test.YthfbdnhhmnehaaaLay
import Derived.Deep.RegionHeld3
import Derived.Deep.DeepCutAuto
import Derived.Deep.LoopGhost
import Derived.BigQuiet
namespace Go.Proofs.Ythfbdnhhmnehaaa
open Go.RowKit
set_option linter.unusedVariables false

/-- a number of 32 bits -/
def Q32 (a : Int) : Prop := -2147483648 ≤ a ∧ a ≤ 2147483647
theorem s32_Q (n : Int) : Q32 (s32 n) := by
  unfold Q32 s32 bnd
  repeat' split
  all_goals omega
/-- two numbers are farther apart than m; a number without its sign is above m -/
def farB (m a b : Int) : Bool := decide (m < absI (a - b))
def aboveB (m a : Int) : Bool := decide (m < s32 (absI a))
theorem run_max_abs (D : Int) (ts : Array TypeId) (t : TypeId) (W : World) : (Builtin.max_ ts t #[.int .i64 D, .int .i64 (-D)]).run Try.prog W = .ok (.int .i64 (absI D)) W := by
  rw [run_max_int2 W ts t .i64 .i64 D (-D)]
  have : (if -D > D then -D else D) = absI D := by unfold absI; split <;> split <;> omega
  rw [this]

set_option maxHeartbeats 400000 in
theorem wapart_any (a b : Int) (w : World) (ha : Q32 a) (hb : Q32 b) : Calls Try.prog 15 #[.int .i32 a, .int .i32 b] w fun e w' => e = .returned (.int .i64 (absI (a - b))) ∧ w' = w := by
  obtain ⟨a1, a2⟩ := ha
  obtain ⟨b1, b2⟩ := hb
  have MX := run_max_abs (a - b)
  generalize absI (a - b) = M at *
  go_enter Try.func15, Try.ntmps15
  go_wp2_with fail
  go_ret
  exact ⟨rfl, rfl⟩

set_option maxHeartbeats 400000 in
theorem wrapart_any (a b : Int) (w : World) (ha : Q32 a) (hb : Q32 b) : Calls Try.prog 17 #[.int .i32 a, .int .i32 b] w fun e w' => e = .returned (.int .i64 (absI (a - b))) ∧ w' = w := by
  obtain ⟨a1, a2⟩ := ha
  obtain ⟨b1, b2⟩ := hb
  have MX := run_max_abs (a - b)
  generalize absI (a - b) = M at *
  go_enter Try.func17, Try.ntmps17
  go_wp2_with fail
  go_ret
  exact ⟨rfl, rfl⟩

set_option maxHeartbeats 400000 in
theorem wrabs_any (a : Int) (w : World) (ha : Q32 a) : Calls Try.prog 18 #[.int .i32 a] w fun e w' => e = .returned (.int .i32 (s32 (absI a))) ∧ w' = w := by
  obtain ⟨a1, a2⟩ := ha
  have MX := run_max_abs a
  generalize absI a = M at *
  go_enter Try.func18, Try.ntmps18
  go_wp2_with (go_at_call 23; refine (rsat_any _ _).mono ?_; rintro e w' ⟨rfl, rfl⟩)
  go_ret
  exact ⟨rfl, rfl⟩

/-- reading an array of five bools, or of four numbers, by its place -/
theorem ixB (b0 b1 b2 b3 b4 : Bool) : (∀ w : World, (Instr.index 36 (.agg #[.bool b0, .bool b1, .bool b2, .bool b3, .bool b4]) (.int .i64 0)).run Try.prog w = .ok (.bool b0) w) ∧ (∀ w : World, (Instr.index 36 (.agg #[.bool b0, .bool b1, .bool b2, .bool b3, .bool b4]) (.int .i64 1)).run Try.prog w = .ok (.bool b1) w) ∧ (∀ w : World, (Instr.index 36 (.agg #[.bool b0, .bool b1, .bool b2, .bool b3, .bool b4]) (.int .i64 2)).run Try.prog w = .ok (.bool b2) w) ∧ (∀ w : World, (Instr.index 36 (.agg #[.bool b0, .bool b1, .bool b2, .bool b3, .bool b4]) (.int .i64 3)).run Try.prog w = .ok (.bool b3) w) ∧ (∀ w : World, (Instr.index 36 (.agg #[.bool b0, .bool b1, .bool b2, .bool b3, .bool b4]) (.int .i64 4)).run Try.prog w = .ok (.bool b4) w) :=
  ⟨fun _ => by kernel_rfl, fun _ => by kernel_rfl, fun _ => by kernel_rfl, fun _ => by kernel_rfl, fun _ => by kernel_rfl⟩
theorem ixM (a b c d e : Int) : (∀ w : World, (Instr.index 22 (.agg #[.int .i32 a, .int .i32 b, .int .i32 c, .int .i32 d, .int .i32 e]) (.int .i64 0)).run Try.prog w = .ok (.int .i32 a) w) ∧ (∀ w : World, (Instr.index 22 (.agg #[.int .i32 a, .int .i32 b, .int .i32 c, .int .i32 d, .int .i32 e]) (.int .i64 1)).run Try.prog w = .ok (.int .i32 b) w) ∧ (∀ w : World, (Instr.index 22 (.agg #[.int .i32 a, .int .i32 b, .int .i32 c, .int .i32 d, .int .i32 e]) (.int .i64 2)).run Try.prog w = .ok (.int .i32 c) w) ∧ (∀ w : World, (Instr.index 22 (.agg #[.int .i32 a, .int .i32 b, .int .i32 c, .int .i32 d, .int .i32 e]) (.int .i64 3)).run Try.prog w = .ok (.int .i32 d) w) ∧ (∀ w : World, (Instr.index 22 (.agg #[.int .i32 a, .int .i32 b, .int .i32 c, .int .i32 d, .int .i32 e]) (.int .i64 4)).run Try.prog w = .ok (.int .i32 e) w) :=
  ⟨fun _ => by kernel_rfl, fun _ => by kernel_rfl, fun _ => by kernel_rfl, fun _ => by kernel_rfl, fun _ => by kernel_rfl⟩
theorem ixL (a b c d : Int) : (∀ w : World, (Instr.index 48 (.agg #[.int .i64 a, .int .i64 b, .int .i64 c, .int .i64 d]) (.int .i64 0)).run Try.prog w = .ok (.int .i64 a) w) ∧ (∀ w : World, (Instr.index 48 (.agg #[.int .i64 a, .int .i64 b, .int .i64 c, .int .i64 d]) (.int .i64 1)).run Try.prog w = .ok (.int .i64 b) w) ∧ (∀ w : World, (Instr.index 48 (.agg #[.int .i64 a, .int .i64 b, .int .i64 c, .int .i64 d]) (.int .i64 2)).run Try.prog w = .ok (.int .i64 c) w) ∧ (∀ w : World, (Instr.index 48 (.agg #[.int .i64 a, .int .i64 b, .int .i64 c, .int .i64 d]) (.int .i64 3)).run Try.prog w = .ok (.int .i64 d) w) :=
  ⟨fun _ => by kernel_rfl, fun _ => by kernel_rfl, fun _ => by kernel_rfl, fun _ => by kernel_rfl⟩

/-- the numbers of a watch and a lane are of 32 bits -/
structure W5 (m0 m1 m2 m3 m4 x0 x1 x2 x3 x4 x5 : Int) : Prop where
  m0 : Q32 m0
  m1 : Q32 m1
  m2 : Q32 m2
  m3 : Q32 m3
  m4 : Q32 m4
  x0 : Q32 x0
  x1 : Q32 x1
  x2 : Q32 x2
  x3 : Q32 x3
  x4 : Q32 x4
  x5 : Q32 x5

set_option maxHeartbeats 4000000 in
set_option maxRecDepth 100000 in
theorem look_any (m0 m1 m2 m3 m4 u d m x0 x1 x2 x3 x4 x5 : Int) (v : Bool) (w : World) (H : W5 m0 m1 m2 m3 m4 x0 x1 x2 x3 x4 x5) :
    Calls Try.prog 9 #[.agg #[.int .i32 m0, .int .i32 m1, .int .i32 m2, .int .i32 m3, .int .i32 m4, .int .i64 u, .int .i64 d, .int .i64 m], .agg #[.int .i32 x0, .int .i32 x1, .int .i32 x2, .int .i32 x3, .int .i32 x4, .int .i32 x5, .bool v]] w fun e w' => e = .returned (.agg #[.bool (farB m0 x0 x1), .bool (farB m1 x2 x3), .bool (farB m2 x2 x4), .bool (aboveB m3 x5), .bool (!v)]) ∧ Below w.heap.size w w' := by
  have B0 : Hid (_) := lay3 w #[.int .i32 m0, .int .i32 m1, .int .i32 m2, .int .i32 m3, .int .i32 m4, .int .i64 u, .int .i64 d, .int .i64 m] #[.int .i32 x0, .int .i32 x1, .int .i32 x2, .int .i32 x3, .int .i32 x4, .int .i32 x5, .bool v] #[.bool false, .bool false, .bool false, .bool false, .bool false] 26 31 36
  obtain ⟨A, hA⟩ : ∃ A : Int → Int → Int, A = fun a b => absI (a - b) := ⟨_, rfl⟩
  have C1 : Hid (∀ a b W, Q32 a → Q32 b → Calls Try.prog 15 #[.int .i32 a, .int .i32 b] W fun e w' => e = .returned (.int .i64 (A a b)) ∧ w' = W) := fun a b W ha hb => by
    rw [hA]
    exact wapart_any a b W ha hb
  obtain ⟨F, hF⟩ : ∃ F : Int, s32 (absI x5) = F := ⟨_, rfl⟩
  have C2 : Hid (∀ W, Calls Try.prog 16 #[.int .i32 x5] W fun e w' => e = .returned (.int .i32 F) ∧ w' = W) := fun W => by
    rw [← hF]
    exact abs_any _ H.x5.1 H.x5.2 W
  have FQ : Q32 F := by rw [← hF]; exact s32_Q _
  have e0 : farB m0 x0 x1 = decide (m0 < A x0 x1) := by rw [hA]; rfl
  have e1 : farB m1 x2 x3 = decide (m1 < A x2 x3) := by rw [hA]; rfl
  have e2 : farB m2 x2 x4 = decide (m2 < A x2 x4) := by rw [hA]; rfl
  have e3 : aboveB m3 x5 = decide (m3 < F) := by rw [← hF]; rfl
  rw [e0, e1, e2, e3]
  have HH : Hid (_) := H
  obtain ⟨F1, F2⟩ := FQ
  clear hA hF e0 e1 e2 e3
  go_enter Try.func9, Try.ntmps9
  go_wp2_with fail
  have Z0 : (((w.alloc (.cells #[.int .i32 m0, .int .i32 m1, .int .i32 m2, .int .i32 m3, .int .i32 m4, .int .i64 u, .int .i64 d, .int .i64 m] 26)).alloc (.cells #[.int .i32 x0, .int .i32 x1, .int .i32 x2, .int .i32 x3, .int .i32 x4, .int .i32 x5, .bool v] 31)).alloc (.cells #[.bool false, .bool false, .bool false, .bool false, .bool false] 36)).heap.size = w.heap.size + 1 + 1 + 1 := by simp
  generalize ((w.alloc (.cells #[.int .i32 m0, .int .i32 m1, .int .i32 m2, .int .i32 m3, .int .i32 m4, .int .i64 u, .int .i64 d, .int .i64 m] 26)).alloc (.cells #[.int .i32 x0, .int .i32 x1, .int .i32 x2, .int .i32 x3, .int .i32 x4, .int .i32 x5, .bool v] 31)).alloc (.cells #[.bool false, .bool false, .bool false, .bool false, .bool false] 36) = W at *
  have pl := (B0.out.blk 1 (w.heap.size + 1) _ rfl rfl).lt
  have p0 := (B0.out.blk 1 (w.heap.size + 1) _ rfl rfl).cell 0 _ rfl
  have p1 := (B0.out.blk 1 (w.heap.size + 1) _ rfl rfl).cell 1 _ rfl
  have p2 := (B0.out.blk 1 (w.heap.size + 1) _ rfl rfl).cell 2 _ rfl
  have p3 := (B0.out.blk 1 (w.heap.size + 1) _ rfl rfl).cell 3 _ rfl
  have p4 := (B0.out.blk 1 (w.heap.size + 1) _ rfl rfl).cell 4 _ rfl
  have p5 := (B0.out.blk 1 (w.heap.size + 1) _ rfl rfl).cell 5 _ rfl
  have p6 := (B0.out.blk 1 (w.heap.size + 1) _ rfl rfl).cell 6 _ rfl
  go_cut [5] (fun s5 wc => s5 = .pointer (some ⟨w.heap.size + 1 + 1 + 1, 0, none⟩) ∧ Hid (Lay w [[.int .i32 m0, .int .i32 m1, .int .i32 m2, .int .i32 m3, .int .i32 m4, .int .i64 u, .int .i64 d, .int .i64 m], [.int .i32 x0, .int .i32 x1, .int .i32 x2, .int .i32 x3, .int .i32 x4, .int .i32 x5, .bool v], [.bool false, .bool false, .bool false, .bool false, .bool false], [.int .i64 (A x0 x1), .int .i64 (A x2 x3), .int .i64 (A x2 x4), .int .i64 (IntKind.i64.wrap F)]] wc) ∧ wc.heap.size = w.heap.size + 1 + 1 + 1 + 1)
  case first =>
    go_region_held3 (fun w' => w'.cell? ⟨w.heap.size + 1, 0, none⟩ = some (.int .i32 x0) ∧ w'.cell? ⟨w.heap.size + 1, 1, none⟩ = some (.int .i32 x1) ∧ w'.cell? ⟨w.heap.size + 1, 2, none⟩ = some (.int .i32 x2) ∧ w'.cell? ⟨w.heap.size + 1, 3, none⟩ = some (.int .i32 x3) ∧ w'.cell? ⟨w.heap.size + 1, 4, none⟩ = some (.int .i32 x4) ∧ w'.cell? ⟨w.heap.size + 1, 5, none⟩ = some (.int .i32 x5)) (go_keep) (first | (go_at_call 15; refine (C1.out _ _ _ (by first | exact HH.out.x0 | exact HH.out.x2) (by first | exact HH.out.x1 | exact HH.out.x3 | exact HH.out.x4)).mono ?_; rintro r w5 ⟨rfl, rfl⟩) | (go_at_call 16; refine (C2.out _).mono ?_; rintro r w5 ⟨rfl, rfl⟩))
    all_goals (try go_wp2)
    all_goals go_meet
    all_goals exact ⟨rfl, (B0.out.push Z0 _ _).drew, by simp [Z0]⟩
  case rest =>
    obtain ⟨rfl, B1, Z1⟩ := hcut
    clear B0 Z0
    clear pl p0 p1 p2 p3 p4 p5 p6
    obtain ⟨m0a, m0b⟩ := HH.out.m0
    obtain ⟨m1a, m1b⟩ := HH.out.m1
    obtain ⟨m2a, m2b⟩ := HH.out.m2
    obtain ⟨m3a, m3b⟩ := HH.out.m3
    have e : IntKind.i64.wrap F = F := by rw [IntKind.wrap_i64]; omega
    rw [e] at B1
    clear e F1 F2
    obtain ⟨i0, i1, i2, i3⟩ := ixL (A x0 x1) (A x2 x3) (A x2 x4) F
    have ql := (B1.out.blk 0 (w.heap.size) _ rfl rfl).lt
    have q0 := (B1.out.blk 0 (w.heap.size) _ rfl rfl).cell 0 _ rfl
    have q1 := (B1.out.blk 0 (w.heap.size) _ rfl rfl).cell 1 _ rfl
    have q2 := (B1.out.blk 0 (w.heap.size) _ rfl rfl).cell 2 _ rfl
    have q3 := (B1.out.blk 0 (w.heap.size) _ rfl rfl).cell 3 _ rfl
    have q4 := (B1.out.blk 0 (w.heap.size) _ rfl rfl).cell 4 _ rfl
    have q5 := (B1.out.blk 0 (w.heap.size) _ rfl rfl).cell 5 _ rfl
    have q6 := (B1.out.blk 0 (w.heap.size) _ rfl rfl).cell 6 _ rfl
    have q7 := (B1.out.blk 0 (w.heap.size) _ rfl rfl).cell 7 _ rfl
    have p6 := (B1.out.blk 1 (w.heap.size + 1) _ rfl rfl).cell 6 _ rfl
    have pl := (B1.out.blk 1 (w.heap.size + 1) _ rfl rfl).lt
    clear q5 q6 q7
    have rl := (B1.out.blk 2 (w.heap.size + 1 + 1) _ rfl rfl).lt
    have r0 := (B1.out.blk 2 (w.heap.size + 1 + 1) _ rfl rfl).cell 0 _ rfl
    have r1 := (B1.out.blk 2 (w.heap.size + 1 + 1) _ rfl rfl).cell 1 _ rfl
    have r2 := (B1.out.blk 2 (w.heap.size + 1 + 1) _ rfl rfl).cell 2 _ rfl
    have r3 := (B1.out.blk 2 (w.heap.size + 1 + 1) _ rfl rfl).cell 3 _ rfl
    have r4 := (B1.out.blk 2 (w.heap.size + 1 + 1) _ rfl rfl).cell 4 _ rfl
    have rf0 := (B1.out.blk 2 (w.heap.size + 1 + 1) _ rfl rfl).froz 0 _ rfl
    have rf1 := (B1.out.blk 2 (w.heap.size + 1 + 1) _ rfl rfl).froz 1 _ rfl
    have rf2 := (B1.out.blk 2 (w.heap.size + 1 + 1) _ rfl rfl).froz 2 _ rfl
    have rf3 := (B1.out.blk 2 (w.heap.size + 1 + 1) _ rfl rfl).froz 3 _ rfl
    have rf4 := (B1.out.blk 2 (w.heap.size + 1 + 1) _ rfl rfl).froz 4 _ rfl
    have kl := (B1.out.blk 3 (w.heap.size + 1 + 1 + 1) _ rfl rfl).lt
    have k0 := (B1.out.blk 3 (w.heap.size + 1 + 1 + 1) _ rfl rfl).cell 0 _ rfl
    have k1 := (B1.out.blk 3 (w.heap.size + 1 + 1 + 1) _ rfl rfl).cell 1 _ rfl
    have k2 := (B1.out.blk 3 (w.heap.size + 1 + 1 + 1) _ rfl rfl).cell 2 _ rfl
    have k3 := (B1.out.blk 3 (w.heap.size + 1 + 1 + 1) _ rfl rfl).cell 3 _ rfl
    go_wp2_with fail
    go_rounds 5
    obtain ⟨w3, hw3, B2⟩ := B1.out.put5 2 (w.heap.size + 1 + 1) (.bool (decide (m0 < A x0 x1))) (.bool (decide (m1 < A x2 x3))) (.bool (decide (m2 < A x2 x4))) (.bool (decide (m3 < F))) (.bool (!v)) rfl rfl
    rw [hw3]
    have B3 := B2.alloc (.cells #[.bool (decide (m0 < A x0 x1)), .bool (decide (m1 < A x2 x3)), .bool (decide (m2 < A x2 x4)), .bool (decide (m3 < F)), .bool (!v)] 36)
    generalize w3.alloc _ = w4 at *
    have yl := (B3.blk 2 (w.heap.size + 1 + 1) _ rfl rfl).lt
    have y0 := (B3.blk 2 (w.heap.size + 1 + 1) _ rfl rfl).cell 0 _ rfl
    have y1 := (B3.blk 2 (w.heap.size + 1 + 1) _ rfl rfl).cell 1 _ rfl
    have y2 := (B3.blk 2 (w.heap.size + 1 + 1) _ rfl rfl).cell 2 _ rfl
    have y3 := (B3.blk 2 (w.heap.size + 1 + 1) _ rfl rfl).cell 3 _ rfl
    have y4 := (B3.blk 2 (w.heap.size + 1 + 1) _ rfl rfl).cell 4 _ rfl
    refine bodyPost_ret (by simp [results, Try.results9, go_sem, y0, y1, y2, y3, y4]; try rfl) rfl ?_
    exact ⟨rfl, B3.bel⟩

end Go.Proofs.Ythfbdnhhmnehaaa
