/-
  Whatever is handed in, the law PidSays returns true: all calls of package pid answer what the document says. No condition.
-/
import Derived.Test.YtfeohnhlkkfpdaaRPid
import Derived.Test.YtfeohnhlkkfpdaaOpenZ
import Derived.ProofKit
namespace Go.Proofs.Ytfeohnhlkkfpdaa.pidSays
open Go.ChangeShapes Go.WideShapes Go.ChangeAt Go.RowKit
set_option linter.unusedVariables false

theorem own : ownKnob Try.prog.godebug = none := by kernel_rfl
theorem laidOut : laidOutB Try.prog = true := by kernel_rfl

theorem list2 {l : List Value} (h : l.length = 2) : ∃ c0 c1, l = [c0, c1] := by
  match l, h with
  | [c0, c1], _ => exact ⟨c0, c1, rfl⟩

theorem list5 {l : List Value} (h : l.length = 5) : ∃ c0 c1 c2 c3 c4, l = [c0, c1, c2, c3, c4] := by
  match l, h with
  | [c0, c1, c2, c3, c4], _ => exact ⟨c0, c1, c2, c3, c4, rfl⟩

theorem open23 {H : Type} {enc : TypeId × Value → H} {w : World} {base : Nat} {spare : Nat → Bool} {held : Bool} {fuel : Nat} {cs : List Value} {x : DataW H × List MemPlace} (h : DataW.trod enc Try.prog w base spare held fuel 23 cs = some x) (hz : Light Try.prog 23 x.1) :
    ∃ vP : Int, ∃ vI : Int, ∃ vD : Int, ∃ vLow : Int, ∃ vHigh : Int, cs = [.int .i32 vP, .int .i32 vI, .int .i32 vD, .int .i32 vLow, .int .i32 vHigh] ∧ (Lit.int .i32 vP).wf = true ∧ (Lit.int .i32 vI).wf = true ∧ (Lit.int .i32 vD).wf = true ∧ (Lit.int .i32 vLow).wf = true ∧ (Lit.int .i32 vHigh).wf = true := by
  obtain ⟨hl, hf⟩ := trod_field_z Try.underlying23 h hz
  rw [show Try.prog.cellsOf 23 = 5 from by kernel_rfl] at hl
  obtain ⟨c0, c1, c2, c3, c4, rfl⟩ := list5 hl
  obtain ⟨n0, y0, h0, z0⟩ := hf 0 _ rfl
  replace h0 : DataW.trod enc Try.prog w base spare held n0 21 (([c0, c1, c2, c3, c4] : List Value).drop 0 |>.take (Try.prog.cellsOf 21)) = some y0 := h0
  rw [show Try.prog.cellsOf 21 = 1 from by kernel_rfl] at h0
  replace h0 : DataW.trod enc Try.prog w base spare held n0 21 [c0] = some y0 := h0
  obtain ⟨n1, y1, h1, z1⟩ := hf 1 _ rfl
  replace h1 : DataW.trod enc Try.prog w base spare held n1 21 (([c0, c1, c2, c3, c4] : List Value).drop 1 |>.take (Try.prog.cellsOf 21)) = some y1 := h1
  rw [show Try.prog.cellsOf 21 = 1 from by kernel_rfl] at h1
  replace h1 : DataW.trod enc Try.prog w base spare held n1 21 [c1] = some y1 := h1
  obtain ⟨n2, y2, h2, z2⟩ := hf 2 _ rfl
  replace h2 : DataW.trod enc Try.prog w base spare held n2 21 (([c0, c1, c2, c3, c4] : List Value).drop 2 |>.take (Try.prog.cellsOf 21)) = some y2 := h2
  rw [show Try.prog.cellsOf 21 = 1 from by kernel_rfl] at h2
  replace h2 : DataW.trod enc Try.prog w base spare held n2 21 [c2] = some y2 := h2
  obtain ⟨n3, y3, h3, z3⟩ := hf 3 _ rfl
  replace h3 : DataW.trod enc Try.prog w base spare held n3 21 (([c0, c1, c2, c3, c4] : List Value).drop 3 |>.take (Try.prog.cellsOf 21)) = some y3 := h3
  rw [show Try.prog.cellsOf 21 = 1 from by kernel_rfl] at h3
  replace h3 : DataW.trod enc Try.prog w base spare held n3 21 [c3] = some y3 := h3
  obtain ⟨n4, y4, h4, z4⟩ := hf 4 _ rfl
  replace h4 : DataW.trod enc Try.prog w base spare held n4 21 (([c0, c1, c2, c3, c4] : List Value).drop 4 |>.take (Try.prog.cellsOf 21)) = some y4 := h4
  rw [show Try.prog.cellsOf 21 = 1 from by kernel_rfl] at h4
  replace h4 : DataW.trod enc Try.prog w base spare held n4 21 [c4] = some y4 := h4
  obtain ⟨x0, e0, _, f0_0⟩ := DataW.trod_int Try.underlying21 h0
  simp only [List.cons.injEq, and_true] at e0
  obtain rfl := e0
  obtain ⟨x1, e1, _, f1_0⟩ := DataW.trod_int Try.underlying21 h1
  simp only [List.cons.injEq, and_true] at e1
  obtain rfl := e1
  obtain ⟨x2, e2, _, f2_0⟩ := DataW.trod_int Try.underlying21 h2
  simp only [List.cons.injEq, and_true] at e2
  obtain rfl := e2
  obtain ⟨x3, e3, _, f3_0⟩ := DataW.trod_int Try.underlying21 h3
  simp only [List.cons.injEq, and_true] at e3
  obtain rfl := e3
  obtain ⟨x4, e4, _, f4_0⟩ := DataW.trod_int Try.underlying21 h4
  simp only [List.cons.injEq, and_true] at e4
  obtain rfl := e4
  exact ⟨x0, x1, x2, x3, x4, rfl, f0_0, f1_0, f2_0, f3_0, f4_0⟩

theorem open25 {H : Type} {enc : TypeId × Value → H} {w : World} {base : Nat} {spare : Nat → Bool} {held : Bool} {fuel : Nat} {cs : List Value} {x : DataW H × List MemPlace} (h : DataW.trod enc Try.prog w base spare held fuel 25 cs = some x) (hz : Light Try.prog 25 x.1) :
    ∃ vSum : Int, ∃ vLast : Int, cs = [.int .i32 vSum, .int .i32 vLast] ∧ (Lit.int .i32 vSum).wf = true ∧ (Lit.int .i32 vLast).wf = true := by
  obtain ⟨hl, hf⟩ := trod_field_z Try.underlying25 h hz
  rw [show Try.prog.cellsOf 25 = 2 from by kernel_rfl] at hl
  obtain ⟨c0, c1, rfl⟩ := list2 hl
  obtain ⟨n0, y0, h0, z0⟩ := hf 0 _ rfl
  replace h0 : DataW.trod enc Try.prog w base spare held n0 21 (([c0, c1] : List Value).drop 0 |>.take (Try.prog.cellsOf 21)) = some y0 := h0
  rw [show Try.prog.cellsOf 21 = 1 from by kernel_rfl] at h0
  replace h0 : DataW.trod enc Try.prog w base spare held n0 21 [c0] = some y0 := h0
  obtain ⟨n1, y1, h1, z1⟩ := hf 1 _ rfl
  replace h1 : DataW.trod enc Try.prog w base spare held n1 21 (([c0, c1] : List Value).drop 1 |>.take (Try.prog.cellsOf 21)) = some y1 := h1
  rw [show Try.prog.cellsOf 21 = 1 from by kernel_rfl] at h1
  replace h1 : DataW.trod enc Try.prog w base spare held n1 21 [c1] = some y1 := h1
  obtain ⟨x0, e0, _, f0_0⟩ := DataW.trod_int Try.underlying21 h0
  simp only [List.cons.injEq, and_true] at e0
  obtain rfl := e0
  obtain ⟨x1, e1, _, f1_0⟩ := DataW.trod_int Try.underlying21 h1
  simp only [List.cons.injEq, and_true] at e1
  obtain rfl := e1
  exact ⟨x0, x1, rfl, f0_0, f1_0⟩


set_option maxHeartbeats 4000000 in
set_option maxRecDepth 100000 in
theorem walk_bad (P I D lo hi s t : Int) (v : Value) (w : World) (h : ¬ (lo ≤ s ∧ s ≤ hi)) :
    Calls Try.prog 3 #[.agg #[.int .i32 P, .int .i32 I, .int .i32 D, .int .i32 lo, .int .i32 hi], .agg #[.int .i32 s, .int .i32 t], v] w fun r w' => r = .returned (.bool true) ∧ Below w.heap.size w w' := by
  have B0 : Hid (_) := px_new w P I D lo hi s t 23 25
  have C1 : Hid (_) := fun W => rerr_bad P I D lo hi s t W h
  have C2 : Hid (_) := fun W => run_bad P I D lo hi s t v W h
  have C3 : Hid (_) := fun W => check_bad P I D lo hi s t W h
  have C4 : Hid (_) := fun W => step_bad P I D lo hi s t 1 W h
  clear h
  go_enter Try.func3, Try.ntmps3
  go_wp2_with fail
  refine (C1.out _).mono ?_
  rintro r w1 ⟨rfl, hb⟩
  have B1 : Hid (_) := B0.out.step hb
  clear hb B0
  obtain ⟨⟨l0, l1⟩, ⟨p0, p1, p2, p3, p4⟩, s0, s1⟩ := B1.out.facts
  go_wp2_with fail
  refine (C2.out _).mono ?_
  rintro r w2 ⟨rfl, hb⟩
  clear l0 l1 p0 p1 p2 p3 p4 s0 s1
  have B2 : Hid (_) := B1.out.step hb
  clear hb B1
  obtain ⟨⟨l0, l1⟩, ⟨p0, p1, p2, p3, p4⟩, s0, s1⟩ := B2.out.facts
  go_wp2_with fail
  refine (C3.out _).mono ?_
  rintro r w3 ⟨rfl, hb⟩
  clear l0 l1 p0 p1 p2 p3 p4 s0 s1
  have B3 : Hid (_) := (B2.out.alloc (.cells #[.int .i32 0, .int .i32 0] 25)).step hb
  have X3 : Hid (_) := (cells_new w2 #[.int .i32 0, .int .i32 0] 25).step hb
  clear hb B2
  obtain ⟨⟨l0, l1⟩, ⟨p0, p1, p2, p3, p4⟩, s0, s1⟩ := B3.out.facts
  go_wp2_with fail
  refine (C4.out _).mono ?_
  rintro r w4 ⟨rfl, hb⟩
  clear l0 l1 p0 p1 p2 p3 p4 s0 s1
  have B4 : Hid (_) := B3.out.step hb
  have X4 : Hid (_) := X3.out.step hb
  clear hb B3 X3
  have x0 := X4.out.cell 0 _ rfl
  have x1 := X4.out.cell 1 _ rfl
  have lx := X4.out.lt
  go_wp2_with fail
  go_ret
  exact ⟨rfl, (B4.out.alloc _).bel⟩

/-- what the law carries: the boxes, what Run kept (x), the outputs (B), and what is kept now (z) -/
structure Sy (w : World) (P I D lo hi s t : Int) (x B z k : Nat) (a b : Int) (O : Nat → Int) (c d : Int) (W : World) : Prop where
  px : Px w P I D lo hi s t W
  hx : Cells W x [.int .i32 a, .int .i32 b]
  hz : Cells W z [.int .i32 c, .int .i32 d]
  lt : B < W.heap.size
  row : ∀ j, j < k → W.cell? ⟨B, j, none⟩ = some (.int .i32 (O j))
  o : w.heap.size + 1 < z ∧ x < z ∧ B < z
theorem Sy.step {w : World} {P I D lo hi s t : Int} {x B z k : Nat} {a b : Int} {O : Nat → Int} {c d : Int} {W W' : World} (h : Sy w P I D lo hi s t x B z k a b O c d W) (hb : Below W.heap.size W W') : Sy w P I D lo hi s t x B z k a b O c d W' :=
  ⟨h.px.step hb, h.hx.step hb, h.hz.step hb, Nat.lt_of_lt_of_le h.lt hb.size, fun j hj => (hb.cell (p := ⟨B, j, none⟩) h.lt).trans (h.row j hj), h.o⟩
theorem Sy.alloc {w : World} {P I D lo hi s t : Int} {x B z k : Nat} {a b : Int} {O : Nat → Int} {c d : Int} {W : World} (h : Sy w P I D lo hi s t x B z k a b O c d W) (v : Obj) : Sy w P I D lo hi s t x B z k a b O c d (W.alloc v) :=
  h.step ((Below.refl _ W).alloc (Nat.le_refl _) _)
theorem Sy.store {w : World} {P I D lo hi s t : Int} {x B z k : Nat} {a b : Int} {O : Nat → Int} {c d : Int} {W : World} (h : Sy w P I D lo hi s t x B z k a b O c d W) (c' d' : Int) :
    Sy w P I D lo hi s t x B z k a b O c' d' ((W.setCell ⟨z, 0, none⟩ (.int .i32 c')).setCell ⟨z, 1, none⟩ (.int .i32 d')) := by
  obtain ⟨o1, o2, o3⟩ := h.o
  refine ⟨⟨(h.px.bel.setCell (p := ⟨z, 0, none⟩) (by simp; omega) _).setCell (p := ⟨z, 1, none⟩) (by simp; omega) _, (h.px.g.other (by omega) _).other (by omega) _, (h.px.p.other (by omega) _).other (by omega) _⟩, (h.hx.other (by omega) _).other (by omega) _, ?_, by simp [World.setCell]; exact h.lt, fun j hj => ?_, h.o⟩
  · exact (h.hz.set (j := 0) (by simp) (.int .i32 c')).set (j := 1) (by simp) (.int .i32 d')
  · rw [World.cell?_setCell_other _ _ _ _ (by simp <;> omega), World.cell?_setCell_other _ _ _ _ (by simp <;> omega)]
    exact h.row j hj

set_option maxHeartbeats 8000000 in
set_option maxRecDepth 100000 in
theorem walk_ok (P I D lo hi s t : Int) (A : Option Addr) (k cap : Nat) (l : Nat → Int) (w : World) (G : GI P I D lo hi) (ht : I32 t) (h1 : lo ≤ s) (h2 : s ≤ hi) (hl : ∀ j, I32 (l j)) (hk : k * 4 ≤ 140737488351232)
    (hr : 0 < k → ∃ b off, A = some ⟨b, off, none⟩ ∧ b < w.heap.size ∧ ∀ j : Nat, j < k → w.cell? ⟨b, off + j, none⟩ = some (.int .i32 (l j))) :
    Calls Try.prog 3 #[.agg #[.int .i32 P, .int .i32 I, .int .i32 D, .int .i32 lo, .int .i32 hi], .agg #[.int .i32 s, .int .i32 t], .slice A k cap] w fun r w' => r = .returned (.bool true) ∧ Below w.heap.size w w' := by
  have B0 : Hid (_) := px_new w P I D lo hi s t 23 25
  have C1 : Hid (_) := fun W => rerr_ok P I D lo hi s t W h1 h2
  have C3 : Hid (_) := fun W => check_ok P I D lo hi s t W h1 h2
  have C2 : Hid (∀ W, Below w.heap.size w W → Calls Try.prog 7 #[.agg #[.int .i32 P, .int .i32 I, .int .i32 D, .int .i32 lo, .int .i32 hi], .agg #[.int .i32 s, .int .i32 t], .slice A k cap] W fun r w' => ∃ B, r = .returned (.tuple #[.agg #[.int .i32 (rnS P I D lo hi s t l k), .int .i32 (rnT t l k)], .slice (some ⟨B, 0, none⟩) k k, .int .i64 0]) ∧ W.heap.size ≤ B ∧ B < w'.heap.size ∧ (∀ j, j < k → w'.cell? ⟨B, j, none⟩ = some (.int .i32 (rnO P I D lo hi s t l j))) ∧ Below W.heap.size W w') := fun W hb =>
    run_ok P I D lo hi s t A k cap l W G ht h1 h2 hl hk (fun hp => by
      obtain ⟨b, off, rfl, hl, hc⟩ := hr hp
      exact ⟨b, off, rfl, Nat.lt_of_lt_of_le hl hb.size, fun j hj => (hb.cell (p := ⟨b, off + j, none⟩) hl).trans (hc j hj)⟩)
  have CR : Hid (∀ j W, Calls Try.prog 10 #[.agg #[.int .i32 P, .int .i32 I, .int .i32 D, .int .i32 lo, .int .i32 hi], .agg #[.int .i32 (rnS P I D lo hi s t l j), .int .i32 (rnT t l j)], .int .i32 (l j)] W fun r w' => r = .returned (.tuple #[.agg #[.int .i32 (rnS P I D lo hi s t l (j + 1)), .int .i32 (rnT t l (j + 1))], .int .i32 (rnO P I D lo hi s t l j)]) ∧ Below W.heap.size W w') := fun j W => rstep_any P I D lo hi _ _ _ W G (I32.mid G.lo G.hi (rnS_in h1 h2 l j).1 (rnS_in h1 h2 l j).2) (rnT_I ht hl j) (hl j)
  have CS : Hid (∀ j W, Calls Try.prog 9 #[.agg #[.int .i32 P, .int .i32 I, .int .i32 D, .int .i32 lo, .int .i32 hi], .agg #[.int .i32 (rnS P I D lo hi s t l j), .int .i32 (rnT t l j)], .int .i32 (l j)] W fun r w' => r = .returned (.tuple #[.agg #[.int .i32 (rnS P I D lo hi s t l (j + 1)), .int .i32 (rnT t l (j + 1))], .int .i32 (rnO P I D lo hi s t l j), .int .i64 0]) ∧ Below W.heap.size W w') := fun j W => step_ok P I D lo hi _ _ _ W G (rnT_I ht hl j) (hl j) (rnS_in h1 h2 l j).1 (rnS_in h1 h2 l j).2
  have HL : Hid (_) := hr
  have S0 : Hid (rnS P I D lo hi s t l 0 = s ∧ rnT t l 0 = t) := ⟨rfl, rfl⟩
  have hk2 : k ≤ 140737488351232 := by omega
  generalize rnO P I D lo hi s t l = O at *
  generalize rnS P I D lo hi s t l = S at *
  generalize rnT t l = T at *
  clear G ht h1 h2 hl hk hr
  go_enter Try.func3, Try.ntmps3
  go_wp2_with fail
  refine (C1.out _).mono ?_
  rintro r w1 ⟨rfl, hb⟩
  have B1 : Hid (_) := B0.out.step hb
  clear hb B0 C1
  obtain ⟨⟨l0, l1⟩, ⟨p0, p1, p2, p3, p4⟩, s0, s1⟩ := B1.out.facts
  go_wp2_with fail
  refine (C2.out _ B1.out.bel).mono ?_
  rintro r w2 ⟨B, rfl, hB, lB, hc, hb⟩
  clear l0 l1 p0 p1 p2 p3 p4 s0 s1 C2 hB
  have B2 : Hid (_) := B1.out.step hb
  have R2 : Hid (B < w2.heap.size ∧ ∀ j, j < k → w2.cell? ⟨B, j, none⟩ = some (.int .i32 (O j))) := ⟨lB, hc⟩
  clear hb hc lB B1
  obtain ⟨⟨l0, l1⟩, ⟨p0, p1, p2, p3, p4⟩, s0, s1⟩ := B2.out.facts
  go_wp2_with fail
  refine (C3.out _).mono ?_
  rintro r w3 ⟨rfl, hb⟩
  clear l0 l1 p0 p1 p2 p3 p4 s0 s1 C3
  have B3 : Hid (_) := (B2.out.alloc (.cells #[.int .i32 (S k), .int .i32 (T k)] 25)).step hb
  have X3 : Hid (_) := (cells_new w2 #[.int .i32 (S k), .int .i32 (T k)] 25).step hb
  have R3 : Hid (B < w3.heap.size ∧ ∀ j, j < k → w3.cell? ⟨B, j, none⟩ = some (.int .i32 (O j))) :=
    ⟨Nat.lt_trans R2.out.1 X3.out.lt, fun j hj => (hb.cell (p := ⟨B, j, none⟩) (by simp; have := R2.out.1; omega)).trans (((one_box w2 _).cell (p := ⟨B, j, none⟩) R2.out.1).trans (R2.out.2 j hj))⟩
  clear hb B2 R2
  have HS : Hid (Sy w P I D lo hi s t w2.heap.size B w3.heap.size k (S k) (T k) O s t (w3.alloc (.cells #[.int .i32 s, .int .i32 t] 25))) :=
    ⟨B3.out.alloc _, X3.out.alloc _, cells_new w3 #[.int .i32 s, .int .i32 t] 25, by simp; have := R3.out.1; omega, fun j hj => ((one_box w3 _).cell (p := ⟨B, j, none⟩) R3.out.1).trans (R3.out.2 j hj), B3.out.p.lt, X3.out.lt, R3.out.1⟩
  obtain ⟨⟨l0, l1⟩, ⟨p0, p1, p2, p3, p4⟩, s0, s1⟩ := B3.out.facts
  go_wp2_with fail
  clear l0 l1 p0 p1 p2 p3 p4 s0 s1 B3 X3 R3
  go_loopg [77] (k + 1) (fun g q wr => ∃ j : Nat, q = .int .i64 j ∧ k - j < g ∧ j ≤ k ∧ Hid (Sy w P I D lo hi s t w2.heap.size B w3.heap.size k (S k) (T k) O (S j) (T j) wr))
  case atStart => exact ⟨0, rfl, by omega, by omega, by rw [S0.out.1, S0.out.2]; exact HS⟩
  case round =>
    obtain ⟨j, rfl, hg, hj, HB⟩ := hrel
    clear HS S0
    obtain ⟨⟨l0, l1⟩, ⟨p0, p1, p2, p3, p4⟩, s0, s1⟩ := HB.out.px.facts
    have z0 := HB.out.hz.cell 0 _ rfl
    have z1 := HB.out.hz.cell 1 _ rfl
    have lz := HB.out.hz.lt
    by_cases hlt : j < k
    · have q1 : (j : Int) < (k : Int) := by omega
      obtain ⟨b, off, rfl, hbl, hcell⟩ := HL.out (by omega)
      have r0 := (HB.out.px.bel.cell (p := ⟨b, off + j, none⟩) hbl).trans (hcell j hlt)
      clear hcell
      have CN : Hid (_) := CR.out j
      have CM : Hid (_) := CS.out j
      clear CR CS
      generalize S k = SK at *
      generalize T k = TK at *
      go_wp2_with fail
      refine (CN.out _).mono ?_
      rintro r w4 ⟨rfl, hb⟩
      clear l0 l1 p0 p1 p2 p3 p4 s0 s1 z0 z1 lz r0 CN
      have H4 : Hid (_) := HB.out.step hb
      clear hb HB
      obtain ⟨⟨l0, l1⟩, ⟨p0, p1, p2, p3, p4⟩, s0, s1⟩ := H4.out.px.facts
      have z0 := H4.out.hz.cell 0 _ rfl
      have z1 := H4.out.hz.cell 1 _ rfl
      have lz := H4.out.hz.lt
      go_wp2_with fail
      refine (CM.out _).mono ?_
      rintro r w5 ⟨rfl, hb⟩
      clear l0 l1 p0 p1 p2 p3 p4 s0 s1 z0 z1 lz CM
      have H5 : Hid (_) := (H4.out.alloc (.cells #[.int .i32 (S (j + 1)), .int .i32 (T (j + 1))] 25)).step hb
      have N5 : Hid (_) := (cells_new w4 #[.int .i32 (S (j + 1)), .int .i32 (T (j + 1))] 25).step hb
      have y4 : Hid (w3.heap.size < w4.heap.size) := H4.out.hz.lt
      clear hb H4
      have z0 := H5.out.hz.cell 0 _ rfl
      have z1 := H5.out.hz.cell 1 _ rfl
      have g0 := H5.out.hz.froz 0 _ rfl
      have g1 := H5.out.hz.froz 1 _ rfl
      have lz := H5.out.hz.lt
      have n0 := N5.out.cell 0 _ rfl
      have n1 := N5.out.cell 1 _ rfl
      have ln := N5.out.lt
      have b0 := H5.out.row j hlt
      have lb := H5.out.lt
      have q2 : ¬ (k : Int) ≤ (j : Int) := by omega
      have q3 : ¬ k ≤ j := by omega
      have lzn : ¬ w3.heap.size = w4.heap.size := by have := y4.out; omega
      clear N5
      go_wp2_with fail
      go_roundg (k - (j + 1) + 1)
      case measure => omega
      case rel => exact ⟨j + 1, by go_num, by omega, by omega, (H5.out.store _ _).alloc _⟩
    · have q1 : ¬ (j : Int) < (k : Int) := by omega
      obtain rfl : j = k := by omega
      clear HL CR CS
      have x0 := HB.out.hx.cell 0 _ rfl
      have x1 := HB.out.hx.cell 1 _ rfl
      have lx := HB.out.hx.lt
      generalize S j = SK at *
      generalize T j = TK at *
      go_wp2_with fail
      go_ret
      exact ⟨rfl, HB.out.px.bel⟩

theorem walk (gP : Int) (gI : Int) (gD : Int) (gLow : Int) (gHigh : Int) (sSum : Int) (sLast : Int) (errsa : Option Addr) (errsn errsc : Nat) (errs : Nat → Int) (w : World) (h_gP : (Lit.int .i32 gP).wf = true) (h_gI : (Lit.int .i32 gI).wf = true) (h_gD : (Lit.int .i32 gD).wf = true) (h_gLow : (Lit.int .i32 gLow).wf = true) (h_gHigh : (Lit.int .i32 gHigh).wf = true) (h_sSum : (Lit.int .i32 sSum).wf = true) (h_sLast : (Lit.int .i32 sLast).wf = true) (h_errs : RowZ .i32 4 w errsa errsn errsc errs) :
    Calls Try.prog 3 #[.agg #[.int .i32 gP, .int .i32 gI, .int .i32 gD, .int .i32 gLow, .int .i32 gHigh], .agg #[.int .i32 sSum, .int .i32 sLast], .slice errsa errsn errsc] w fun e w' => e = .returned (.bool true) ∧ Below w.heap.size w w' := by
  by_cases h : gLow ≤ sSum ∧ sSum ≤ gHigh
  · exact walk_ok _ _ _ _ _ _ _ _ _ _ errs w ⟨i32_of h_gP, i32_of h_gI, i32_of h_gD, i32_of h_gLow, i32_of h_gHigh⟩ (i32_of h_sLast) h.1 h.2 (fun j => i32_of (h_errs.1.2.2.1 j)) h_errs.2.1 h_errs.1.2.2.2
  · exact walk_bad _ _ _ _ _ _ _ _ w h

/-! ### THE ROW's STEP -/
set_option maxRecDepth 100000 in
theorem lifted (os : Os) (started : os.Started) (H : Type) (enc : TypeId × Value → H) :
    ReturnsInHanded {} Try.checked os 3 .any (Rows.pidSaysSpec.pre6 enc Try.prog Try.f3 Rows.pidSaysRow.domain false) (Rows.pidSaysSpec.post enc Try.prog Try.f3 false true false false) := by
  refine returnsInHanded_of_change_sized (C := Try.checked) own started (by kernel_rfl) Try.func3
    (ChangeSpec.witness6 (enc := enc) (C := Try.checked) false ⟨#[], #[.agg #[.int .i32 0, .int .i32 0, .int .i32 0, .int .i32 0, .int .i32 0], .agg #[.int .i32 0, .int .i32 0], .slice none 0 0], []⟩ 8 (by kernel_rfl) (by kernel_rfl) (by kernel_rfl) (by kernel_rfl)) ?_
  intro W base args ds gs before hval0 hW hcnd hsz0 _
  have hval : ∀ (j : Nat) t v, Try.f3.params[j]? = some t → args[j]? = some v → Value.okWide Try.prog W .any base t v := hval0
  have hW' := hW
  obtain ⟨p, q, hA0, hV, rfl, hfz, hnd⟩ := hW
  have hA : DataW.TrodAll enc Try.prog W 0 (fun _ => true) true Try.f3.params.toList args.toList ds p := hA0
  rw [Try.params3] at hA hval
  obtain ⟨v_0, vs_0, d_0, ds_0, p_0, q_0, hargs, rfl, rfl, h_0, r_0⟩ := trodAll_cons hA
  obtain ⟨v_1, vs_1, d_1, ds_1, p_1, q_1, rfl, rfl, rfl, h_1, r_1⟩ := trodAll_cons r_0
  obtain ⟨v_2, vs_2, d_2, ds_2, p_2, q_2, rfl, rfl, rfl, h_2, r_2⟩ := trodAll_cons r_1
  obtain ⟨rfl, rfl, rfl⟩ := trodAll_nil r_2
  obtain rfl : args = #[v_0, v_1, v_2] := by cases args; simp_all
  obtain ⟨rfl, rfl⟩ := trodVars_none hV
  have hz_0 : Light Try.prog 23 d_0 := light_of hsz0 (j := 0) (by first | rfl | (rw [Try.params3]; rfl)) rfl
  have k_0 := h_0
  have lt_0 : ∀ x ∈ p_0, x.block < W.heap.size := by obtain ⟨m, hm⟩ := k_0; exact DataW.trod_lt m _ _ _ hm
  obtain ⟨cs_0, rfl, _⟩ := okWide_struct Try.underlying23 (hval 0 23 v_0 rfl rfl)
  obtain ⟨gP, gI, gD, gLow, gHigh, e_0, h_gP, h_gI, h_gD, h_gLow, h_gHigh⟩ := (by obtain ⟨fuel, hf⟩ := h_0; exact open23 hf hz_0 : ∃ gP : Int, ∃ gI : Int, ∃ gD : Int, ∃ gLow : Int, ∃ gHigh : Int, cs_0.toList = [.int .i32 gP, .int .i32 gI, .int .i32 gD, .int .i32 gLow, .int .i32 gHigh] ∧ (Lit.int .i32 gP).wf = true ∧ (Lit.int .i32 gI).wf = true ∧ (Lit.int .i32 gD).wf = true ∧ (Lit.int .i32 gLow).wf = true ∧ (Lit.int .i32 gHigh).wf = true)
  obtain rfl : cs_0 = #[.int .i32 gP, .int .i32 gI, .int .i32 gD, .int .i32 gLow, .int .i32 gHigh] := by cases cs_0; simp_all
  clear e_0
  have hz_1 : Light Try.prog 25 d_1 := light_of hsz0 (j := 1) (by first | rfl | (rw [Try.params3]; rfl)) rfl
  have k_1 := h_1
  have lt_1 : ∀ x ∈ p_1, x.block < W.heap.size := by obtain ⟨m, hm⟩ := k_1; exact DataW.trod_lt m _ _ _ hm
  obtain ⟨cs_1, rfl, _⟩ := okWide_struct Try.underlying25 (hval 1 25 v_1 rfl rfl)
  obtain ⟨sSum, sLast, e_1, h_sSum, h_sLast⟩ := (by obtain ⟨fuel, hf⟩ := h_1; exact open25 hf hz_1 : ∃ sSum : Int, ∃ sLast : Int, cs_1.toList = [.int .i32 sSum, .int .i32 sLast] ∧ (Lit.int .i32 sSum).wf = true ∧ (Lit.int .i32 sLast).wf = true)
  obtain rfl : cs_1 = #[.int .i32 sSum, .int .i32 sLast] := by cases cs_1; simp_all
  clear e_1
  have hz_2 : Light Try.prog 26 d_2 := light_of hsz0 (j := 2) (by first | rfl | (rw [Try.params3]; rfl)) rfl
  have k_2 := h_2
  have lt_2 : ∀ x ∈ p_2, x.block < W.heap.size := by obtain ⟨m, hm⟩ := k_2; exact DataW.trod_lt m _ _ _ hm
  obtain ⟨errsa, errsn, errsc, rfl⟩ := okWide_slice Try.underlying26 (hval 2 26 v_2 rfl rfl)
  obtain ⟨errs, h_errs⟩ : ∃ l, RowZ .i32 4 W errsa errsn errsc l := by
    obtain ⟨fuel, hf⟩ := h_2
    obtain ⟨a, m, c, l, hcs, hr⟩ := rowZ_of Try.underlying26 Try.underlying21 (by kernel_rfl) (by kernel_rfl) hf hz_2
    simp [Value.cells] at hcs
    obtain ⟨rfl, rfl, rfl⟩ := hcs
    exact ⟨l, hr⟩
  clear hA0 hval0
  refine (walk gP gI gD gLow gHigh sSum sLast errsa errsn errsc errs W h_gP h_gI h_gD h_gLow h_gHigh h_sSum h_sLast h_errs).mono fun e W' ⟨he, bel⟩ => ?_
  subst he
  exact ⟨_, rfl, _, _, _, [], _, [], hW', trodAll_mk1 (shut_bool Try.underlying4 _), (trodAll_cons_mk (Below.trod laidOut (by kernel_rfl) (of_decide_eq_true (by kernel_rfl)) k_0 bel lt_0) (trodAll_cons_mk (Below.trod laidOut (by kernel_rfl) (of_decide_eq_true (by kernel_rfl)) k_1 bel lt_1) (trodAll_cons_mk (Below.trod laidOut (by kernel_rfl) (of_decide_eq_true (by kernel_rfl)) k_2 bel lt_2) trodAll_mk0))), rfl, bel.frame _, fun h => by cases h⟩

theorem over : Rows.pidSaysRow.holds Try.pinned (OpenSpec.ofChange Rows.pidSaysSpec) :=
  OpenClaim.holds_of_wide 3 Try.f3 rfl rfl rfl rfl rfl rfl rfl ⟨rfl, rfl, rfl, rfl, rfl⟩ rfl rfl rfl rfl rfl (by kernel_rfl) Try.func3 (by kernel_rfl)
    (of_decide_eq_true (by kernel_rfl)) (by unfold Func.isWrapper; first | (rw [if_pos (by decide +kernel)]; kernel_rfl) | (rw [if_neg (by decide +kernel)]; exact ⟨rfl, rfl⟩))
    (fun os started H enc _ => lifted os started H enc)


end Go.Proofs.Ytfeohnhlkkfpdaa.pidSays
namespace Go.Proofs.Ytfeohnhlkkfpdaa
/-- THE STATEMENT -/
theorem pidSays_holds : Rows.PidSaysSaid := pidSays.over
#print axioms pidSays_holds
end Go.Proofs.Ytfeohnhlkkfpdaa
