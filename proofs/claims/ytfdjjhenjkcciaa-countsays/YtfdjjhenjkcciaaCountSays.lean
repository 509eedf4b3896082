/-
  Whatever is handed in, the law CountSays returns true: all calls of package count answer what the document says. No condition.
-/
import Derived.Test.YtfdjjhenjkcciaaCountBox
import Derived.Test.YtfdjjhenjkcciaaRCount
import Derived.Test.YtfdjjhenjkcciaaOpenB
import Derived.ProofKit
import Derived.Deep.RegionHeld3
import Derived.Deep.DeepCutAuto
namespace Go.Proofs.Ytfdjjhenjkcciaa.countSays
open Go.ChangeShapes Go.WideShapes Go.ChangeAt Go.RowKit
set_option linter.unusedVariables false

theorem own : ownKnob Try.prog.godebug = none := by kernel_rfl
theorem laidOut : laidOutB Try.prog = true := by kernel_rfl

theorem list2 {l : List Value} (h : l.length = 2) : ∃ c0 c1, l = [c0, c1] := by
  match l, h with
  | [c0, c1], _ => exact ⟨c0, c1, rfl⟩

theorem list3 {l : List Value} (h : l.length = 3) : ∃ c0 c1 c2, l = [c0, c1, c2] := by
  match l, h with
  | [c0, c1, c2], _ => exact ⟨c0, c1, c2, rfl⟩

theorem open23 {H : Type} {enc : TypeId × Value → H} {w : World} {base : Nat} {spare : Nat → Bool} {held : Bool} {fuel : Nat} {cs : List Value} {x : DataW H × List MemPlace} (h : DataW.trod enc Try.prog w base spare held fuel 23 cs = some x) (hz : Light Try.prog 23 x.1) :
    ∃ vUp : Int, ∃ vDown : Int, ∃ vMost : Int, cs = [.int .i64 vUp, .int .i64 vDown, .int .i64 vMost] ∧ (Lit.int .i64 vUp).wf = true ∧ (Lit.int .i64 vDown).wf = true ∧ (Lit.int .i64 vMost).wf = true := by
  obtain ⟨hl, hf⟩ := trod_field_z Try.underlying23 h hz
  rw [show Try.prog.cellsOf 23 = 3 from by kernel_rfl] at hl
  obtain ⟨c0, c1, c2, rfl⟩ := list3 hl
  obtain ⟨n0, y0, h0, z0⟩ := hf 0 _ rfl
  replace h0 : DataW.trod enc Try.prog w base spare held n0 3 (([c0, c1, c2] : List Value).drop 0 |>.take (Try.prog.cellsOf 3)) = some y0 := h0
  rw [show Try.prog.cellsOf 3 = 1 from by kernel_rfl] at h0
  replace h0 : DataW.trod enc Try.prog w base spare held n0 3 [c0] = some y0 := h0
  obtain ⟨n1, y1, h1, z1⟩ := hf 1 _ rfl
  replace h1 : DataW.trod enc Try.prog w base spare held n1 3 (([c0, c1, c2] : List Value).drop 1 |>.take (Try.prog.cellsOf 3)) = some y1 := h1
  rw [show Try.prog.cellsOf 3 = 1 from by kernel_rfl] at h1
  replace h1 : DataW.trod enc Try.prog w base spare held n1 3 [c1] = some y1 := h1
  obtain ⟨n2, y2, h2, z2⟩ := hf 2 _ rfl
  replace h2 : DataW.trod enc Try.prog w base spare held n2 3 (([c0, c1, c2] : List Value).drop 2 |>.take (Try.prog.cellsOf 3)) = some y2 := h2
  rw [show Try.prog.cellsOf 3 = 1 from by kernel_rfl] at h2
  replace h2 : DataW.trod enc Try.prog w base spare held n2 3 [c2] = some y2 := h2
  obtain ⟨x0, e0, _, f0_0⟩ := DataW.trod_int Try.underlying3 h0
  simp only [List.cons.injEq, and_true] at e0
  obtain rfl := e0
  obtain ⟨x1, e1, _, f1_0⟩ := DataW.trod_int Try.underlying3 h1
  simp only [List.cons.injEq, and_true] at e1
  obtain rfl := e1
  obtain ⟨x2, e2, _, f2_0⟩ := DataW.trod_int Try.underlying3 h2
  simp only [List.cons.injEq, and_true] at e2
  obtain rfl := e2
  exact ⟨x0, x1, x2, rfl, f0_0, f1_0, f2_0⟩

theorem open25 {H : Type} {enc : TypeId × Value → H} {w : World} {base : Nat} {spare : Nat → Bool} {held : Bool} {fuel : Nat} {cs : List Value} {x : DataW H × List MemPlace} (h : DataW.trod enc Try.prog w base spare held fuel 25 cs = some x) (hz : Light Try.prog 25 x.1) :
    ∃ vN : Int, ∃ vSet : Bool, cs = [.int .i64 vN, .bool vSet] ∧ (Lit.int .i64 vN).wf = true := by
  obtain ⟨hl, hf⟩ := trod_field_z Try.underlying25 h hz
  rw [show Try.prog.cellsOf 25 = 2 from by kernel_rfl] at hl
  obtain ⟨c0, c1, rfl⟩ := list2 hl
  obtain ⟨n0, y0, h0, z0⟩ := hf 0 _ rfl
  replace h0 : DataW.trod enc Try.prog w base spare held n0 3 (([c0, c1] : List Value).drop 0 |>.take (Try.prog.cellsOf 3)) = some y0 := h0
  rw [show Try.prog.cellsOf 3 = 1 from by kernel_rfl] at h0
  replace h0 : DataW.trod enc Try.prog w base spare held n0 3 [c0] = some y0 := h0
  obtain ⟨n1, y1, h1, z1⟩ := hf 1 _ rfl
  replace h1 : DataW.trod enc Try.prog w base spare held n1 4 (([c0, c1] : List Value).drop 1 |>.take (Try.prog.cellsOf 4)) = some y1 := h1
  rw [show Try.prog.cellsOf 4 = 1 from by kernel_rfl] at h1
  replace h1 : DataW.trod enc Try.prog w base spare held n1 4 [c1] = some y1 := h1
  obtain ⟨x0, e0, _, f0_0⟩ := DataW.trod_int Try.underlying3 h0
  simp only [List.cons.injEq, and_true] at e0
  obtain rfl := e0
  obtain ⟨x1, e1, _⟩ := DataW.trod_bool Try.underlying4 h1
  simp only [List.cons.injEq, and_true] at e1
  obtain rfl := e1
  exact ⟨x0, x1, rfl, f0_0⟩


/-- the boxes that are handed on in the loop: what was handed in, what Step and Run told, where the count is -/
structure Sy (w : World) (u d m n : Int) (s : Bool) (x y z : Nat) (xn : Int) (xs : Bool) (yn : Int) (ys : Bool) (zn : Int) (zs : Bool) (W : World) : Prop where
  pc : Pc w u d m n s W
  hx : Cells W x [.int .i64 xn, .bool xs]
  hy : Cells W y [.int .i64 yn, .bool ys]
  hz : Cells W z [.int .i64 zn, .bool zs]
  o : w.heap.size + 1 < x ∧ x < y ∧ y < z
theorem Sy.step {w : World} {u d m n : Int} {s : Bool} {x y z : Nat} {xn : Int} {xs : Bool} {yn : Int} {ys : Bool} {zn : Int} {zs : Bool} {W W' : World} (h : Sy w u d m n s x y z xn xs yn ys zn zs W) (hb : Below W.heap.size W W') : Sy w u d m n s x y z xn xs yn ys zn zs W' :=
  ⟨h.pc.step hb, h.hx.step hb, h.hy.step hb, h.hz.step hb, h.o⟩
theorem Sy.alloc {w : World} {u d m n : Int} {s : Bool} {x y z : Nat} {xn : Int} {xs : Bool} {yn : Int} {ys : Bool} {zn : Int} {zs : Bool} {W : World} (h : Sy w u d m n s x y z xn xs yn ys zn zs W) (v : Obj) : Sy w u d m n s x y z xn xs yn ys zn zs (W.alloc v) :=
  h.step ((Below.refl _ W).alloc (Nat.le_refl _) _)
theorem Sy.drew {w : World} {u d m n : Int} {s : Bool} {x y z : Nat} {xn : Int} {xs : Bool} {yn : Int} {ys : Bool} {zn : Int} {zs : Bool} {W : World} (h : Sy w u d m n s x y z xn xs yn ys zn zs W) : Sy w u d m n s x y z xn xs yn ys zn zs W.drew :=
  h.step (Below.refl _ W).drew
theorem Sy.store {w : World} {u d m n : Int} {s : Bool} {x y z : Nat} {xn : Int} {xs : Bool} {yn : Int} {ys : Bool} {zn : Int} {zs : Bool} {W : World} (h : Sy w u d m n s x y z xn xs yn ys zn zs W) (n' : Int) (s' : Bool) :
    Sy w u d m n s x y z xn xs yn ys n' s' ((W.setCell ⟨z, 0, none⟩ (.int .i64 n')).setCell ⟨z, 1, none⟩ (.bool s')) := by
  obtain ⟨o1, o2, o3⟩ := h.o
  refine ⟨⟨(h.pc.bel.setCell (p := ⟨z, 0, none⟩) (by simp; omega) _).setCell (p := ⟨z, 1, none⟩) (by simp; omega) _, (h.pc.p.other (by omega) _).other (by omega) _, (h.pc.c.other (by omega) _).other (by omega) _⟩, (h.hx.other (by omega) _).other (by omega) _, (h.hy.other (by omega) _).other (by omega) _, ?_, h.o⟩
  exact (h.hz.set (j := 0) (by simp) (.int .i64 n')).set (j := 1) (by simp) (.bool s')
theorem Sy.facts {w : World} {u d m n : Int} {s : Bool} {x y z : Nat} {xn : Int} {xs : Bool} {yn : Int} {ys : Bool} {zn : Int} {zs : Bool} {W : World} (h : Sy w u d m n s x y z xn xs yn ys zn zs W) :
    z < W.heap.size ∧ W.cell? ⟨x, 0, none⟩ = some (.int .i64 xn) ∧ W.cell? ⟨x, 1, none⟩ = some (.bool xs) ∧ W.cell? ⟨y, 0, none⟩ = some (.int .i64 yn) ∧ W.cell? ⟨y, 1, none⟩ = some (.bool ys) ∧ W.cell? ⟨z, 0, none⟩ = some (.int .i64 zn) ∧ W.cell? ⟨z, 1, none⟩ = some (.bool zs) ∧ W.frozen? ⟨z, 0, none⟩ = false ∧ W.frozen? ⟨z, 1, none⟩ = false :=
  ⟨h.hz.lt, h.hx.cell 0 _ rfl, h.hx.cell 1 _ rfl, h.hy.cell 0 _ rfl, h.hy.cell 1 _ rfl, h.hz.cell 0 _ rfl, h.hz.cell 1 _ rfl, h.hz.froz 0 _ rfl, h.hz.froz 1 _ rfl⟩

theorem Sy.keep {w : World} {u d m n : Int} {s : Bool} {x y z : Nat} {xn : Int} {xs : Bool} {yn : Int} {ys : Bool} {zn : Int} {zs : Bool} {W : World} (h : Sy w u d m n s x y z xn xs yn ys zn zs W) :
    (W.cell? ⟨x, 0, none⟩ = some (.int .i64 xn) ∧ W.cell? ⟨x, 1, none⟩ = some (.bool xs) ∧ W.cell? ⟨y, 0, none⟩ = some (.int .i64 yn) ∧ W.cell? ⟨y, 1, none⟩ = some (.bool ys) ∧ W.cell? ⟨z, 0, none⟩ = some (.int .i64 zn) ∧ W.cell? ⟨z, 1, none⟩ = some (.bool zs)) ∧ W.cell? ⟨w.heap.size, 0, none⟩ = some (.int .i64 u) ∧ W.cell? ⟨w.heap.size, 1, none⟩ = some (.int .i64 d) ∧ W.cell? ⟨w.heap.size, 2, none⟩ = some (.int .i64 m) ∧ W.cell? ⟨w.heap.size + 1, 0, none⟩ = some (.int .i64 n) ∧ W.cell? ⟨w.heap.size + 1, 1, none⟩ = some (.bool s) :=
  ⟨⟨h.hx.cell 0 _ rfl, h.hx.cell 1 _ rfl, h.hy.cell 0 _ rfl, h.hy.cell 1 _ rfl, h.hz.cell 0 _ rfl, h.hz.cell 1 _ rfl⟩, h.pc.facts.2.2⟩

set_option maxHeartbeats 4000000 in
theorem walk_bad (u d m n : Int) (s : Bool) (a : Option Addr) (k cap : Nat) (w : World) (h : ¬ OkC u d m n) (hk : k ≤ 140737488351232) :
    Calls Try.prog 3 #[.agg #[.int .i64 u, .int .i64 d, .int .i64 m], .agg #[.int .i64 n, .bool s], .slice a k cap] w fun e w' => e = .returned (.bool true) ∧ Below w.heap.size w w' := by
  have B0 : Hid (_) := pc_new w u d m n s 23 25
  go_enter Try.func3, Try.ntmps3
  go_wp2_with fail
  refine (rerr_bad u d m n s _ h).mono ?_
  rintro e w1 ⟨rfl, hb⟩
  have B1 : Hid (_) := B0.out.step hb
  clear hb B0
  obtain ⟨lp, lc, p0, p1, p2, c0, c1⟩ := B1.out.facts
  go_wp2_with fail
  refine (step_bad u d m n s _ _ h).mono ?_
  rintro e w2 ⟨rfl, hb⟩
  clear lp lc p0 p1 p2 c0 c1
  have B2 : Hid (_) := B1.out.step hb
  clear hb B1
  obtain ⟨lp, lc, p0, p1, p2, c0, c1⟩ := B2.out.facts
  go_wp2_with fail
  refine (run_bad u d m n s _ _ h).mono ?_
  rintro e w3 ⟨rfl, hb⟩
  clear lp lc p0 p1 p2 c0 c1
  have B3 : Hid (_) := (B2.out.alloc (.cells #[.int .i64 0, .bool false] 25)).step hb
  have X3 : Hid (_) := (cells_new w2 #[.int .i64 0, .bool false] 25).step hb
  clear hb B2
  obtain ⟨lp, lc, p0, p1, p2, c0, c1⟩ := B3.out.facts
  have l0 := X3.out.lt
  go_wp2_with fail
  refine (check_bad u d m n s _ h).mono ?_
  rintro e w4 ⟨rfl, hb⟩
  clear lp lc p0 p1 p2 c0 c1 l0
  have B4 : Hid (_) := (B3.out.alloc (.cells #[.int .i64 0, .bool false] 25)).step hb
  have X4 : Hid (_) := (X3.out.alloc (.cells #[.int .i64 0, .bool false] 25)).step hb
  have Y4 : Hid (_) := (cells_new w3 #[.int .i64 0, .bool false] 25).step hb
  clear hb B3 X3
  have x0 := X4.out.cell 0 _ rfl
  have x1 := X4.out.cell 1 _ rfl
  have y0 := Y4.out.cell 0 _ rfl
  have y1 := Y4.out.cell 1 _ rfl
  go_wp2_with fail
  go_ret
  exact ⟨rfl, B4.out.bel⟩

set_option maxHeartbeats 8000000 in
set_option maxRecDepth 100000 in
theorem walk_ok (u d m n : Int) (s : Bool) (a : Option Addr) (k cap : Nat) (l : Nat → Bool) (w : World) (h : OkC u d m n) (hk : k ≤ 140737488351232)
    (hl : 0 < k → ∃ b off, a = some ⟨b, off, none⟩ ∧ b < w.heap.size ∧ ∀ j : Nat, j < k → w.cell? ⟨b, off + j, none⟩ = some (.bool (l j))) :
    Calls Try.prog 3 #[.agg #[.int .i64 u, .int .i64 d, .int .i64 m], .agg #[.int .i64 n, .bool s], .slice a k cap] w fun e w' => e = .returned (.bool true) ∧ Below w.heap.size w w' := by
  have B0 : Hid (_) := pc_new w u d m n s 23 25
  have HL : Hid (_) := hl
  have HO : Hid (OkC u d m n) := h
  clear hl h
  go_enter Try.func3, Try.ntmps3
  go_wp2_with fail
  refine (rerr_ok u d m n s _ HO.out).mono ?_
  rintro e w1 ⟨rfl, hb⟩
  have B1 : Hid (_) := B0.out.step hb
  clear hb B0
  obtain ⟨lp, lc, p0, p1, p2, c0, c1⟩ := B1.out.facts
  obtain ⟨xn, xs, CS, CR⟩ : ∃ (xn : Int) (xs : Bool), (∀ W, Calls Try.prog 7 #[.agg #[.int .i64 u, .int .i64 d, .int .i64 m], .agg #[.int .i64 n, .bool s], .bool ((k : Int) % 2 == 0)] W fun e w' => e = .returned (.tuple #[.agg #[.int .i64 xn, .bool xs], .int .i64 0]) ∧ Below W.heap.size W w') ∧
      (∀ W, Calls Try.prog 10 #[.agg #[.int .i64 u, .int .i64 d, .int .i64 m], .agg #[.int .i64 n, .bool s], .bool ((k : Int) % 2 == 0)] W fun e w' => e = .returned (.agg #[.int .i64 xn, .bool xs]) ∧ Below W.heap.size W w') :=
    ⟨_, _, fun W => step_ok u d m n s _ W HO.out, fun W => rstep_any u d m n s _ W HO.out⟩
  go_wp2_with fail
  refine (CS _).mono ?_
  rintro e w2 ⟨rfl, hb⟩
  clear lp lc p0 p1 p2 c0 c1 CS
  have B2 : Hid (_) := B1.out.step hb
  clear hb B1
  have HC : Hid (_) := CR
  clear CR
  obtain ⟨lp, lc, p0, p1, p2, c0, c1⟩ := B2.out.facts
  have l2 : Hid (w.heap.size + 1 < w2.heap.size) := lc
  go_wp2_with fail
  have B3 : Hid (_) := B2.out.alloc (.cells #[.int .i64 xn, .bool xs] 25)
  refine (run_ok u d m n s a k cap l _ HO.out hk (fun hp => by
    obtain ⟨b, off, rfl, hb, hc⟩ := HL.out hp
    exact ⟨b, off, rfl, Nat.lt_of_lt_of_le hb B3.out.bel.size, fun j hj => (B3.out.bel.cell (p := ⟨b, off + j, none⟩) hb).trans (hc j hj)⟩)).mono ?_
  rintro e w3 ⟨rfl, hb⟩
  clear lp lc p0 p1 p2 c0 c1
  have B4 : Hid (_) := B3.out.step hb
  have X4 : Hid (_) := (cells_new w2 #[.int .i64 xn, .bool xs] 25).step hb
  clear hb B3 B2
  obtain ⟨lp, lc, p0, p1, p2, c0, c1⟩ := B4.out.facts
  have l0 := X4.out.lt
  go_wp2_with fail
  refine (check_ok u d m n s _ HO.out).mono ?_
  rintro e w4 ⟨rfl, hb⟩
  clear lp lc p0 p1 p2 c0 c1
  have B5 : Hid (_) := (B4.out.alloc (.cells #[.int .i64 (runN u d m n l k), .bool (runS u d m n s l k)] 25)).step hb
  have X5 : Hid (_) := (X4.out.alloc (.cells #[.int .i64 (runN u d m n l k), .bool (runS u d m n s l k)] 25)).step hb
  have Y5 : Hid (_) := (cells_new w3 #[.int .i64 (runN u d m n l k), .bool (runS u d m n s l k)] 25).step hb
  have l3 : Hid (w2.heap.size < w3.heap.size) := l0
  have l4 : Hid (w3.heap.size < w4.heap.size) := Y5.out.lt
  clear hb B4 X4 l0
  obtain ⟨lp, lc, p0, p1, p2, c0, c1⟩ := B5.out.facts
  have HS : Hid (Sy w u d m n s w2.heap.size w3.heap.size w4.heap.size xn xs (runN u d m n l k) (runS u d m n s l k) n s (w4.alloc (.cells #[.int .i64 n, .bool s] 25))) :=
    ⟨B5.out.alloc _, X5.out.alloc _, Y5.out.alloc _, cells_new w4 #[.int .i64 n, .bool s] 25, l2.out, l3.out, l4.out⟩
  go_wp2_with fail
  clear B5 X5 Y5 lp lc p0 p1 p2 c0 c1
  go_loopg [14, 71] (k + 1) (fun g t q wr => ∃ j : Nat, q = .int .i64 j ∧ t = .int .i64 (runA u d m n s l j) ∧ k - j < g ∧ j ≤ k ∧ Hid (Sy w u d m n s w2.heap.size w3.heap.size w4.heap.size xn xs (runN u d m n l k) (runS u d m n s l k) (runN u d m n l j) (runS u d m n s l j) wr))
  case atStart => exact ⟨0, rfl, rfl, by omega, by omega, HS⟩
  case round =>
    obtain ⟨j, rfl, rfl, hg, hj, HB⟩ := hrel
    clear HS
    obtain ⟨lp, lc, p0, p1, p2, c0, c1⟩ := HB.out.pc.facts
    obtain ⟨lz, x0, x1, y0, y1, z0, z1, f0, f1⟩ := HB.out.facts
    by_cases hlt : j < k
    · have q1 : (j : Int) < (k : Int) := by omega
      obtain ⟨b, off, rfl, hbl, hcell⟩ := HL.out (by omega)
      have r0 := (HB.out.pc.bel.cell (p := ⟨b, off + j, none⟩) hbl).trans (hcell j hlt)
      clear hcell
      have ok := HO.out.run l j
      have E1 : Hid (runN u d m n l (j + 1) = nxI u d m (runN u d m n l j) (l j)) := rfl
      have E2 : Hid (runS u d m n s l (j + 1) = nxB m (runN u d m n l (j + 1)) (runS u d m n s l j)) := rfl
      have E3 : Hid (runA u d m n s l (j + 1) = if runS u d m n s l (j + 1) && !runS u d m n s l j then (j : Int) else runA u d m n s l j) := rfl
      generalize runN u d m n l k = NK at *
      generalize runS u d m n s l k = SK at *
      generalize runA u d m n s l k = AK at *
      generalize runN u d m n l j = N at *
      generalize runS u d m n s l j = S at *
      generalize l j = y at *
      generalize runA u d m n s l j = A at *
      go_wp2_with fail
      refine (rstep_any u d m N S y _ ok).mono ?_
      rintro e w5 ⟨rfl, hb⟩
      clear lp lc p0 p1 p2 c0 c1 lz x0 x1 y0 y1 z0 z1 f0 f1 r0
      rw [E1.out] at E2
      have F : Hid (runN u d m n l (j + 1) = nxI u d m N y ∧ runS u d m n s l (j + 1) = nxB m (nxI u d m N y) S) := ⟨E1.out, E2.out⟩
      clear E1 E2
      generalize nxB m (nxI u d m N y) S = S' at *
      generalize nxI u d m N y = N' at *
      have HB2 : Hid (_) := HB.out.step hb
      obtain ⟨lz, x0, x1, y0, y1, z0, z1, f0, f1⟩ := HB2.out.facts
      rw [F.out.2] at E3
      clear HB hb ok x0 x1 y0 y1
      cases S <;> cases S'
      · go_wp2_with fail
        go_roundg (k - (j + 1) + 1)
        case measure => omega
        case rel => exact ⟨j + 1, by go_num, by rw [E3.out]; rfl, by omega, by omega, by rw [F.out.1, F.out.2]; exact (HB2.out.store _ _).alloc _⟩
      · go_wp2_with fail
        go_roundg (k - (j + 1) + 1)
        case measure => omega
        case rel => exact ⟨j + 1, by go_num, by rw [E3.out]; rfl, by omega, by omega, by rw [F.out.1, F.out.2]; exact (HB2.out.store _ _).alloc _⟩
      · go_wp2_with fail
        go_roundg (k - (j + 1) + 1)
        case measure => omega
        case rel => exact ⟨j + 1, by go_num, by rw [E3.out]; rfl, by omega, by omega, by rw [F.out.1, F.out.2]; exact (HB2.out.store _ _).alloc _⟩
      · go_wp2_with fail
        go_roundg (k - (j + 1) + 1)
        case measure => omega
        case rel => exact ⟨j + 1, by go_num, by rw [E3.out]; rfl, by omega, by omega, by rw [F.out.1, F.out.2]; exact (HB2.out.store _ _).alloc _⟩
    · have q1 : ¬ (j : Int) < (k : Int) := by omega
      obtain rfl : j = k := by omega
      clear HO HL
      generalize runN u d m n l j = NK at *
      generalize runS u d m n s l j = SK at *
      generalize runA u d m n s l j = AK at *
      go_wp2_with fail
      go_region_held3 (fun w' => (w'.cell? ⟨w2.heap.size, 0, none⟩ = some (.int .i64 xn) ∧ w'.cell? ⟨w2.heap.size, 1, none⟩ = some (.bool xs) ∧ w'.cell? ⟨w3.heap.size, 0, none⟩ = some (.int .i64 NK) ∧ w'.cell? ⟨w3.heap.size, 1, none⟩ = some (.bool SK) ∧ w'.cell? ⟨w4.heap.size, 0, none⟩ = some (.int .i64 NK) ∧ w'.cell? ⟨w4.heap.size, 1, none⟩ = some (.bool SK)) ∧ w'.cell? ⟨w.heap.size, 0, none⟩ = some (.int .i64 u) ∧ w'.cell? ⟨w.heap.size, 1, none⟩ = some (.int .i64 d) ∧ w'.cell? ⟨w.heap.size, 2, none⟩ = some (.int .i64 m) ∧ w'.cell? ⟨w.heap.size + 1, 0, none⟩ = some (.int .i64 n) ∧ w'.cell? ⟨w.heap.size + 1, 1, none⟩ = some (.bool s)) (first | exact ⟨⟨x0, x1, y0, y1, z0, z1⟩, p0, p1, p2, c0, c1⟩ | exact K6.out | go_keep)
        (first | (go_at_call 10; refine (HC.out _).mono ?_; rintro e w6 ⟨rfl, hb6⟩; have H6 : Hid (_) := HB.out.drew.step hb6; have K6 : Hid (_) := H6.out.keep; clear hb6))
      all_goals (go_wp2_with fail; go_ret; exact ⟨rfl, H6.out.pc.bel⟩)

theorem walk (pUp : Int) (pDown : Int) (pMost : Int) (cN : Int) (cSet : Bool) (bada : Option Addr) (badn badc : Nat) (bad : Nat → Bool) (w : World) (h_pUp : (Lit.int .i64 pUp).wf = true) (h_pDown : (Lit.int .i64 pDown).wf = true) (h_pMost : (Lit.int .i64 pMost).wf = true) (h_cN : (Lit.int .i64 cN).wf = true) (h_bad : RowB w bada badn badc bad) :
    Calls Try.prog 3 #[.agg #[.int .i64 pUp, .int .i64 pDown, .int .i64 pMost], .agg #[.int .i64 cN, .bool cSet], .slice bada badn badc] w fun e w' => e = .returned (.bool true) ∧ Below w.heap.size w w' := by
  obtain ⟨h1, h2, h3, h4, h5⟩ := h_bad
  by_cases h : OkC pUp pDown pMost cN
  · exact walk_ok pUp pDown pMost cN cSet bada badn badc bad w h h3 h5
  · exact walk_bad pUp pDown pMost cN cSet _ badn badc w h h3

/-! ### THE ROW's STEP -/
set_option maxRecDepth 100000 in
theorem lifted (os : Os) (started : os.Started) (H : Type) (enc : TypeId × Value → H) :
    ReturnsInHanded {} Try.checked os 3 .any (Rows.countSaysSpec.pre6 enc Try.prog Try.f3 Rows.countSaysRow.domain false) (Rows.countSaysSpec.post enc Try.prog Try.f3 false true false false) := by
  refine returnsInHanded_of_change_sized (C := Try.checked) own started (by kernel_rfl) Try.func3
    (ChangeSpec.witness6 (enc := enc) (C := Try.checked) false ⟨#[], #[.agg #[.int .i64 0, .int .i64 0, .int .i64 0], .agg #[.int .i64 0, .bool false], .slice none 0 0], []⟩ 8 (by kernel_rfl) (by kernel_rfl) (by kernel_rfl) (by kernel_rfl)) ?_
  intro W base args ds gs before hval0 hW hcnd hsz0 _
  have hval : ∀ (j : Nat) t v, Try.f3.params[j]? = some t → args[j]? = some v → Value.okWide Try.prog W .any base t v := hval0
  have hW' := hW
  obtain ⟨p, q, hA0, hV, rfl, hfz, hnd⟩ := hW
  have hA : DataW.TrodAll enc Try.prog W 0 (fun _ => true) true Try.f3.params.toList args.toList ds p := hA0
  rw [Try.params3] at hA hval
  obtain ⟨v0, vs0, d0, ds0, p0, q0, hargs, rfl, rfl, h0, r0⟩ := trodAll_cons hA
  obtain ⟨v1, vs1, d1, ds1, p1, q1, rfl, rfl, rfl, h1, r1⟩ := trodAll_cons r0
  obtain ⟨v2, vs2, d2, ds2, p2, q2, rfl, rfl, rfl, h2, r2⟩ := trodAll_cons r1
  obtain ⟨rfl, rfl, rfl⟩ := trodAll_nil r2
  obtain rfl : args = #[v0, v1, v2] := by cases args; simp_all
  obtain ⟨rfl, rfl⟩ := trodVars_none hV
  have hz0 : Light Try.prog 23 d0 := light_of hsz0 (j := 0) (by first | rfl | (rw [Try.params3]; rfl)) rfl
  have k0 := h0
  have lt0 : ∀ x ∈ p0, x.block < W.heap.size := by obtain ⟨m, hm⟩ := k0; exact DataW.trod_lt m _ _ _ hm
  obtain ⟨cs0, rfl, _⟩ := okWide_struct Try.underlying23 (hval 0 23 v0 rfl rfl)
  obtain ⟨pUp, pDown, pMost, e0, h_pUp, h_pDown, h_pMost⟩ := (by obtain ⟨fuel, hf⟩ := h0; exact open23 hf hz0 : ∃ pUp : Int, ∃ pDown : Int, ∃ pMost : Int, cs0.toList = [.int .i64 pUp, .int .i64 pDown, .int .i64 pMost] ∧ (Lit.int .i64 pUp).wf = true ∧ (Lit.int .i64 pDown).wf = true ∧ (Lit.int .i64 pMost).wf = true)
  obtain rfl : cs0 = #[.int .i64 pUp, .int .i64 pDown, .int .i64 pMost] := by cases cs0; simp_all
  clear e0
  have hz1 : Light Try.prog 25 d1 := light_of hsz0 (j := 1) (by first | rfl | (rw [Try.params3]; rfl)) rfl
  have k1 := h1
  have lt1 : ∀ x ∈ p1, x.block < W.heap.size := by obtain ⟨m, hm⟩ := k1; exact DataW.trod_lt m _ _ _ hm
  obtain ⟨cs1, rfl, _⟩ := okWide_struct Try.underlying25 (hval 1 25 v1 rfl rfl)
  obtain ⟨cN, cSet, e1, h_cN⟩ := (by obtain ⟨fuel, hf⟩ := h1; exact open25 hf hz1 : ∃ cN : Int, ∃ cSet : Bool, cs1.toList = [.int .i64 cN, .bool cSet] ∧ (Lit.int .i64 cN).wf = true)
  obtain rfl : cs1 = #[.int .i64 cN, .bool cSet] := by cases cs1; simp_all
  clear e1
  have hz2 : Light Try.prog 26 d2 := light_of hsz0 (j := 2) (by first | rfl | (rw [Try.params3]; rfl)) rfl
  have k2 := h2
  have lt2 : ∀ x ∈ p2, x.block < W.heap.size := by obtain ⟨m, hm⟩ := k2; exact DataW.trod_lt m _ _ _ hm
  obtain ⟨bada, badn, badc, rfl⟩ := okWide_slice Try.underlying26 (hval 2 26 v2 rfl rfl)
  obtain ⟨bad, h_bad⟩ : ∃ l, RowB W bada badn badc l := by
    obtain ⟨fuel, hf⟩ := h2
    obtain ⟨a, m, c, l, hcs, hr⟩ := rowB_of Try.underlying26 Try.underlying4 (by kernel_rfl) (by kernel_rfl) hf hz2
    simp [Value.cells] at hcs
    obtain ⟨rfl, rfl, rfl⟩ := hcs
    exact ⟨l, hr⟩
  clear hA0 hval0
  refine (walk pUp pDown pMost cN cSet bada badn badc bad W h_pUp h_pDown h_pMost h_cN h_bad).mono fun e W' ⟨he, bel⟩ => ?_
  subst he
  exact ⟨_, rfl, _, _, _, [], _, [], hW', trodAll_mk1 (shut_bool Try.underlying4 _), (trodAll_cons_mk (Below.trod laidOut (by kernel_rfl) (of_decide_eq_true (by kernel_rfl)) k0 bel lt0) (trodAll_cons_mk (Below.trod laidOut (by kernel_rfl) (of_decide_eq_true (by kernel_rfl)) k1 bel lt1) (trodAll_cons_mk (Below.trod laidOut (by kernel_rfl) (of_decide_eq_true (by kernel_rfl)) k2 bel lt2) trodAll_mk0))), rfl, bel.frame _, fun h => by cases h⟩

theorem over : Rows.countSaysRow.holds Try.pinned (OpenSpec.ofChange Rows.countSaysSpec) :=
  OpenClaim.holds_of_wide 3 Try.f3 rfl rfl rfl rfl rfl rfl rfl ⟨rfl, rfl, rfl, rfl, rfl⟩ rfl rfl rfl rfl rfl (by kernel_rfl) Try.func3 (by kernel_rfl)
    (of_decide_eq_true (by kernel_rfl)) (by unfold Func.isWrapper; first | (rw [if_pos (by decide +kernel)]; kernel_rfl) | (rw [if_neg (by decide +kernel)]; exact ⟨rfl, rfl⟩))
    (fun os started H enc _ => lifted os started H enc)


end Go.Proofs.Ytfdjjhenjkcciaa.countSays
namespace Go.Proofs.Ytfdjjhenjkcciaa
/-- THE STATEMENT -/
theorem countSays_holds : Rows.CountSaysSaid := countSays.over
#print axioms countSays_holds
end Go.Proofs.Ytfdjjhenjkcciaa
