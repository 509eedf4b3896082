/-
  The verifier's own helpers at entries: a log with memory to spare (ample), whether it is as it was (stays), a log spoilt with the spare memory behind it (spoil).
-/
import Derived.Test.YtkklinjamcfppaaDoorEntPut
import Derived.Test.YtkklinjamcfppaaDoorOpenE
import Derived.Laws.MakeOwn
namespace Go.Proofs.YtkklinjamcfppaaDoor
open Go.RowKit
set_option linter.unusedVariables false

def fil : En := ⟨77, 0, 0, 0⟩
/-- n entries, the filling twice behind them -/
def twoE (l : Nat → En) (n : Nat) (t : Nat) : En := if t < n then l t else fil
/-- n entries, the filling twice behind them, in a row of its own from block N on -/
def AmpE (N : Nat) (w : World) (g cap n : Nat) (l : Nat → En) : Prop := OwE N w (.slice (some ⟨g, 0, none⟩) (n + 2) cap) (n + 2) (twoE l n)
theorem Cells.grown {w w' : World} {b : Nat} {vs : List Value} {row : Option Nat} (h : Cells w b vs) (hg : w.grownBy w' row) (hne : some b ≠ row) : Cells w' b vs := by
  have e := hg.block b h.lt hne
  exact ⟨Nat.lt_of_lt_of_le h.lt hg.size, fun j v hj => (World.cell?_of_block (a := ⟨b, j, none⟩) e).trans (h.cell j v hj), fun j v hj => (World.frozen?_of_block (a := ⟨b, j, none⟩) e).trans (h.froz j v hj)⟩
theorem valE_two (l : Nat → En) (n : Nat) : valE l n ++ [.int .i64 fil.f, .int .i64 fil.l, .int .i64 fil.c, .int .i64 fil.m, .int .i64 fil.f, .int .i64 fil.l, .int .i64 fil.c, .int .i64 fil.m] = valE (twoE l n) (n + 2) := by
  have e1 := valE_add (twoE l n) 0 n fil
  have e2 := valE_add (twoE l n) 0 (n + 1) fil
  have c1 : valE (fun t => twoE l n (0 + t)) n = valE l n := by
    apply List.ext_getElem?
    intro j
    by_cases hj : j < n * 4
    · rw [valE_get _ hj, valE_get _ hj]
      simp only [cellE, twoE, Nat.zero_add, if_pos (show j / 4 < n by omega)]
    · rw [List.getElem?_eq_none (by rw [valE_length]; omega), List.getElem?_eq_none (by rw [valE_length]; omega)]
  have a1 : addE (twoE l n) 0 n fil = twoE l n := by
    funext t
    unfold addE twoE
    rw [Nat.zero_add]
    split
    · rfl
    · rfl
  have a2 : addE (twoE l n) 0 (n + 1) fil = twoE l n := by
    funext t
    unfold addE twoE
    rw [Nat.zero_add]
    split
    · rfl
    · rw [if_neg (by omega)]
  have c2 : valE (fun t => twoE l n (0 + t)) (n + 1) = valE (twoE l n) (n + 1) := by
    congr 1
    funext t
    rw [Nat.zero_add]
  rw [c1, a1] at e1
  rw [c2, a2] at e2
  rw [← e2, ← e1, List.append_assoc]
  rfl
theorem eight_at {w : World} {b : Nat} (h : Cells w b [.int .i64 fil.f, .int .i64 fil.l, .int .i64 fil.c, .int .i64 fil.m, .int .i64 fil.f, .int .i64 fil.l, .int .i64 fil.c, .int .i64 fil.m]) : ∀ j u, [.int .i64 fil.f, .int .i64 fil.l, .int .i64 fil.c, .int .i64 fil.m, .int .i64 fil.f, .int .i64 fil.l, .int .i64 fil.c, .int .i64 fil.m][j]? = some u → w.cell? ((⟨b, 0, none⟩ : Addr).add j) = some u := fun j u hu => by
  rw [Addr.add_lit, Nat.zero_add]
  exact h.cell j u hu

set_option maxHeartbeats 4000000 in
theorem ampleE_some (ad : Addr) (n c : Nat) (l : Nat → En) (w : World) (hz : n * 32 ≤ 140737488351232) (h : RowE w (some ad) n l) :
    Calls Tryd.prog 15 #[.slice (some ad) n c, .agg #[.int .i64 fil.f, .int .i64 fil.l, .int .i64 fil.c, .int .i64 fil.m]] w fun e w' => ∃ g cap, e = .returned (.slice (some ⟨g, 0, none⟩) n cap) ∧ AmpE w.heap.size w' g cap n l ∧ Below w.heap.size w w' := by
  have HR : Hid (RowE w (some ad) n l) := h
  clear h
  obtain ⟨i, i1, i2, i3, i4⟩ := infoE
  obtain ⟨Z, hZ, hmk⟩ : ∃ Z : Array Value, Z.size = (n + 3) * 4 ∧ ∀ W : World, (Instr.makeSlice 22 (.int .i64 0) (.int .i64 ((n : Int) + 3))).run Tryd.prog W = .ok (.slice (some ⟨W.heap.size, 0, none⟩) 0 (n + 3)) (W.alloc (.cells Z 33)) := by
    refine ⟨madeCells (Value.agg #[.int .i64 0, .int .i64 0, .int .i64 0, .int .i64 0]).cells ((n + 3) * 4), size_madeCells _ _, fun W => ?_⟩
    have := run_make (P := Tryd.prog) W 22 33 i _ Tryd.underlying22 i1 i2 .i64 .i64 0 ((n : Int) + 3) (Int.le_refl _) (by omega) (by rw [i4]; omega) (by omega)
    rw [i3, show ((n : Int) + 3).toNat = n + 3 by omega] at this
    exact this
  have hHZ : Hid (Z.size = (n + 3) * 4) := hZ
  clear hZ
  have X0' : Cells (w.alloc (.cells #[.int .i64 fil.f, .int .i64 fil.l, .int .i64 fil.c, .int .i64 fil.m] 33)) w.heap.size [.int .i64 fil.f, .int .i64 fil.l, .int .i64 fil.c, .int .i64 fil.m] := cells_new _ _ _
  have W0 : Hid (Below w.heap.size w (w.alloc (.cells #[.int .i64 fil.f, .int .i64 fil.l, .int .i64 fil.c, .int .i64 fil.m] 33))) := (Below.refl _ w).alloc (Nat.le_refl _) _
  go_enter Tryd.func15, Tryd.ntmps15
  go_wp2_with fail
  obtain ⟨w1, hw1⟩ : ∃ w1, w1 = w.alloc (.cells #[.int .i64 fil.f, .int .i64 fil.l, .int .i64 fil.c, .int .i64 fil.m] 33) := ⟨_, rfl⟩
  have hw2 : w1 = w.alloc (.cells #[.int .i64 77, .int .i64 0, .int .i64 0, .int .i64 0] 33) := hw1
  rw [← hw1] at X0' W0
  try rw [← hw1]
  try rw [← hw2]
  have X0 : Hid (Cells w1 w.heap.size [.int .i64 fil.f, .int .i64 fil.l, .int .i64 fil.c, .int .i64 fil.m]) := X0'
  clear hw1 hw2 X0'
  have x0 : w1.cell? ⟨w.heap.size, 0, none⟩ = some (.int .i64 77) := X0.out.cell 0 _ rfl
  have x1 : w1.cell? ⟨w.heap.size, 1, none⟩ = some (.int .i64 0) := X0.out.cell 1 _ rfl
  have x2 : w1.cell? ⟨w.heap.size, 2, none⟩ = some (.int .i64 0) := X0.out.cell 2 _ rfl
  have x3 : w1.cell? ⟨w.heap.size, 3, none⟩ = some (.int .i64 0) := X0.out.cell 3 _ rfl
  have l1 : w.heap.size < w1.heap.size := X0.out.lt
  have zw : IntKind.i64.wrap ((n : Int) + 3) = (n : Int) + 3 := by rw [IntKind.wrap_i64]; omega
  have LF : Hid (Below w1.heap.size w1 w1) := Below.refl _ _
  have HA : Hid (∀ (W : World), Below w1.heap.size w1 W → ∀ j u, (valE l n)[j]? = some u → W.cell? (ad.add j) = some u) := fun W hW j u hu => by
    obtain ⟨hj, rfl⟩ := valE_at hu
    obtain ⟨bb, o, e, hl, hc⟩ := HR.out (by omega)
    cases e
    rw [Addr.add_lit]
    exact ((W0.out.trans (hW.mono W0.out.size)).cell (p := ⟨bb, o + j, none⟩) hl).trans (eat_cell hc hj)
  have M0 : Hid (∀ W : World, w1.heap.size ≤ W.heap.size → (W.alloc (.cells Z 33)).ownsRow w1.heap.size 33 4 (.slice (some ⟨W.heap.size, 0, none⟩) 0 (n + 3)) 0 []) := fun W hW => World.ownsRow_made W Z (n + 3) hW (by unfold maxLen; omega) hHZ.out
  have M1 : Hid ((w1.alloc (.cells Z 33)).drew.ownsRow w1.heap.size 33 4 (.slice (some ⟨w1.heap.size, 0, none⟩) 0 (n + 3)) 0 []) := M0.out w1 (Nat.le_refl _)
  have M2 : Hid (((w1.alloc (.cells Z 33)).alloc (.cells #[.int .i64 fil.f, .int .i64 fil.l, .int .i64 fil.c, .int .i64 fil.m, .int .i64 fil.f, .int .i64 fil.l, .int .i64 fil.c, .int .i64 fil.m] 33)).drew.ownsRow w1.heap.size 33 4 (.slice (some ⟨w1.heap.size, 0, none⟩) 0 (n + 3)) 0 []) := World.ownsRow.alloc (M0.out w1 (Nat.le_refl _)) _
  have M3 : Hid (((w1.alloc (.cells #[.int .i64 fil.f, .int .i64 fil.l, .int .i64 fil.c, .int .i64 fil.m, .int .i64 fil.f, .int .i64 fil.l, .int .i64 fil.c, .int .i64 fil.m] 33)).alloc (.cells Z 33)).drew.ownsRow w1.heap.size 33 4 (.slice (some ⟨w1.heap.size + 1, 0, none⟩) 0 (n + 3)) 0 []) := by
    have := M0.out (w1.alloc (.cells #[.int .i64 fil.f, .int .i64 fil.l, .int .i64 fil.c, .int .i64 fil.m, .int .i64 fil.f, .int .i64 fil.l, .int .i64 fil.c, .int .i64 fil.m] 33)) (by simp)
    rw [show (w1.alloc (.cells #[.int .i64 fil.f, .int .i64 fil.l, .int .i64 fil.c, .int .i64 fil.m, .int .i64 fil.f, .int .i64 fil.l, .int .i64 fil.c, .int .i64 fil.m] 33)).heap.size = w1.heap.size + 1 by simp] at this
    exact this
  have B1 : Hid (Below w1.heap.size w1 (w1.alloc (.cells Z 33)).drew) := (LF.out.alloc (Nat.le_refl _) _).drew
  have B2 : Hid (Below w1.heap.size w1 ((w1.alloc (.cells Z 33)).alloc (.cells #[.int .i64 fil.f, .int .i64 fil.l, .int .i64 fil.c, .int .i64 fil.m, .int .i64 fil.f, .int .i64 fil.l, .int .i64 fil.c, .int .i64 fil.m] 33)).drew) := ((LF.out.alloc (Nat.le_refl _) _).alloc (by simp) _).drew
  have B3 : Hid (Below w1.heap.size w1 ((w1.alloc (.cells #[.int .i64 fil.f, .int .i64 fil.l, .int .i64 fil.c, .int .i64 fil.m, .int .i64 fil.f, .int .i64 fil.l, .int .i64 fil.c, .int .i64 fil.m] 33)).alloc (.cells Z 33)).drew) := ((LF.out.alloc (Nat.le_refl _) _).alloc (by simp) _).drew
  have L2 : Hid (Cells ((w1.alloc (.cells Z 33)).alloc (.cells #[.int .i64 fil.f, .int .i64 fil.l, .int .i64 fil.c, .int .i64 fil.m, .int .i64 fil.f, .int .i64 fil.l, .int .i64 fil.c, .int .i64 fil.m] 33)).drew (w1.heap.size + 1) [.int .i64 fil.f, .int .i64 fil.l, .int .i64 fil.c, .int .i64 fil.m, .int .i64 fil.f, .int .i64 fil.l, .int .i64 fil.c, .int .i64 fil.m]) := by
    have := (cells_new (w1.alloc (.cells Z 33)) #[.int .i64 fil.f, .int .i64 fil.l, .int .i64 fil.c, .int .i64 fil.m, .int .i64 fil.f, .int .i64 fil.l, .int .i64 fil.c, .int .i64 fil.m] 33).drew
    rw [show (w1.alloc (.cells Z 33)).heap.size = w1.heap.size + 1 by simp] at this
    exact this
  have L3 : Hid (Cells ((w1.alloc (.cells #[.int .i64 fil.f, .int .i64 fil.l, .int .i64 fil.c, .int .i64 fil.m, .int .i64 fil.f, .int .i64 fil.l, .int .i64 fil.c, .int .i64 fil.m] 33)).alloc (.cells Z 33)).drew w1.heap.size [.int .i64 fil.f, .int .i64 fil.l, .int .i64 fil.c, .int .i64 fil.m, .int .i64 fil.f, .int .i64 fil.l, .int .i64 fil.c, .int .i64 fil.m]) := ((cells_new w1 #[.int .i64 fil.f, .int .i64 fil.l, .int .i64 fil.c, .int .i64 fil.m, .int .i64 fil.f, .int .i64 fil.l, .int .i64 fil.c, .int .i64 fil.m] 33).alloc _).drew
  have hz2 : n ≤ 4398046511104 := by omega
  go_region_held_law (fun w' => w'.cell? ⟨w.heap.size, 0, none⟩ = some (.int .i64 77) ∧ w'.cell? ⟨w.heap.size, 1, none⟩ = some (.int .i64 0) ∧ w'.cell? ⟨w.heap.size, 2, none⟩ = some (.int .i64 0) ∧ w'.cell? ⟨w.heap.size, 3, none⟩ = some (.int .i64 0)) (go_keep) (first | (refine step_append_own (some 11) rfl rfl (.tmp 9) (.tmp 10) 22 rfl w1.heap.size 33 i (.agg #[.int .i64 0, .int .i64 0, .int .i64 0, .int .i64 0]) 4 32 Tryd.underlying22 i1 i2 i3 i4 rfl (by decide) (.slice (some ⟨w1.heap.size, 0, none⟩) 0 (n + 3)) 0 [] rfl M1.out ad n c (valE l n) rfl (valE_length l n) (HA.out _ B1.out) (fun u hu => valE_one hu) (by unfold maxLen; omega) (by omega) B1.out.size ?_; intro v2 w2 ho hgr; have HO2 : Hid (w2.ownsRow w1.heap.size 33 4 v2 n (valE l n)) := (by show w2.ownsRow w1.heap.size 33 4 v2 n (valE l n); simpa using ho); have HB2 : Hid (Below w1.heap.size w1 w2) := B1.out.grown hgr B1.out.size (fun k hk => by simp [Value.ownBlock] at hk; omega);  have y0 := (HB2.out.cell (p := ⟨w.heap.size, 0, none⟩) l1).trans x0; have y1 := (HB2.out.cell (p := ⟨w.heap.size, 1, none⟩) l1).trans x1; have y2 := (HB2.out.cell (p := ⟨w.heap.size, 2, none⟩) l1).trans x2; have y3 := (HB2.out.cell (p := ⟨w.heap.size, 3, none⟩) l1).trans x3; clear ho hgr) | (refine step_append_own (some 11) rfl rfl (.tmp 9) (.tmp 10) 22 rfl w1.heap.size 33 i (.agg #[.int .i64 0, .int .i64 0, .int .i64 0, .int .i64 0]) 4 32 Tryd.underlying22 i1 i2 i3 i4 rfl (by decide) (.slice (some ⟨w1.heap.size, 0, none⟩) 0 (n + 3)) 0 [] rfl M2.out ad n c (valE l n) rfl (valE_length l n) (HA.out _ B2.out) (fun u hu => valE_one hu) (by unfold maxLen; omega) (by omega) B2.out.size ?_; intro v2 w2 ho hgr; have HO2 : Hid (w2.ownsRow w1.heap.size 33 4 v2 n (valE l n)) := (by show w2.ownsRow w1.heap.size 33 4 v2 n (valE l n); simpa using ho); have HB2 : Hid (Below w1.heap.size w1 w2) := B2.out.grown hgr B2.out.size (fun k hk => by simp [Value.ownBlock] at hk; omega); have CL : Hid (Cells w2 (w1.heap.size + 1) [.int .i64 fil.f, .int .i64 fil.l, .int .i64 fil.c, .int .i64 fil.m, .int .i64 fil.f, .int .i64 fil.l, .int .i64 fil.c, .int .i64 fil.m]) := Cells.grown L2.out hgr (by simp [Value.ownBlock]); have y0 := (HB2.out.cell (p := ⟨w.heap.size, 0, none⟩) l1).trans x0; have y1 := (HB2.out.cell (p := ⟨w.heap.size, 1, none⟩) l1).trans x1; have y2 := (HB2.out.cell (p := ⟨w.heap.size, 2, none⟩) l1).trans x2; have y3 := (HB2.out.cell (p := ⟨w.heap.size, 3, none⟩) l1).trans x3; clear ho hgr) | (refine step_append_own (some 11) rfl rfl (.tmp 9) (.tmp 10) 22 rfl w1.heap.size 33 i (.agg #[.int .i64 0, .int .i64 0, .int .i64 0, .int .i64 0]) 4 32 Tryd.underlying22 i1 i2 i3 i4 rfl (by decide) (.slice (some ⟨w1.heap.size + 1, 0, none⟩) 0 (n + 3)) 0 [] rfl M3.out ad n c (valE l n) rfl (valE_length l n) (HA.out _ B3.out) (fun u hu => valE_one hu) (by unfold maxLen; omega) (by omega) B3.out.size ?_; intro v2 w2 ho hgr; have HO2 : Hid (w2.ownsRow w1.heap.size 33 4 v2 n (valE l n)) := (by show w2.ownsRow w1.heap.size 33 4 v2 n (valE l n); simpa using ho); have HB2 : Hid (Below w1.heap.size w1 w2) := B3.out.grown hgr B3.out.size (fun k hk => by simp [Value.ownBlock] at hk; omega); have CL : Hid (Cells w2 w1.heap.size [.int .i64 fil.f, .int .i64 fil.l, .int .i64 fil.c, .int .i64 fil.m, .int .i64 fil.f, .int .i64 fil.l, .int .i64 fil.c, .int .i64 fil.m]) := Cells.grown L3.out hgr (by simp [Value.ownBlock]); have y0 := (HB2.out.cell (p := ⟨w.heap.size, 0, none⟩) l1).trans x0; have y1 := (HB2.out.cell (p := ⟨w.heap.size, 1, none⟩) l1).trans x1; have y2 := (HB2.out.cell (p := ⟨w.heap.size, 2, none⟩) l1).trans x2; have y3 := (HB2.out.cell (p := ⟨w.heap.size, 3, none⟩) l1).trans x3; clear ho hgr) | (refine step_append_own (some 15) rfl rfl (.tmp 11) (.tmp 14) 22 rfl w1.heap.size 33 i (.agg #[.int .i64 0, .int .i64 0, .int .i64 0, .int .i64 0]) 4 32 Tryd.underlying22 i1 i2 i3 i4 rfl (by decide) _ n (valE l n) rfl (by first | exact HO2.out | exact World.ownsRow.alloc HO2.out _) _ 2 2 [.int .i64 fil.f, .int .i64 fil.l, .int .i64 fil.c, .int .i64 fil.m, .int .i64 fil.f, .int .i64 fil.l, .int .i64 fil.c, .int .i64 fil.m] rfl rfl (by first | exact eight_at CL.out | exact eight_at (cells_new _ _ _)) (fun u hu => by simp at hu; rcases hu with rfl | rfl | rfl | rfl | rfl | rfl | rfl | rfl <;> rfl) (by unfold maxLen; omega) (by omega) (by first | exact HB2.out.size | (have := HB2.out.size; simp; omega)) ?_; intro v3 w3 ho hgr; have HO3 : Hid (w3.ownsRow w1.heap.size 33 4 v3 (n + 2) (valE l n ++ [.int .i64 fil.f, .int .i64 fil.l, .int .i64 fil.c, .int .i64 fil.m, .int .i64 fil.f, .int .i64 fil.l, .int .i64 fil.c, .int .i64 fil.m])) := ho; have HB3 : Hid (Below w1.heap.size w1 w3) := (by first | exact HB2.out.grown hgr HB2.out.size (fun k hk => (World.ownsRow.lt HO2.out k hk).1) | exact (HB2.out.alloc HB2.out.size _).grown hgr (by have := HB2.out.size; simp; omega) (fun k hk => (World.ownsRow.lt HO2.out k hk).1)); have z0 := (HB3.out.cell (p := ⟨w.heap.size, 0, none⟩) l1).trans x0; have z1 := (HB3.out.cell (p := ⟨w.heap.size, 1, none⟩) l1).trans x1; have z2 := (HB3.out.cell (p := ⟨w.heap.size, 2, none⟩) l1).trans x2; have z3 := (HB3.out.cell (p := ⟨w.heap.size, 3, none⟩) l1).trans x3; clear ho hgr))
  all_goals
    rw [valE_two] at HO3
    obtain ⟨g, cap, rfl, hf1, hf2⟩ := World.ownsRow.form HO3.out (by omega)
    have HN : Hid (AmpE w.heap.size w3 g cap n l) := World.ownsRow.mono HO3.out W0.out.size
    have q1 : (n : Int) + 2 ≤ (cap : Int) := by
      have := (OwE.nw (l := twoE l n) HO3.out)
      obtain ⟨a', c', e, hq⟩ := this
      simp only [Value.slice.injEq] at e
      obtain ⟨_, _, rfl⟩ := e
      have := hq.le
      omega
    have q2 : (n : Int) ≤ (cap : Int) := by omega
    have q3 : (0 : Int) ≤ (n : Int) := by omega
    go_wp2_with fail
    go_ret
    exact ⟨g, cap, rfl, HN.out, below_then W0.out HB3.out W0.out.size⟩

/-- append of nothing, as a step of a region that draws -/
theorem step_append_nil {P : Program} {ops : Array Oper} {o : Oper} {a : Act} {w : World} {K : Act → World → Prop} {Q : Exit → Act → World → Prop} {E : Prop}
    (d : Option Nat) (hd : o.dst = d) (hg : o.guard = none) (s x : Operand) (t : TypeId) (hop : o.op = Op.call { callee := Callee.builtin Builtin.append, args := #[s, x], argTypes := #[t, t] })
    (base : Nat) (e : TypeId) (i : TypeInfo) (size : Nat) (h1 : P.underlying t = some (.slice e)) (h2 : P.info? e = some i) (h4 : i.size = size)
    (v : Value) (n : Nat) (xs : List Value) (hs : a.eval s = v) (hown : w.ownsRow base e size v n xs) (m : Nat) (hm : m = 0) (hx : a.eval x = .slice none m 0) (hK : K (a.put d v) w) :
    if Region.wanted o (yielded ops a.tmps) = true then Oper.wp P o a w K Q else E := by
  subst hd
  subst hm
  have hw : Region.wanted o (yielded ops a.tmps) = true := by simp [Region.wanted, hg]
  rw [if_pos hw]
  have hrun := run_append_owned_none (P := P) w base t o.type e i size h1 h2 v n xs hown
  unfold Oper.wp
  simp [execOp, hop, resolve, invoke, builtin, hs, hx, hrun, Result.andThen]
  exact hK

set_option maxHeartbeats 4000000 in
theorem ampleE_nil (m : Nat) (hm : m = 0) (l : Nat → En) (w : World) :
    Calls Tryd.prog 15 #[.slice none m 0, .agg #[.int .i64 fil.f, .int .i64 fil.l, .int .i64 fil.c, .int .i64 fil.m]] w fun e w' => ∃ g cap, e = .returned (.slice (some ⟨g, 0, none⟩) m cap) ∧ AmpE w.heap.size w' g cap 0 l ∧ Below w.heap.size w w' := by
  have HM : Hid (m = 0) := hm
  have hm1 : (m : Int) ≤ 9 := by omega
  have hm2 : (0 : Int) ≤ (m : Int) := by omega
  clear hm
  obtain ⟨i, i1, i2, i3, i4⟩ := infoE
  obtain ⟨Z, hZ, hmk⟩ : ∃ Z : Array Value, Z.size = (m + 3) * 4 ∧ ∀ W : World, (Instr.makeSlice 22 (.int .i64 0) (.int .i64 ((m : Int) + 3))).run Tryd.prog W = .ok (.slice (some ⟨W.heap.size, 0, none⟩) 0 (m + 3)) (W.alloc (.cells Z 33)) := by
    refine ⟨madeCells (Value.agg #[.int .i64 0, .int .i64 0, .int .i64 0, .int .i64 0]).cells ((m + 3) * 4), size_madeCells _ _, fun W => ?_⟩
    have := run_make (P := Tryd.prog) W 22 33 i _ Tryd.underlying22 i1 i2 .i64 .i64 0 ((m : Int) + 3) (Int.le_refl _) (by omega) (by rw [i4]; omega) (by omega)
    rw [i3, show ((m : Int) + 3).toNat = m + 3 by omega] at this
    exact this
  have hHZ : Hid (Z.size = (m + 3) * 4) := hZ
  clear hZ
  have zw : IntKind.i64.wrap ((m : Int) + 3) = (m : Int) + 3 := by rw [IntKind.wrap_i64]; omega
  have X0' : Cells (w.alloc (.cells #[.int .i64 fil.f, .int .i64 fil.l, .int .i64 fil.c, .int .i64 fil.m] 33)) w.heap.size [.int .i64 fil.f, .int .i64 fil.l, .int .i64 fil.c, .int .i64 fil.m] := cells_new _ _ _
  have W0 : Hid (Below w.heap.size w (w.alloc (.cells #[.int .i64 fil.f, .int .i64 fil.l, .int .i64 fil.c, .int .i64 fil.m] 33))) := (Below.refl _ w).alloc (Nat.le_refl _) _
  go_enter Tryd.func15, Tryd.ntmps15
  go_wp2_with fail
  obtain ⟨w1, hw1⟩ : ∃ w1, w1 = w.alloc (.cells #[.int .i64 fil.f, .int .i64 fil.l, .int .i64 fil.c, .int .i64 fil.m] 33) := ⟨_, rfl⟩
  rw [← hw1] at X0' W0 ⊢
  have X0 : Hid (Cells w1 w.heap.size [.int .i64 fil.f, .int .i64 fil.l, .int .i64 fil.c, .int .i64 fil.m]) := X0'
  clear hw1 X0'
  have x0 : w1.cell? ⟨w.heap.size, 0, none⟩ = some (.int .i64 77) := X0.out.cell 0 _ rfl
  have x1 : w1.cell? ⟨w.heap.size, 1, none⟩ = some (.int .i64 0) := X0.out.cell 1 _ rfl
  have x2 : w1.cell? ⟨w.heap.size, 2, none⟩ = some (.int .i64 0) := X0.out.cell 2 _ rfl
  have x3 : w1.cell? ⟨w.heap.size, 3, none⟩ = some (.int .i64 0) := X0.out.cell 3 _ rfl
  have l1 : w.heap.size < w1.heap.size := X0.out.lt
  have LF : Hid (Below w1.heap.size w1 w1) := Below.refl _ _
  have M0 : Hid (∀ W : World, w1.heap.size ≤ W.heap.size → (W.alloc (.cells Z 33)).ownsRow w1.heap.size 33 4 (.slice (some ⟨W.heap.size, 0, none⟩) 0 (m + 3)) 0 []) := fun W hW => World.ownsRow_made W Z (m + 3) hW (by unfold maxLen; omega) hHZ.out
  have M1 : Hid ((w1.alloc (.cells Z 33)).drew.ownsRow w1.heap.size 33 4 (.slice (some ⟨w1.heap.size, 0, none⟩) 0 (m + 3)) 0 []) := M0.out w1 (Nat.le_refl _)
  have M2 : Hid (((w1.alloc (.cells Z 33)).alloc (.cells #[.int .i64 fil.f, .int .i64 fil.l, .int .i64 fil.c, .int .i64 fil.m, .int .i64 fil.f, .int .i64 fil.l, .int .i64 fil.c, .int .i64 fil.m] 33)).drew.ownsRow w1.heap.size 33 4 (.slice (some ⟨w1.heap.size, 0, none⟩) 0 (m + 3)) 0 []) := World.ownsRow.alloc (M0.out w1 (Nat.le_refl _)) _
  have M3 : Hid (((w1.alloc (.cells #[.int .i64 fil.f, .int .i64 fil.l, .int .i64 fil.c, .int .i64 fil.m, .int .i64 fil.f, .int .i64 fil.l, .int .i64 fil.c, .int .i64 fil.m] 33)).alloc (.cells Z 33)).drew.ownsRow w1.heap.size 33 4 (.slice (some ⟨w1.heap.size + 1, 0, none⟩) 0 (m + 3)) 0 []) := by
    have := M0.out (w1.alloc (.cells #[.int .i64 fil.f, .int .i64 fil.l, .int .i64 fil.c, .int .i64 fil.m, .int .i64 fil.f, .int .i64 fil.l, .int .i64 fil.c, .int .i64 fil.m] 33)) (by simp)
    rw [show (w1.alloc (.cells #[.int .i64 fil.f, .int .i64 fil.l, .int .i64 fil.c, .int .i64 fil.m, .int .i64 fil.f, .int .i64 fil.l, .int .i64 fil.c, .int .i64 fil.m] 33)).heap.size = w1.heap.size + 1 by simp] at this
    exact this
  have B2 : Hid (Below w1.heap.size w1 ((w1.alloc (.cells Z 33)).alloc (.cells #[.int .i64 fil.f, .int .i64 fil.l, .int .i64 fil.c, .int .i64 fil.m, .int .i64 fil.f, .int .i64 fil.l, .int .i64 fil.c, .int .i64 fil.m] 33)).drew) := ((LF.out.alloc (Nat.le_refl _) _).alloc (by simp) _).drew
  have B3 : Hid (Below w1.heap.size w1 ((w1.alloc (.cells #[.int .i64 fil.f, .int .i64 fil.l, .int .i64 fil.c, .int .i64 fil.m, .int .i64 fil.f, .int .i64 fil.l, .int .i64 fil.c, .int .i64 fil.m] 33)).alloc (.cells Z 33)).drew) := ((LF.out.alloc (Nat.le_refl _) _).alloc (by simp) _).drew
  have L2 : Hid (Cells ((w1.alloc (.cells Z 33)).alloc (.cells #[.int .i64 fil.f, .int .i64 fil.l, .int .i64 fil.c, .int .i64 fil.m, .int .i64 fil.f, .int .i64 fil.l, .int .i64 fil.c, .int .i64 fil.m] 33)).drew (w1.heap.size + 1) [.int .i64 fil.f, .int .i64 fil.l, .int .i64 fil.c, .int .i64 fil.m, .int .i64 fil.f, .int .i64 fil.l, .int .i64 fil.c, .int .i64 fil.m]) := by
    have := (cells_new (w1.alloc (.cells Z 33)) #[.int .i64 fil.f, .int .i64 fil.l, .int .i64 fil.c, .int .i64 fil.m, .int .i64 fil.f, .int .i64 fil.l, .int .i64 fil.c, .int .i64 fil.m] 33).drew
    rw [show (w1.alloc (.cells Z 33)).heap.size = w1.heap.size + 1 by simp] at this
    exact this
  have L3 : Hid (Cells ((w1.alloc (.cells #[.int .i64 fil.f, .int .i64 fil.l, .int .i64 fil.c, .int .i64 fil.m, .int .i64 fil.f, .int .i64 fil.l, .int .i64 fil.c, .int .i64 fil.m] 33)).alloc (.cells Z 33)).drew w1.heap.size [.int .i64 fil.f, .int .i64 fil.l, .int .i64 fil.c, .int .i64 fil.m, .int .i64 fil.f, .int .i64 fil.l, .int .i64 fil.c, .int .i64 fil.m]) := ((cells_new w1 #[.int .i64 fil.f, .int .i64 fil.l, .int .i64 fil.c, .int .i64 fil.m, .int .i64 fil.f, .int .i64 fil.l, .int .i64 fil.c, .int .i64 fil.m] 33).alloc _).drew
  go_region_held_law (fun w' => w'.cell? ⟨w.heap.size, 0, none⟩ = some (.int .i64 77) ∧ w'.cell? ⟨w.heap.size, 1, none⟩ = some (.int .i64 0) ∧ w'.cell? ⟨w.heap.size, 2, none⟩ = some (.int .i64 0) ∧ w'.cell? ⟨w.heap.size, 3, none⟩ = some (.int .i64 0)) (go_keep) (first | (refine step_append_nil (some 11) rfl rfl (.tmp 9) (.tmp 10) 22 rfl w1.heap.size 33 i 4 Tryd.underlying22 i1 i3 (.slice (some ⟨w1.heap.size, 0, none⟩) 0 (m + 3)) 0 [] rfl M1.out m HM.out rfl ?_) | (refine step_append_nil (some 11) rfl rfl (.tmp 9) (.tmp 10) 22 rfl w1.heap.size 33 i 4 Tryd.underlying22 i1 i3 (.slice (some ⟨w1.heap.size, 0, none⟩) 0 (m + 3)) 0 [] rfl M2.out m HM.out rfl ?_) | (refine step_append_nil (some 11) rfl rfl (.tmp 9) (.tmp 10) 22 rfl w1.heap.size 33 i 4 Tryd.underlying22 i1 i3 (.slice (some ⟨w1.heap.size + 1, 0, none⟩) 0 (m + 3)) 0 [] rfl M3.out m HM.out rfl ?_) | (refine step_append_own (some 15) rfl rfl (.tmp 11) (.tmp 14) 22 rfl w1.heap.size 33 i (.agg #[.int .i64 0, .int .i64 0, .int .i64 0, .int .i64 0]) 4 32 Tryd.underlying22 i1 i2 i3 i4 rfl (by decide) (.slice (some ⟨w1.heap.size, 0, none⟩) 0 (m + 3)) 0 [] rfl M2.out _ 2 2 [.int .i64 fil.f, .int .i64 fil.l, .int .i64 fil.c, .int .i64 fil.m, .int .i64 fil.f, .int .i64 fil.l, .int .i64 fil.c, .int .i64 fil.m] rfl rfl (eight_at L2.out) (fun u hu => by simp at hu; rcases hu with rfl | rfl | rfl | rfl | rfl | rfl | rfl | rfl <;> rfl) (by unfold maxLen; omega) (by omega) B2.out.size ?_; intro v3 w3 ho hgr; have HO3 : Hid (w3.ownsRow w1.heap.size 33 4 v3 (0 + 2) (valE l 0 ++ [.int .i64 fil.f, .int .i64 fil.l, .int .i64 fil.c, .int .i64 fil.m, .int .i64 fil.f, .int .i64 fil.l, .int .i64 fil.c, .int .i64 fil.m])) := ho; have HB3 : Hid (Below w1.heap.size w1 w3) := B2.out.grown hgr B2.out.size (fun k hk => by simp [Value.ownBlock] at hk; omega); have z0 := (HB3.out.cell (p := ⟨w.heap.size, 0, none⟩) l1).trans x0; have z1 := (HB3.out.cell (p := ⟨w.heap.size, 1, none⟩) l1).trans x1; have z2 := (HB3.out.cell (p := ⟨w.heap.size, 2, none⟩) l1).trans x2; have z3 := (HB3.out.cell (p := ⟨w.heap.size, 3, none⟩) l1).trans x3; clear ho hgr) | (refine step_append_own (some 15) rfl rfl (.tmp 11) (.tmp 14) 22 rfl w1.heap.size 33 i (.agg #[.int .i64 0, .int .i64 0, .int .i64 0, .int .i64 0]) 4 32 Tryd.underlying22 i1 i2 i3 i4 rfl (by decide) (.slice (some ⟨w1.heap.size + 1, 0, none⟩) 0 (m + 3)) 0 [] rfl M3.out _ 2 2 [.int .i64 fil.f, .int .i64 fil.l, .int .i64 fil.c, .int .i64 fil.m, .int .i64 fil.f, .int .i64 fil.l, .int .i64 fil.c, .int .i64 fil.m] rfl rfl (eight_at L3.out) (fun u hu => by simp at hu; rcases hu with rfl | rfl | rfl | rfl | rfl | rfl | rfl | rfl <;> rfl) (by unfold maxLen; omega) (by omega) B3.out.size ?_; intro v3 w3 ho hgr; have HO3 : Hid (w3.ownsRow w1.heap.size 33 4 v3 (0 + 2) (valE l 0 ++ [.int .i64 fil.f, .int .i64 fil.l, .int .i64 fil.c, .int .i64 fil.m, .int .i64 fil.f, .int .i64 fil.l, .int .i64 fil.c, .int .i64 fil.m])) := ho; have HB3 : Hid (Below w1.heap.size w1 w3) := B3.out.grown hgr B3.out.size (fun k hk => by simp [Value.ownBlock] at hk; omega); have z0 := (HB3.out.cell (p := ⟨w.heap.size, 0, none⟩) l1).trans x0; have z1 := (HB3.out.cell (p := ⟨w.heap.size, 1, none⟩) l1).trans x1; have z2 := (HB3.out.cell (p := ⟨w.heap.size, 2, none⟩) l1).trans x2; have z3 := (HB3.out.cell (p := ⟨w.heap.size, 3, none⟩) l1).trans x3; clear ho hgr))
  all_goals
    rw [valE_two] at HO3
    obtain ⟨g, cap, rfl, hf1, hf2⟩ := World.ownsRow.form HO3.out (by omega)
    have HN : Hid (AmpE w.heap.size w3 g cap 0 l) := World.ownsRow.mono HO3.out W0.out.size
    have q1 : (m : Int) ≤ (cap : Int) := by
      have := (OwE.nw (l := twoE l 0) HO3.out)
      obtain ⟨a', c', e, hq⟩ := this
      simp only [Value.slice.injEq] at e
      obtain ⟨_, _, rfl⟩ := e
      have := hq.le
      have := HM.out
      omega
    go_wp2_with fail
    go_ret
    exact ⟨g, cap, rfl, HN.out, below_then W0.out HB3.out W0.out.size⟩

theorem ampleE_any (la : Option Addr) (n c : Nat) (l : Nat → En) (w : World) (h : RowI w la n c l) :
    Calls Tryd.prog 15 #[.slice la n c, .agg #[.int .i64 fil.f, .int .i64 fil.l, .int .i64 fil.c, .int .i64 fil.m]] w fun e w' => ∃ g cap, e = .returned (.slice (some ⟨g, 0, none⟩) n cap) ∧ AmpE w.heap.size w' g cap n l ∧ Below w.heap.size w w' := by
  cases la with
  | none =>
    obtain rfl : c = 0 := h.zero rfl
    have := h.rf.le
    obtain rfl : n = 0 := by omega
    exact ampleE_nil 0 rfl l w
  | some ad => exact ampleE_some ad n c l w h.small h.rf.row

/-- nothing but block g has turned -/
structure OnlyE (g : Nat) (w w' : World) : Prop where
  os : w'.os = w.os
  tape : w'.tape = w.tape
  output : w'.output = w.output
  size : w.heap.size ≤ w'.heap.size
  block : ∀ k, k < w.heap.size → k ≠ g → w'.heap[k]? = w.heap[k]?
theorem OnlyE.refl (g : Nat) (w : World) : OnlyE g w w := ⟨rfl, rfl, rfl, Nat.le_refl _, fun _ _ _ => rfl⟩
theorem OnlyE.set {g : Nat} {w w' : World} (h : OnlyE g w w') (j : Nat) (v : Value) : OnlyE g w (w'.setCell ⟨g, j, none⟩ v) :=
  ⟨h.os, h.tape, h.output, by have := h.size; simpa [World.setCell] using this, fun k hl hk => (Below.heap_setCell w' ⟨g, j, none⟩ v k hk).trans (h.block k hl hk)⟩
theorem OnlyE.then {g : Nat} {w w' w2 : World} (h : OnlyE g w w') (hb : Below w'.heap.size w' w2) : OnlyE g w w2 :=
  ⟨hb.os.trans h.os, hb.tape.trans h.tape, hb.output.trans h.output, Nat.le_trans h.size hb.size, fun k hl hk => (hb.block k (Nat.lt_of_lt_of_le hl h.size)).trans (h.block k hl hk)⟩
theorem OnlyE.below {g N : Nat} {w w' : World} (h : OnlyE g w w') (hN : N ≤ g) (hl : N ≤ w.heap.size) : Below N w w' := ⟨h.os, h.tape, h.output, h.size, fun k hk => h.block k (by omega) (by omega)⟩
/-- a block of so many cells, whatever they are -/
def FullE (w : World) (g cap : Nat) : Prop := ∃ xs, w.ownsRow g 33 4 (.slice (some ⟨g, 0, none⟩) cap cap) cap xs
theorem AmpE.full {N : Nat} {w : World} {g cap n : Nat} {l : Nat → En} (h : AmpE N w g cap n l) : FullE w g cap := by
  rcases h.2 with ⟨k, _⟩ | ⟨g', cap', cur, e, _, hg, _, hm, hs, _⟩
  · cases k
  · simp only [Value.slice.injEq, Option.some.injEq, Addr.mk.injEq] at e
    obtain ⟨⟨rfl, _⟩, _, rfl⟩ := e
    exact ⟨cur.toList, by simp [hs], .inr ⟨g, cap, cur, rfl, Nat.le_refl _, hg, Nat.le_refl _, hm, hs, by rw [List.take_of_length_le (by simp [hs])]⟩⟩

set_option maxHeartbeats 4000000 in
theorem spoilE_any (g n cap : Nat) (x : En) (w : World) (hn : n ≤ cap) (hm : cap ≤ 9223372036854775807) (hF : FullE w g cap) :
    Calls Tryd.prog 18 #[.slice (some ⟨g, 0, none⟩) n cap, .agg #[.int .i64 x.f, .int .i64 x.l, .int .i64 x.c, .int .i64 x.m]] w fun e w' => e = .returned (.tuple #[]) ∧ OnlyE g w w' := by
  have hgl : g < w.heap.size := by
    obtain ⟨xs, hx⟩ := hF
    exact (World.ownsRow.lt hx g rfl).2
  have HF : Hid (FullE (w.alloc (.cells #[.int .i64 x.f, .int .i64 x.l, .int .i64 x.c, .int .i64 x.m] 33)) g cap) := by
    obtain ⟨xs, hx⟩ := hF
    exact ⟨xs, World.ownsRow.alloc hx _⟩
  have X0 : Hid (Cells (w.alloc (.cells #[.int .i64 x.f, .int .i64 x.l, .int .i64 x.c, .int .i64 x.m] 33)) w.heap.size [.int .i64 x.f, .int .i64 x.l, .int .i64 x.c, .int .i64 x.m]) := cells_new _ _ _
  have L0 : Hid (OnlyE g w (w.alloc (.cells #[.int .i64 x.f, .int .i64 x.l, .int .i64 x.c, .int .i64 x.m] 33))) := (OnlyE.refl g w).then ((Below.refl _ w).alloc (Nat.le_refl _) _)
  clear hF
  go_enter Tryd.func18, Tryd.ntmps18
  go_wp2_with fail
  generalize w.alloc (.cells #[.int .i64 x.f, .int .i64 x.l, .int .i64 x.c, .int .i64 x.m] 33) = w1 at HF X0 L0 ⊢
  go_loopg [11] (cap + 1) (fun gk s wr => ∃ j : Nat, s = .int .i64 j ∧ cap - j < gk ∧ j ≤ cap ∧ Hid (FullE wr g cap) ∧ Hid (OnlyE g w wr) ∧ Hid (Cells wr w.heap.size [.int .i64 x.f, .int .i64 x.l, .int .i64 x.c, .int .i64 x.m]))
  case atStart => exact ⟨0, rfl, by omega, by omega, HF, L0, X0⟩
  case round =>
    obtain ⟨j, rfl, hgk, hj, hFr, hO, hX⟩ := hrel
    by_cases hlt : j < cap
    · have z1 : (j : Int) < (cap : Int) := by omega
      obtain ⟨xs, hx⟩ := hFr.out
      have c0 := World.ownsRow.cellAt hx (j * 4) (by omega)
      have c1 := World.ownsRow.cellAt hx (j * 4 + 1) (by omega)
      have c2 := World.ownsRow.cellAt hx (j * 4 + 2) (by omega)
      have c3 := World.ownsRow.cellAt hx (j * 4 + 3) (by omega)
      have f0 := World.ownsRow.frozenAt hx (j * 4)
      have f1 := World.ownsRow.frozenAt hx (j * 4 + 1)
      have f2 := World.ownsRow.frozenAt hx (j * 4 + 2)
      have f3 := World.ownsRow.frozenAt hx (j * 4 + 3)
      have hxl := hx.1
      obtain ⟨u0, hu0⟩ : ∃ u, xs[j * 4]? = some u := ⟨_, List.getElem?_eq_getElem (by omega)⟩
      obtain ⟨u1, hu1⟩ : ∃ u, xs[j * 4 + 1]? = some u := ⟨_, List.getElem?_eq_getElem (by omega)⟩
      obtain ⟨u2, hu2⟩ : ∃ u, xs[j * 4 + 2]? = some u := ⟨_, List.getElem?_eq_getElem (by omega)⟩
      obtain ⟨u3, hu3⟩ : ∃ u, xs[j * 4 + 3]? = some u := ⟨_, List.getElem?_eq_getElem (by omega)⟩
      rw [hu0] at c0
      rw [hu1] at c1
      rw [hu2] at c2
      rw [hu3] at c3
      have HX : Hid (wr.ownsRow g 33 4 (.slice (some ⟨g, 0, none⟩) cap cap) cap xs) := hx
      have y0 := hX.out.cell 0 _ rfl
      have y1 := hX.out.cell 1 _ rfl
      have y2 := hX.out.cell 2 _ rfl
      have y3 := hX.out.cell 3 _ rfl
      have ne1 : ¬ w.heap.size = g := by omega
      have ne2 : ¬ g = w.heap.size := by omega
      clear hx hu0 hu1 hu2 hu3 hxl
      go_wp2_with fail
      go_roundg (cap - (j + 1) + 1)
      case measure => omega
      case rel =>
        have s0 := World.ownsRow.stored HX.out (j * 4) (.int .i64 x.f)
        have s1 := World.ownsRow.stored s0.1 (j * 4 + 1) (.int .i64 x.l)
        have s2 := World.ownsRow.stored s1.1 (j * 4 + 2) (.int .i64 x.c)
        have s3 := World.ownsRow.stored s2.1 (j * 4 + 3) (.int .i64 x.m)
        exact ⟨j + 1, by go_num, by omega, by omega, ⟨_, s3.1⟩, (((hO.out.set _ _).set _ _).set _ _).set _ _, (((hX.out.other ne2 _).other ne2 _).other ne2 _).other ne2 _⟩
    · have z1 : ¬ (j : Int) < (cap : Int) := by omega
      go_wp2_with fail
      go_end0
      exact ⟨rfl, hO.out⟩

theorem AmpE.row {N : Nat} {w : World} {g cap n : Nat} {l : Nat → En} (h : AmpE N w g cap n l) : n + 2 ≤ cap ∧ cap ≤ maxLen ∧ N ≤ g ∧ g < w.heap.size ∧ EAt w g (n * 4) fil ∧ EAt w g ((n + 1) * 4) fil ∧ RowE w (some ⟨g, 0, none⟩) n l := by
  obtain ⟨a', c', e, hq⟩ := OwE.nw (l := twoE l n) h
  simp only [Value.slice.injEq] at e
  obtain ⟨rfl, _, rfl⟩ := e
  obtain ⟨g', e2, h1, h2, h3, _⟩ := hq.blk _ rfl
  simp only [Addr.mk.injEq] at e2
  obtain ⟨rfl, _⟩ := e2
  have k0 := h3 n (by omega)
  have k1 := h3 (n + 1) (by omega)
  unfold twoE at k0 k1
  rw [if_neg (by omega)] at k0 k1
  refine ⟨hq.le, hq.max, h1, h2, k0, k1, fun hn => ⟨g, 0, rfl, h2, fun j hj => ?_⟩⟩
  have := h3 j (by omega)
  unfold twoE at this
  rw [if_pos hj] at this
  rw [Nat.zero_add]
  exact this

set_option maxHeartbeats 4000000 in
theorem staysE_any (N g cap n : Nat) (la : Option Addr) (lc : Nat) (l : Nat → En) (w : World) (hz : n * 32 ≤ 140737488351232) (hA : AmpE N w g cap n l) (h : RowE w la n l) :
    Calls Tryd.prog 16 #[.slice (some ⟨g, 0, none⟩) n cap, .slice la n lc, .agg #[.int .i64 fil.f, .int .i64 fil.l, .int .i64 fil.c, .int .i64 fil.m]] w fun e w' => e = .returned (.bool true) ∧ Below w.heap.size w w' := by
  obtain ⟨q1, q2, _, q4, k0, k1, kr⟩ := hA.row
  unfold maxLen at q2
  have HK : Hid (EAt w g (n * 4) fil ∧ EAt w g ((n + 1) * 4) fil ∧ g < w.heap.size) := ⟨k0, k1, q4⟩
  have CE : Hid (∀ W, Below w.heap.size w W → Calls Tryd.prog 14 #[.slice (some ⟨g, 0, none⟩) n cap, .slice la n lc] W fun e w' => e = .returned (.bool true) ∧ Below W.heap.size W w') := fun W hW => by
    have := equalE_any (some ⟨g, 0, none⟩) la n cap lc l l W (by omega) (kr.step hW) (h.step hW)
    rw [eqR_same (fun _ _ => rfl)] at this
    exact this
  have hq : ∀ W : World, (Op.equalIn 10000 33 (.agg #[.int .i64 77, .int .i64 0, .int .i64 0, .int .i64 0]) (.agg #[.int .i64 77, .int .i64 0, .int .i64 0, .int .i64 0])).run Tryd.prog W = .ok true W := fun W => by
    have := run_eqE fil fil W
    rw [eqE_refl] at this
    exact this
  have X0 : Hid (Cells (w.alloc (.cells #[.int .i64 fil.f, .int .i64 fil.l, .int .i64 fil.c, .int .i64 fil.m] 33)) w.heap.size [.int .i64 fil.f, .int .i64 fil.l, .int .i64 fil.c, .int .i64 fil.m]) := cells_new _ _ _
  have L0 : Hid (Below w.heap.size w (w.alloc (.cells #[.int .i64 fil.f, .int .i64 fil.l, .int .i64 fil.c, .int .i64 fil.m] 33))) := (Below.refl _ w).alloc (Nat.le_refl _) _
  clear hA h k0 k1 kr
  have z1 : (n : Int) + 2 ≤ (cap : Int) := by omega
  have z2 : (n : Int) < (n : Int) + 2 := by omega
  have z3 : (n : Int) + 1 < (n : Int) + 2 := by omega
  have z4 : (0 : Int) ≤ (n : Int) := by omega
  have z5 : (n : Int) ≤ 4398046511104 := by omega
  go_enter Tryd.func16, Tryd.ntmps16
  go_wp2_with fail
  obtain ⟨w1, hw1⟩ : ∃ w1, w1 = w.alloc (.cells #[.int .i64 fil.f, .int .i64 fil.l, .int .i64 fil.c, .int .i64 fil.m] 33) := ⟨_, rfl⟩
  rw [← hw1] at X0 L0 ⊢
  clear hw1
  have K1 : Hid (EAt w1 g (n * 4) fil ∧ EAt w1 g ((n + 1) * 4) fil ∧ g < w1.heap.size) := ⟨HK.out.1.step L0.out HK.out.2.2, HK.out.2.1.step L0.out HK.out.2.2, Nat.lt_of_lt_of_le HK.out.2.2 L0.out.size⟩
  have x0 : w1.cell? ⟨w.heap.size, 0, none⟩ = some (.int .i64 77) := X0.out.cell 0 _ rfl
  have x1 : w1.cell? ⟨w.heap.size, 1, none⟩ = some (.int .i64 0) := X0.out.cell 1 _ rfl
  have x2 : w1.cell? ⟨w.heap.size, 2, none⟩ = some (.int .i64 0) := X0.out.cell 2 _ rfl
  have x3 : w1.cell? ⟨w.heap.size, 3, none⟩ = some (.int .i64 0) := X0.out.cell 3 _ rfl
  have a0 : w1.cell? ⟨g, n * 4, none⟩ = some (.int .i64 77) := K1.out.1.f
  have a1 : w1.cell? ⟨g, n * 4 + 1, none⟩ = some (.int .i64 0) := K1.out.1.l
  have a2 : w1.cell? ⟨g, n * 4 + 2, none⟩ = some (.int .i64 0) := K1.out.1.c
  have a3 : w1.cell? ⟨g, n * 4 + 3, none⟩ = some (.int .i64 0) := K1.out.1.m
  have b0 : w1.cell? ⟨g, (n + 1) * 4, none⟩ = some (.int .i64 77) := K1.out.2.1.f
  have b1 : w1.cell? ⟨g, (n + 1) * 4 + 1, none⟩ = some (.int .i64 0) := K1.out.2.1.l
  have b2 : w1.cell? ⟨g, (n + 1) * 4 + 2, none⟩ = some (.int .i64 0) := K1.out.2.1.c
  have b3 : w1.cell? ⟨g, (n + 1) * 4 + 3, none⟩ = some (.int .i64 0) := K1.out.2.1.m
  have zw : IntKind.i64.wrap ((n : Int) + 1) = (n : Int) + 1 := by rw [IntKind.wrap_i64]; omega
  have z6 : (0 : Int) ≤ (n : Int) + 1 := by omega
  go_region_held3 (fun w' => (w'.cell? ⟨w.heap.size, 0, none⟩ = some (.int .i64 77) ∧ w'.cell? ⟨w.heap.size, 1, none⟩ = some (.int .i64 0) ∧ w'.cell? ⟨w.heap.size, 2, none⟩ = some (.int .i64 0) ∧ w'.cell? ⟨w.heap.size, 3, none⟩ = some (.int .i64 0)) ∧ (w'.cell? ⟨g, n * 4, none⟩ = some (.int .i64 77) ∧ w'.cell? ⟨g, n * 4 + 1, none⟩ = some (.int .i64 0) ∧ w'.cell? ⟨g, n * 4 + 2, none⟩ = some (.int .i64 0) ∧ w'.cell? ⟨g, n * 4 + 3, none⟩ = some (.int .i64 0)) ∧ (w'.cell? ⟨g, (n + 1) * 4, none⟩ = some (.int .i64 77) ∧ w'.cell? ⟨g, (n + 1) * 4 + 1, none⟩ = some (.int .i64 0) ∧ w'.cell? ⟨g, (n + 1) * 4 + 2, none⟩ = some (.int .i64 0) ∧ w'.cell? ⟨g, (n + 1) * 4 + 3, none⟩ = some (.int .i64 0))) (go_keep) (first | (go_at_call 14; refine (CE.out _ (by first | exact L0.out | exact L0.out.drew)).mono ?_; rintro e w2 ⟨rfl, hb⟩; have B2 : Hid (Below w1.heap.size w1 w2) := (Below.refl _ w1).drew.trans hb; have KA := K1.out.1.step B2.out K1.out.2.2; have KB := K1.out.2.1.step B2.out K1.out.2.2; have X2 := X0.out.step B2.out; have a0' : w2.cell? ⟨g, n * 4, none⟩ = some (.int .i64 77) := KA.f; have a1' : w2.cell? ⟨g, n * 4 + 1, none⟩ = some (.int .i64 0) := KA.l; have a2' : w2.cell? ⟨g, n * 4 + 2, none⟩ = some (.int .i64 0) := KA.c; have a3' : w2.cell? ⟨g, n * 4 + 3, none⟩ = some (.int .i64 0) := KA.m; have b0' : w2.cell? ⟨g, (n + 1) * 4, none⟩ = some (.int .i64 77) := KB.f; have b1' : w2.cell? ⟨g, (n + 1) * 4 + 1, none⟩ = some (.int .i64 0) := KB.l; have b2' : w2.cell? ⟨g, (n + 1) * 4 + 2, none⟩ = some (.int .i64 0) := KB.c; have b3' : w2.cell? ⟨g, (n + 1) * 4 + 3, none⟩ = some (.int .i64 0) := KB.m; have x0' : w2.cell? ⟨w.heap.size, 0, none⟩ = some (.int .i64 77) := X2.cell 0 _ rfl; have x1' : w2.cell? ⟨w.heap.size, 1, none⟩ = some (.int .i64 0) := X2.cell 1 _ rfl; have x2' : w2.cell? ⟨w.heap.size, 2, none⟩ = some (.int .i64 0) := X2.cell 2 _ rfl; have x3' : w2.cell? ⟨w.heap.size, 3, none⟩ = some (.int .i64 0) := X2.cell 3 _ rfl; clear hb X2 KA KB))
  clear x0 x1 x2 x3 a0 a1 a2 a3 b0 b1 b2 b3 x0' x1' x2' x3' a0' a1' a2' a3' b0' b1' b2' b3' hq
  go_wp2_with fail
  go_ret
  exact ⟨rfl, below_then L0.out B2.out L0.out.size⟩

end Go.Proofs.YtkklinjamcfppaaDoor
