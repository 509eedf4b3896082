/-
  Whatever is handed in, the law CountSoon returns true: what is bad for long enough is Set just when it must be. No condition.
-/
import Derived.Test.YtfdjjhenjkcciaaCountBox
import Derived.Test.YtfdjjhenjkcciaaCountAll
import Derived.Test.YtfdjjhenjkcciaaOpenB
import Derived.ProofKit
import Derived.Deep.OwnRows
namespace Go.Proofs.Ytfdjjhenjkcciaa.countSoon
open Go.ChangeShapes Go.WideShapes Go.ChangeAt Go.RowKit
set_option linter.unusedVariables false

theorem own : ownKnob Try.prog.godebug = none := by kernel_rfl
theorem laidOut : laidOutB Try.prog = true := by kernel_rfl

theorem list3 {l : List Value} (h : l.length = 3) : ∃ c0 c1 c2, l = [c0, c1, c2] := by
  match l, h with
  | [c0, c1, c2], _ => exact ⟨c0, c1, c2, rfl⟩

theorem open23 {H : Type} {enc : TypeId × Value → H} {w : World} {base : Nat} {spare : Nat → Bool} {held : Bool} {fuel : Nat} {cs : List Value} {x : DataW H × List MemPlace} (h : DataW.trod enc Try.prog w base spare held fuel 23 cs = some x) (hz : Light Try.prog 23 x.1) :
    ∃ vUp : Int, ∃ vDown : Int, ∃ vMost : Int, cs = [.int .i64 vUp, .int .i64 vDown, .int .i64 vMost] ∧ (Lit.int .i64 vUp).wf = true ∧ (Lit.int .i64 vDown).wf = true ∧ (Lit.int .i64 vMost).wf = true := by
  obtain ⟨hl, hf⟩ := trod_field_z Try.underlying23 h hz
  rw [show Try.prog.cellsOf 23 = 3 from by kernel_rfl] at hl
  obtain ⟨c0, c1, c2, rfl⟩ := list3 hl
  obtain ⟨n0, y0, h0, z0⟩ := hf 0 _ rfl
  replace h0 : DataW.trod enc Try.prog w base spare held n0 3 (([c0, c1, c2] : List Value).drop 0 |>.take (Try.prog.cellsOf 3)) = some y0 := h0
  rw [show Try.prog.cellsOf 3 = 1 from by kernel_rfl] at h0
  replace h0 : DataW.trod enc Try.prog w base spare held n0 3 [c0] = some y0 := h0
  obtain ⟨n1, y1, h1, z1⟩ := hf 1 _ rfl
  replace h1 : DataW.trod enc Try.prog w base spare held n1 3 (([c0, c1, c2] : List Value).drop 1 |>.take (Try.prog.cellsOf 3)) = some y1 := h1
  rw [show Try.prog.cellsOf 3 = 1 from by kernel_rfl] at h1
  replace h1 : DataW.trod enc Try.prog w base spare held n1 3 [c1] = some y1 := h1
  obtain ⟨n2, y2, h2, z2⟩ := hf 2 _ rfl
  replace h2 : DataW.trod enc Try.prog w base spare held n2 3 (([c0, c1, c2] : List Value).drop 2 |>.take (Try.prog.cellsOf 3)) = some y2 := h2
  rw [show Try.prog.cellsOf 3 = 1 from by kernel_rfl] at h2
  replace h2 : DataW.trod enc Try.prog w base spare held n2 3 [c2] = some y2 := h2
  obtain ⟨x0, e0, _, f0_0⟩ := DataW.trod_int Try.underlying3 h0
  simp only [List.cons.injEq, and_true] at e0
  obtain rfl := e0
  obtain ⟨x1, e1, _, f1_0⟩ := DataW.trod_int Try.underlying3 h1
  simp only [List.cons.injEq, and_true] at e1
  obtain rfl := e1
  obtain ⟨x2, e2, _, f2_0⟩ := DataW.trod_int Try.underlying3 h2
  simp only [List.cons.injEq, and_true] at e2
  obtain rfl := e2
  exact ⟨x0, x1, x2, rfl, f0_0, f1_0, f2_0⟩


def four : Nat → Bool
  | 1 => false
  | _ => true
theorem first_run (w : World) (b : Nat) (hbw : b = w.heap.size) : Calls Try.prog 8 #[.agg #[.int .i64 2, .int .i64 1, .int .i64 4], .agg #[.int .i64 0, .bool false], .slice (some ⟨b, 0, none⟩) 4 4] (w.alloc (.cells #[.bool true, .bool false, .bool true, .bool true] 4)) fun e w' => e = .returned (.tuple #[.agg #[.int .i64 4, .bool true], .int .i64 3, .int .i64 0]) ∧ Below w.heap.size w w' := by
  subst hbw
  refine (run_ok 2 1 4 0 false (some ⟨w.heap.size, 0, none⟩) 4 4 four _ (by decide) (by omega) (fun _ => ⟨w.heap.size, 0, rfl, by simp, fun j hj => by
    match j, hj with
    | 0, _ => go_simp; rfl
    | 1, _ => go_simp; rfl
    | 2, _ => go_simp; rfl
    | 3, _ => go_simp; rfl⟩)).mono ?_
  rintro e w1 ⟨rfl, hb⟩
  exact ⟨rfl, ((Below.refl _ w).alloc (Nat.le_refl _) _).trans (hb.mono (by simp))⟩

/-- the box of what was handed in -/
structure P1 (w : World) (u d m : Int) (W : World) : Prop where
  bel : Below w.heap.size w W
  p : Cells W w.heap.size [.int .i64 u, .int .i64 d, .int .i64 m]
theorem P1.step {w : World} {u d m : Int} {W W' : World} (h : P1 w u d m W) (hb : Below W.heap.size W W') : P1 w u d m W' := ⟨h.bel.trans (hb.mono h.bel.size), h.p.step hb⟩
theorem P1.alloc {w : World} {u d m : Int} {W : World} (h : P1 w u d m W) (x : Obj) : P1 w u d m (W.alloc x) := h.step ((Below.refl _ W).alloc (Nat.le_refl _) _)
theorem p1_new (w : World) (u d m : Int) (t1 : TypeId) : P1 w u d m (w.alloc (.cells #[.int .i64 u, .int .i64 d, .int .i64 m] t1)) :=
  ⟨(Below.refl _ w).alloc (Nat.le_refl _) _, cells_new w #[.int .i64 u, .int .i64 d, .int .i64 m] t1⟩
theorem P1.facts {w : World} {u d m : Int} {W : World} (h : P1 w u d m W) :
    w.heap.size < W.heap.size ∧ W.cell? ⟨w.heap.size, 0, none⟩ = some (.int .i64 u) ∧ W.cell? ⟨w.heap.size, 1, none⟩ = some (.int .i64 d) ∧ W.cell? ⟨w.heap.size, 2, none⟩ = some (.int .i64 m) :=
  ⟨h.p.lt, h.p.cell 0 _ rfl, h.p.cell 1 _ rfl, h.p.cell 2 _ rfl⟩

theorem P1.other {w : World} {u d m : Int} {W : World} (h : P1 w u d m W) {g j : Nat} (hg : w.heap.size < g) (v : Value) : P1 w u d m (W.setCell ⟨g, j, none⟩ v) :=
  ⟨h.bel.setCell (p := ⟨g, j, none⟩) (by simp; omega) v, h.p.other (by omega) v⟩

set_option maxHeartbeats 4000000 in
theorem walk_bad (u d m n : Int) (w : World) (h : ¬ OkC u d m 0) :
    Calls Try.prog 4 #[.agg #[.int .i64 u, .int .i64 d, .int .i64 m], .int .i64 n] w fun e w' => e = .returned (.bool true) ∧ Below w.heap.size w w' := by
  have B0 : Hid (_) := p1_new w u d m 23
  go_enter Try.func4, Try.ntmps4
  go_wp2_with fail
  refine (first_run _ (w.heap.size + 1) (by simp)).mono ?_
  rintro e w1 ⟨rfl, hb⟩
  have B1 : Hid (_) := B0.out.step hb
  clear hb B0
  obtain ⟨lp, p0, p1, p2⟩ := B1.out.facts
  go_wp2_with fail
  refine (check_bad u d m 0 false _ h).mono ?_
  rintro e w2 ⟨rfl, hb⟩
  clear lp p0 p1 p2
  have B2 : Hid (_) := (B1.out.alloc (.cells #[.int .i64 4, .bool true] 25)).step hb
  clear hb B1
  go_wp2_with fail
  go_ret
  exact ⟨rfl, B2.out.bel⟩

set_option maxHeartbeats 4000000 in
theorem walk_out (u d m n : Int) (w : World) (h : OkC u d m 0) (hn : n < 0 ∨ 2000 < n) :
    Calls Try.prog 4 #[.agg #[.int .i64 u, .int .i64 d, .int .i64 m], .int .i64 n] w fun e w' => e = .returned (.bool true) ∧ Below w.heap.size w w' := by
  have B0 : Hid (_) := p1_new w u d m 23
  go_enter Try.func4, Try.ntmps4
  go_wp2_with fail
  refine (first_run _ (w.heap.size + 1) (by simp)).mono ?_
  rintro e w1 ⟨rfl, hb⟩
  have B1 : Hid (_) := B0.out.step hb
  clear hb B0
  obtain ⟨lp, p0, p1, p2⟩ := B1.out.facts
  go_wp2_with fail
  refine (check_ok u d m 0 false _ h).mono ?_
  rintro e w2 ⟨rfl, hb⟩
  clear lp p0 p1 p2
  have B2 : Hid (_) := (B1.out.alloc (.cells #[.int .i64 4, .bool true] 25)).step hb
  clear hb B1
  rcases hn with hn | hn
  · go_wp2_with fail
    go_ret
    exact ⟨rfl, B2.out.bel⟩
  · have hn' : ¬ n < 0 := by omega
    go_wp2_with fail
    go_ret
    exact ⟨rfl, B2.out.bel⟩

theorem info_bool : (Try.prog.info? 4).map (fun i => (i.zero, i.size, i.bytes)) = some (some (.bool false), 1, 1) := by kernel_rfl

set_option maxHeartbeats 8000000 in
set_option maxRecDepth 100000 in
theorem walk_ok (u d m : Int) (k : Nat) (w : World) (h : OkC u d m 0) (hk : k ≤ 2000) :
    Calls Try.prog 4 #[.agg #[.int .i64 u, .int .i64 d, .int .i64 m], .int .i64 k] w fun e w' => e = .returned (.bool true) ∧ Below w.heap.size w w' := by
  have B0 : Hid (_) := p1_new w u d m 23
  have HO : Hid (OkC u d m 0) := h
  clear h
  go_enter Try.func4, Try.ntmps4
  go_wp2_with fail
  refine (first_run _ (w.heap.size + 1) (by simp)).mono ?_
  rintro e w1 ⟨rfl, hb⟩
  have B1 : Hid (_) := B0.out.step hb
  clear hb B0
  obtain ⟨lp, p0, p1, p2⟩ := B1.out.facts
  go_wp2_with fail
  refine (check_ok u d m 0 false _ HO.out).mono ?_
  rintro e w2 ⟨rfl, hb⟩
  clear lp p0 p1 p2
  have B2 : Hid (_) := (B1.out.alloc (.cells #[.int .i64 4, .bool true] 25)).step hb
  clear hb B1
  have hmk := run_make_row' (P := Try.prog) 26 4 (.bool false) 1 Try.underlying26 info_bool rfl .i64 .i64 k (by omega) (by omega)
  have z1 : ¬ (k : Int) < 0 := by omega
  have z2 : ¬ (2000 : Int) < (k : Int) := by omega
  have R2 : Hid (World.rowIs (w2.alloc (.cells (madeCells #[.bool false] k) 4)) w2.heap.size 4 k (fun _ => .bool false)) := World.rowIs_made w2 (.bool false) k 4
  have L2 : Hid (w.heap.size < w2.heap.size) := B2.out.p.lt
  go_wp2_with fail
  clear hmk
  go_loopg [49] (k + 1) (fun g q wr => ∃ j : Nat, q = .int .i64 j ∧ k - j < g ∧ j ≤ k ∧ Hid (P1 w u d m wr) ∧ Hid (wr.rowIs w2.heap.size 4 k (fun i => .bool (decide (i < j)))))
  case atStart => exact ⟨0, rfl, by omega, by omega, B2.out.alloc _, World.rowIs.congr R2.out fun i _ => by simp⟩
  case round =>
    obtain ⟨j, rfl, hg, hj, HP, HR⟩ := hrel
    clear B2 R2
    by_cases hlt : j < k
    · have q1 : (j : Int) < (k : Int) := by omega
      have c0 := HR.out.cell hlt
      have f0 := HR.out.frozen j
      go_wp2_with fail
      go_roundg (k - (j + 1) + 1)
      case measure => omega
      case rel =>
        refine ⟨j + 1, by go_num, by omega, by omega, HP.out.other L2.out _, (HR.out.set j (.bool true)).congr fun i hi => ?_⟩
        by_cases e : i = j
        · rw [if_pos e, decide_eq_true (by omega)]
        · rw [if_neg e]
          congr 2
          simp
          omega
    · have q1 : ¬ (j : Int) < (k : Int) := by omega
      obtain rfl : j = k := by omega
      have RC := run_ok u d m 0 false (some ⟨w2.heap.size, 0, none⟩) j j bads wr HO.out (by omega) (fun _ => ⟨w2.heap.size, 0, rfl, HR.out.lt, fun i hi => by
        have := HR.out.cell hi
        rw [decide_eq_true hi] at this
        rw [Nat.zero_add]
        exact this⟩)
      obtain ⟨h1, h2, h3, h4, h5⟩ := HO.out
      obtain ⟨nd, n1⟩ := need_of h1.1 h3.1
      have e1 := all_N HO.out j
      have e2 := all_S HO.out nd n1 j
      have e3 := all_A HO.out nd n1 j
      have nf := need_iff h1.1 nd j
      rw [e1, e2, e3] at RC
      clear e1 e2 e3 h4 h5
      obtain ⟨q, hq⟩ : ∃ q, (m + u - 1) / u = q := ⟨_, rfl⟩
      rw [hq] at nd n1 nf RC
      obtain ⟨lp, p0, p1, p2⟩ := HP.out.facts
      go_wp2_with fail
      refine RC.mono ?_
      rintro e w3 ⟨rfl, hb⟩
      clear lp p0 p1 p2 RC
      have B3 : Hid (_) := HP.out.step hb
      clear hb HP HR
      obtain ⟨lp, p0, p1, p2⟩ := B3.out.facts
      obtain ⟨u1, u2⟩ := h1
      obtain ⟨m1, m2⟩ := h3
      have a1 : (0 : Int) ≤ (j : Int) * u := Int.mul_nonneg (by omega) (by omega)
      have a2 : (j : Int) * u ≤ 2000 * 1000 := Int.mul_le_mul (by omega) (by omega) (by omega) (by omega)
      have q2 : q ≤ 1000 := by
        have := Int.mul_le_mul_of_nonneg_left u1 (show 0 ≤ q - 1 by omega)
        have := nd.1
        omega
      clear h2 nd
      by_cases hS : q ≤ (j : Int)
      · have mj := nf.2 hS
        clear nf
        rw [if_neg (show ¬ (j : Int) * u < m by omega), decide_eq_true hS, if_pos hS]
        go_wp2_with fail
        all_goals go_ret
        all_goals exact ⟨rfl, (B3.out.alloc _).bel⟩
      · have mj : (j : Int) * u < m := by
          rcases Int.lt_or_le ((j : Int) * u) m with t | t
          · exact t
          · exact absurd (nf.1 t) hS
        clear nf
        have y1 : ((-1 : Int) == q - 1) = false := by
          simp
          omega
        rw [if_pos mj, decide_eq_false hS, if_neg hS]
        go_wp2_with fail
        all_goals go_ret
        refine ⟨?_, (B3.out.alloc _).bel⟩
        show Ending.returned (.bool (!decide (q ≤ (j : Int)))) = _
        rw [decide_eq_false (by omega)]
        rfl

theorem walk (pUp : Int) (pDown : Int) (pMost : Int) (n : Int) (w : World) (h_pUp : (Lit.int .i64 pUp).wf = true) (h_pDown : (Lit.int .i64 pDown).wf = true) (h_pMost : (Lit.int .i64 pMost).wf = true) (h_n : (Lit.int .i64 n).wf = true) :
    Calls Try.prog 4 #[.agg #[.int .i64 pUp, .int .i64 pDown, .int .i64 pMost], .int .i64 n] w fun e w' => e = .returned (.bool true) ∧ Below w.heap.size w w' := by
  by_cases h : OkC pUp pDown pMost 0
  · by_cases hn : 0 ≤ n ∧ n ≤ 2000
    · obtain ⟨k, rfl⟩ := Int.eq_ofNat_of_zero_le hn.1
      exact walk_ok pUp pDown pMost k w h (by omega)
    · exact walk_out pUp pDown pMost n w h (by omega)
  · exact walk_bad pUp pDown pMost n w h

/-! ### THE ROW's STEP -/
set_option maxRecDepth 100000 in
theorem lifted (os : Os) (started : os.Started) (H : Type) (enc : TypeId × Value → H) :
    ReturnsInHanded {} Try.checked os 4 .any (Rows.countSoonSpec.pre6 enc Try.prog Try.f4 Rows.countSoonRow.domain false) (Rows.countSoonSpec.post enc Try.prog Try.f4 false true false false) := by
  refine returnsInHanded_of_change_sized (C := Try.checked) own started (by kernel_rfl) Try.func4
    (ChangeSpec.witness6 (enc := enc) (C := Try.checked) false ⟨#[], #[.agg #[.int .i64 0, .int .i64 0, .int .i64 0], .int .i64 0], []⟩ 8 (by kernel_rfl) (by kernel_rfl) (by kernel_rfl) (by kernel_rfl)) ?_
  intro W base args ds gs before hval0 hW hcnd hsz0 _
  have hval : ∀ (j : Nat) t v, Try.f4.params[j]? = some t → args[j]? = some v → Value.okWide Try.prog W .any base t v := hval0
  have hW' := hW
  obtain ⟨p, q, hA0, hV, rfl, hfz, hnd⟩ := hW
  have hA : DataW.TrodAll enc Try.prog W 0 (fun _ => true) true Try.f4.params.toList args.toList ds p := hA0
  rw [Try.params4] at hA hval
  obtain ⟨v0, vs0, d0, ds0, p0, q0, hargs, rfl, rfl, h0, r0⟩ := trodAll_cons hA
  obtain ⟨v1, vs1, d1, ds1, p1, q1, rfl, rfl, rfl, h1, r1⟩ := trodAll_cons r0
  obtain ⟨rfl, rfl, rfl⟩ := trodAll_nil r1
  obtain rfl : args = #[v0, v1] := by cases args; simp_all
  obtain ⟨rfl, rfl⟩ := trodVars_none hV
  have hz0 : Light Try.prog 23 d0 := light_of hsz0 (j := 0) (by first | rfl | (rw [Try.params4]; rfl)) rfl
  have k0 := h0
  have lt0 : ∀ x ∈ p0, x.block < W.heap.size := by obtain ⟨m, hm⟩ := k0; exact DataW.trod_lt m _ _ _ hm
  obtain ⟨cs0, rfl, _⟩ := okWide_struct Try.underlying23 (hval 0 23 v0 rfl rfl)
  obtain ⟨pUp, pDown, pMost, e0, h_pUp, h_pDown, h_pMost⟩ := (by obtain ⟨fuel, hf⟩ := h0; exact open23 hf hz0 : ∃ pUp : Int, ∃ pDown : Int, ∃ pMost : Int, cs0.toList = [.int .i64 pUp, .int .i64 pDown, .int .i64 pMost] ∧ (Lit.int .i64 pUp).wf = true ∧ (Lit.int .i64 pDown).wf = true ∧ (Lit.int .i64 pMost).wf = true)
  obtain rfl : cs0 = #[.int .i64 pUp, .int .i64 pDown, .int .i64 pMost] := by cases cs0; simp_all
  clear e0
  have hz1 : Light Try.prog 3 d1 := light_of hsz0 (j := 1) (by first | rfl | (rw [Try.params4]; rfl)) rfl
  have k1 := h1
  have lt1 : ∀ x ∈ p1, x.block < W.heap.size := by obtain ⟨m, hm⟩ := k1; exact DataW.trod_lt m _ _ _ hm
  obtain ⟨n, rfl, rfl, rfl, h_n⟩ := open_int Try.underlying3 (hval 1 3 v1 rfl rfl) h1
  clear hA0 hval0
  refine (walk pUp pDown pMost n W h_pUp h_pDown h_pMost h_n).mono fun e W' ⟨he, bel⟩ => ?_
  subst he
  exact ⟨_, rfl, _, _, _, [], _, [], hW', trodAll_mk1 (shut_bool Try.underlying4 _), (trodAll_cons_mk (Below.trod laidOut (by kernel_rfl) (of_decide_eq_true (by kernel_rfl)) k0 bel lt0) (trodAll_cons_mk (Below.trod laidOut (by kernel_rfl) (of_decide_eq_true (by kernel_rfl)) k1 bel lt1) trodAll_mk0)), rfl, bel.frame _, fun h => by cases h⟩

theorem over : Rows.countSoonRow.holds Try.pinned (OpenSpec.ofChange Rows.countSoonSpec) :=
  OpenClaim.holds_of_wide 4 Try.f4 rfl rfl rfl rfl rfl rfl rfl ⟨rfl, rfl, rfl, rfl, rfl⟩ rfl rfl rfl rfl rfl (by kernel_rfl) Try.func4 (by kernel_rfl)
    (of_decide_eq_true (by kernel_rfl)) (by unfold Func.isWrapper; first | (rw [if_pos (by decide +kernel)]; kernel_rfl) | (rw [if_neg (by decide +kernel)]; exact ⟨rfl, rfl⟩))
    (fun os started H enc _ => lifted os started H enc)


end Go.Proofs.Ytfdjjhenjkcciaa.countSoon
namespace Go.Proofs.Ytfdjjhenjkcciaa
/-- THE STATEMENT -/
theorem countSoon_holds : Rows.CountSoonSaid := countSoon.over
#print axioms countSoon_holds
end Go.Proofs.Ytfdjjhenjkcciaa
