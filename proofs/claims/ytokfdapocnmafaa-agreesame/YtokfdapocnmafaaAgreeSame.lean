/-
  Whatever is handed in, the law AgreeSame returns true: whoever of four lies, whatever it says: all others have the same view, with the right number of each that doesn't lie, and the same middle one. No condition.
-/
import Derived.Test.YtokfdapocnmafaaAgrSame
import Derived.Test.YtokfdapocnmafaaAgrMid
import Derived.Test.YtokfdapocnmafaaRest
import Derived.Test.YtokfdapocnmafaaAgrEq
import Derived.Test.YtokfdapocnmafaaOpenZ
import Derived.Laws.StructEq
import Derived.ProofKit
namespace Go.Proofs.Ytokfdapocnmafaa.agreeSame
open Go.ChangeShapes Go.WideShapes Go.ChangeAt Go.RowKit
set_option linter.unusedVariables false

theorem own : ownKnob Try.prog.godebug = none := by kernel_rfl
theorem laidOut : laidOutB Try.prog = true := by kernel_rfl

theorem list4 {l : List Value} (h : l.length = 4) : ∃ c0 c1 c2 c3, l = [c0, c1, c2, c3] := by
  match l, h with
  | [c0, c1, c2, c3], _ => exact ⟨c0, c1, c2, c3, rfl⟩

theorem list16 {l : List Value} (h : l.length = 16) : ∃ c0 c1 c2 c3 c4 c5 c6 c7 c8 c9 c10 c11 c12 c13 c14 c15, l = [c0, c1, c2, c3, c4, c5, c6, c7, c8, c9, c10, c11, c12, c13, c14, c15] := by
  match l, h with
  | [c0, c1, c2, c3, c4, c5, c6, c7, c8, c9, c10, c11, c12, c13, c14, c15], _ => exact ⟨c0, c1, c2, c3, c4, c5, c6, c7, c8, c9, c10, c11, c12, c13, c14, c15, rfl⟩

theorem open22 {H : Type} {enc : TypeId × Value → H} {w : World} {base : Nat} {spare : Nat → Bool} {held : Bool} {fuel : Nat} {cs : List Value} {x : DataW H × List MemPlace} (h : DataW.trod enc Try.prog w base spare held fuel 22 cs = some x) (hz : Light Try.prog 22 x.1) :
    ∃ v0 : Int, ∃ v1 : Int, ∃ v2 : Int, ∃ v3 : Int, cs = [.int .i32 v0, .int .i32 v1, .int .i32 v2, .int .i32 v3] ∧ (Lit.int .i32 v0).wf = true ∧ (Lit.int .i32 v1).wf = true ∧ (Lit.int .i32 v2).wf = true ∧ (Lit.int .i32 v3).wf = true := by
  obtain ⟨hl, hf⟩ := trod_elem_z Try.underlying22 h hz
  rw [show Try.prog.cellsOf 22 = 4 from by kernel_rfl] at hl
  obtain ⟨c0, c1, c2, c3, rfl⟩ := list4 hl
  obtain ⟨n0, y0, h0, z0⟩ := hf 0 (by decide)
  replace h0 : DataW.trod enc Try.prog w base spare held n0 21 (([c0, c1, c2, c3] : List Value).drop (0 * Try.prog.cellsOf 21) |>.take (Try.prog.cellsOf 21)) = some y0 := h0
  rw [show Try.prog.cellsOf 21 = 1 from by kernel_rfl] at h0
  replace h0 : DataW.trod enc Try.prog w base spare held n0 21 [c0] = some y0 := h0
  obtain ⟨n1, y1, h1, z1⟩ := hf 1 (by decide)
  replace h1 : DataW.trod enc Try.prog w base spare held n1 21 (([c0, c1, c2, c3] : List Value).drop (1 * Try.prog.cellsOf 21) |>.take (Try.prog.cellsOf 21)) = some y1 := h1
  rw [show Try.prog.cellsOf 21 = 1 from by kernel_rfl] at h1
  replace h1 : DataW.trod enc Try.prog w base spare held n1 21 [c1] = some y1 := h1
  obtain ⟨n2, y2, h2, z2⟩ := hf 2 (by decide)
  replace h2 : DataW.trod enc Try.prog w base spare held n2 21 (([c0, c1, c2, c3] : List Value).drop (2 * Try.prog.cellsOf 21) |>.take (Try.prog.cellsOf 21)) = some y2 := h2
  rw [show Try.prog.cellsOf 21 = 1 from by kernel_rfl] at h2
  replace h2 : DataW.trod enc Try.prog w base spare held n2 21 [c2] = some y2 := h2
  obtain ⟨n3, y3, h3, z3⟩ := hf 3 (by decide)
  replace h3 : DataW.trod enc Try.prog w base spare held n3 21 (([c0, c1, c2, c3] : List Value).drop (3 * Try.prog.cellsOf 21) |>.take (Try.prog.cellsOf 21)) = some y3 := h3
  rw [show Try.prog.cellsOf 21 = 1 from by kernel_rfl] at h3
  replace h3 : DataW.trod enc Try.prog w base spare held n3 21 [c3] = some y3 := h3
  obtain ⟨x0, e0, _, f0_0⟩ := DataW.trod_int Try.underlying21 h0
  simp only [List.cons.injEq, and_true] at e0
  obtain rfl := e0
  obtain ⟨x1, e1, _, f1_0⟩ := DataW.trod_int Try.underlying21 h1
  simp only [List.cons.injEq, and_true] at e1
  obtain rfl := e1
  obtain ⟨x2, e2, _, f2_0⟩ := DataW.trod_int Try.underlying21 h2
  simp only [List.cons.injEq, and_true] at e2
  obtain rfl := e2
  obtain ⟨x3, e3, _, f3_0⟩ := DataW.trod_int Try.underlying21 h3
  simp only [List.cons.injEq, and_true] at e3
  obtain rfl := e3
  exact ⟨x0, x1, x2, x3, rfl, f0_0, f1_0, f2_0, f3_0⟩

theorem open23 {H : Type} {enc : TypeId × Value → H} {w : World} {base : Nat} {spare : Nat → Bool} {held : Bool} {fuel : Nat} {cs : List Value} {x : DataW H × List MemPlace} (h : DataW.trod enc Try.prog w base spare held fuel 23 cs = some x) (hz : Light Try.prog 23 x.1) :
    ∃ v00 : Int, ∃ v01 : Int, ∃ v02 : Int, ∃ v03 : Int, ∃ v10 : Int, ∃ v11 : Int, ∃ v12 : Int, ∃ v13 : Int, ∃ v20 : Int, ∃ v21 : Int, ∃ v22 : Int, ∃ v23 : Int, ∃ v30 : Int, ∃ v31 : Int, ∃ v32 : Int, ∃ v33 : Int, cs = [.int .i32 v00, .int .i32 v01, .int .i32 v02, .int .i32 v03, .int .i32 v10, .int .i32 v11, .int .i32 v12, .int .i32 v13, .int .i32 v20, .int .i32 v21, .int .i32 v22, .int .i32 v23, .int .i32 v30, .int .i32 v31, .int .i32 v32, .int .i32 v33] ∧ (Lit.int .i32 v00).wf = true ∧ (Lit.int .i32 v01).wf = true ∧ (Lit.int .i32 v02).wf = true ∧ (Lit.int .i32 v03).wf = true ∧ (Lit.int .i32 v10).wf = true ∧ (Lit.int .i32 v11).wf = true ∧ (Lit.int .i32 v12).wf = true ∧ (Lit.int .i32 v13).wf = true ∧ (Lit.int .i32 v20).wf = true ∧ (Lit.int .i32 v21).wf = true ∧ (Lit.int .i32 v22).wf = true ∧ (Lit.int .i32 v23).wf = true ∧ (Lit.int .i32 v30).wf = true ∧ (Lit.int .i32 v31).wf = true ∧ (Lit.int .i32 v32).wf = true ∧ (Lit.int .i32 v33).wf = true := by
  obtain ⟨hl, hf⟩ := trod_elem_z Try.underlying23 h hz
  rw [show Try.prog.cellsOf 23 = 16 from by kernel_rfl] at hl
  obtain ⟨c0, c1, c2, c3, c4, c5, c6, c7, c8, c9, c10, c11, c12, c13, c14, c15, rfl⟩ := list16 hl
  obtain ⟨n0, y0, h0, z0⟩ := hf 0 (by decide)
  replace h0 : DataW.trod enc Try.prog w base spare held n0 22 (([c0, c1, c2, c3, c4, c5, c6, c7, c8, c9, c10, c11, c12, c13, c14, c15] : List Value).drop (0 * Try.prog.cellsOf 22) |>.take (Try.prog.cellsOf 22)) = some y0 := h0
  rw [show Try.prog.cellsOf 22 = 4 from by kernel_rfl] at h0
  replace h0 : DataW.trod enc Try.prog w base spare held n0 22 [c0, c1, c2, c3] = some y0 := h0
  obtain ⟨n1, y1, h1, z1⟩ := hf 1 (by decide)
  replace h1 : DataW.trod enc Try.prog w base spare held n1 22 (([c0, c1, c2, c3, c4, c5, c6, c7, c8, c9, c10, c11, c12, c13, c14, c15] : List Value).drop (1 * Try.prog.cellsOf 22) |>.take (Try.prog.cellsOf 22)) = some y1 := h1
  rw [show Try.prog.cellsOf 22 = 4 from by kernel_rfl] at h1
  replace h1 : DataW.trod enc Try.prog w base spare held n1 22 [c4, c5, c6, c7] = some y1 := h1
  obtain ⟨n2, y2, h2, z2⟩ := hf 2 (by decide)
  replace h2 : DataW.trod enc Try.prog w base spare held n2 22 (([c0, c1, c2, c3, c4, c5, c6, c7, c8, c9, c10, c11, c12, c13, c14, c15] : List Value).drop (2 * Try.prog.cellsOf 22) |>.take (Try.prog.cellsOf 22)) = some y2 := h2
  rw [show Try.prog.cellsOf 22 = 4 from by kernel_rfl] at h2
  replace h2 : DataW.trod enc Try.prog w base spare held n2 22 [c8, c9, c10, c11] = some y2 := h2
  obtain ⟨n3, y3, h3, z3⟩ := hf 3 (by decide)
  replace h3 : DataW.trod enc Try.prog w base spare held n3 22 (([c0, c1, c2, c3, c4, c5, c6, c7, c8, c9, c10, c11, c12, c13, c14, c15] : List Value).drop (3 * Try.prog.cellsOf 22) |>.take (Try.prog.cellsOf 22)) = some y3 := h3
  rw [show Try.prog.cellsOf 22 = 4 from by kernel_rfl] at h3
  replace h3 : DataW.trod enc Try.prog w base spare held n3 22 [c12, c13, c14, c15] = some y3 := h3
  obtain ⟨x00, x01, x02, x03, e0, f0_0, f0_1, f0_2, f0_3⟩ := open22 h0 z0
  simp only [List.cons.injEq, and_true] at e0
  obtain ⟨rfl, rfl, rfl, rfl⟩ := e0
  obtain ⟨x10, x11, x12, x13, e1, f1_0, f1_1, f1_2, f1_3⟩ := open22 h1 z1
  simp only [List.cons.injEq, and_true] at e1
  obtain ⟨rfl, rfl, rfl, rfl⟩ := e1
  obtain ⟨x20, x21, x22, x23, e2, f2_0, f2_1, f2_2, f2_3⟩ := open22 h2 z2
  simp only [List.cons.injEq, and_true] at e2
  obtain ⟨rfl, rfl, rfl, rfl⟩ := e2
  obtain ⟨x30, x31, x32, x33, e3, f3_0, f3_1, f3_2, f3_3⟩ := open22 h3 z3
  simp only [List.cons.injEq, and_true] at e3
  obtain ⟨rfl, rfl, rfl, rfl⟩ := e3
  exact ⟨x00, x01, x02, x03, x10, x11, x12, x13, x20, x21, x22, x23, x30, x31, x32, x33, rfl, f0_0, f0_1, f0_2, f0_3, f1_0, f1_1, f1_2, f1_3, f2_0, f2_1, f2_2, f2_3, f3_0, f3_1, f3_2, f3_3⟩


set_option maxHeartbeats 4000000 in
set_option maxRecDepth 100000 in
theorem main (v s D : Nat → Int) (n : Int) (w : World) : Calls Try.prog 4 #[.agg #[.int .i32 (v 0), .int .i32 (v 1), .int .i32 (v 2), .int .i32 (v 3)], .int .i64 n, .agg #[.int .i32 (s 0), .int .i32 (s 1), .int .i32 (s 2), .int .i32 (s 3)], .agg (t16 D)] w fun e w' => e = .returned (.bool true) ∧ Below w.heap.size w w' := by
  have A0 : Hid (Ax w v s D (((w.alloc (.cells #[.int .i32 (v 0), .int .i32 (v 1), .int .i32 (v 2), .int .i32 (v 3)] 22)).alloc (.cells #[.int .i32 (s 0), .int .i32 (s 1), .int .i32 (s 2), .int .i32 (s 3)] 22)).alloc (.cells (t16 D) 23))) := ax_new w v s D _ _ _
  have K0 := gG_tk (r4 1 2 3 4) s D (-1)
  obtain ⟨G0, hG0⟩ : ∃ G0, G0 = gG (r4 1 2 3 4) s D (-1) := ⟨_, rfl⟩
  rw [← hG0] at K0
  have HK0 : Hid (Tk (r4 1 2 3 4) s D (-1) G0) := K0
  have hz := zero_talk
  clear hG0 K0
  go_enter Try.func4, Try.ntmps4
  go_wp2_with (refine wpList_load_16 rfl _ rfl _ rfl D (by exact A0.out.bd) ?_)
  refine (talk_any (r4 1 2 3 4) s D G0 (-1) HK0.out _).mono ?_
  rintro e w1 ⟨rfl, hb⟩
  have A1 : Hid (Ax w v s D w1) := A0.out.step hb
  clear hb A0
  go_wp2_with fail
  refine (view_any G0 2 (by omega) _).mono ?_
  have o0 : vw G0 2 0 = 1 := tk_right HK0.out (by omega) (by omega) (by omega)
  have o1 : vw G0 2 1 = 2 := tk_right HK0.out (by omega) (by omega) (by omega)
  have o2 : vw G0 2 2 = 3 := tk_right HK0.out (by omega) (by omega) (by omega)
  have o3 : vw G0 2 3 = 4 := tk_right HK0.out (by omega) (by omega) (by omega)
  rw [o0, o1, o2, o3]
  clear o0 o1 o2 o3
  rintro e w2 ⟨rfl, hb⟩
  have A4 : Hid (Ax w v s D w2) := A1.out.step hb
  clear hb HK0 A1
  have hq := eq4i 1 2 3 4
  go_wp2_with fail
  refine (rrest_any n 5 (by omega) (by omega) _).mono ?_
  rintro e w3 ⟨rfl, hw3⟩
  have A5 : Hid (Ax w v s D w3) := by rw [hw3]; exact A4.out.alloc _
  clear hw3 A4 hq
  have n1 := Int.emod_nonneg n (show (5 : Int) ≠ 0 by omega)
  have n2 := Int.emod_lt_of_pos n (show (0 : Int) < 5 by omega)
  generalize n % 5 = r at *
  have K1 := gG_tk v s D (r - 1)
  obtain ⟨G, hG⟩ : ∃ G, G = gG v s D (r - 1) := ⟨_, rfl⟩
  rw [← hG] at K1
  have HK : Hid (Tk v s D (r - 1) G) := K1
  clear hG K1
  have v0 := A5.out.bv.cell 0 (by omega)
  have v1 := A5.out.bv.cell 1 (by omega)
  have v2 := A5.out.bv.cell 2 (by omega)
  have v3 := A5.out.bv.cell 3 (by omega)
  have s0 := A5.out.bs.cell 0 (by omega)
  have s1 := A5.out.bs.cell 1 (by omega)
  have s2 := A5.out.bs.cell 2 (by omega)
  have s3 := A5.out.bs.cell 3 (by omega)
  go_wp2_with (refine wpList_load_16 rfl _ rfl _ rfl D (by exact A5.out.bd) ?_)
  refine (talk_any v s D G (r - 1) HK.out _).mono ?_
  rintro e w4 ⟨rfl, hb⟩
  have A6 : Hid (Ax w v s D w4) := A5.out.step hb
  clear hb A5 v0 v1 v2 v3 s0 s1 s2 s3
  have P1 : Hid (TB (w4.alloc (.cells (tk fun _ => 0) 26)) w4.heap.size (fun _ => 0)) := tb_new w4 _ _
  obtain ⟨W4, hW⟩ : ∃ W4, W4 = (w4.alloc (.cells (tk fun _ => 0) 26)).setCells w4.heap.size 0 (tk G).toList := ⟨_, rfl⟩
  have T1 : TB W4 w4.heap.size G := by rw [hW]; exact Blk.setAll P1.out G
  have A7 : Ax w v s D W4 := by rw [hW]; exact (A6.out.alloc _).setAll A6.out.sz _
  have S1 : Hid (Sx w w4.heap.size v G W4) := ⟨T1, A7.bv, A7.bel⟩
  go_upto_region 6 with (refine wpList_store_talk rfl _ _ rfl _ rfl G rfl _ (by exact P1.out) ?_)
  rw [← hW]
  clear hW P1 hz A6 A7 T1
  generalize w4.heap.size = bt at *
  go_wp2_with fail
  go_loopg [13, 47] 5 (fun g f u wr => ∃ k : Nat, u = .int .i64 k ∧ 4 - k < g ∧ k ≤ 4 ∧ Hid (Sx w bt v G wr) ∧ (f = .int .i64 (-1) ∨ ∃ q : Nat, f = .int .i64 q ∧ q < 4 ∧ Hid ((q : Int) ≠ r - 1)))
  case atStart => exact ⟨0, rfl, by omega, by omega, S1, Or.inl rfl⟩
  case round =>
    clear S1
    obtain ⟨k, rfl, hg, hk, HS, hf⟩ := hrel
    have HF : Hid (u13 = .int .i64 (-1) ∨ ∃ q : Nat, u13 = .int .i64 q ∧ q < 4 ∧ Hid ((q : Int) ≠ r - 1)) := hf
    clear hf
    by_cases hlt : k < 4
    · have y1 : (k : Int) < 4 := by omega
      by_cases e1 : (k : Int) = r - 1
      · have q1 : ((k : Int) == r - 1) = true := by simpa using e1
        clear e1
        go_wp2_with fail
        go_roundg (4 - (k + 1) + 1)
        case measure => omega
        case rel => exact ⟨k + 1, by go_num, by omega, by omega, HS, HF.out⟩
      · have q1 : ((k : Int) == r - 1) = false := by simpa using e1
        have e1' : Hid ((k : Int) ≠ r - 1) := e1
        clear e1
        go_wp2_with (refine wpList_load_talk rfl _ rfl _ rfl G (by exact HS.out.tb) ?_)
        refine (view_any G k hlt _).mono ?_
        rintro e w5 ⟨rfl, hb⟩
        have HS5 : Hid (Sx w bt v G w5) := HS.out.step hb
        clear HS hb
        obtain ⟨W5, hW⟩ : ∃ W5, W5 = w5.alloc (.cells #[.int .i32 (vw G k 0), .int .i32 (vw G k 1), .int .i32 (vw G k 2), .int .i32 (vw G k 3)] 22) := ⟨_, rfl⟩
        have HS6 : Hid (Sx w bt v G W5) := by rw [hW]; exact HS5.out.alloc _
        have HX : Hid (Blk W5 w5.heap.size 4 (fun i => .int .i32 (vw G k i))) := by rw [hW]; exact blk_new w5 _ _ _ _ fun j hj => by obtain rfl | rfl | rfl | rfl := four hj <;> rfl
        go_upto_region 12 with (fail)
        rw [← hW]
        clear hW HS5
        generalize w5.heap.size = bo at *
        go_wp2_with fail
        go_loopg [61] 5 (fun g u wr2 => ∃ i d : Nat, u = .int .i64 i ∧ 4 - i < g ∧ i ≤ 4 ∧ wr2 = W5.drewN d)
        case atStart => exact ⟨0, 0, rfl, by omega, by omega, rfl⟩
        case round =>
          obtain ⟨i, d, rfl, hg2, hi, rfl⟩ := hrel
          by_cases hlt2 : i < 4
          · have y2 : (i : Int) < 4 := by omega
            have c0 := HX.out.cell i hlt2
            have c1 := HS6.out.bv.cell i hlt2
            by_cases e2 : (i : Int) = r - 1
            · have q2 : ((i : Int) != r - 1) = false := by simpa using e2
              clear e2
              go_wp2_with fail
              go_quiet (fail)
              go_wp2_with fail
              go_roundg (4 - (i + 1) + 1)
              case measure => omega
              case rel => exact ⟨i + 1, _, by go_num, by omega, by omega, rfl⟩
            · have q2 : ((i : Int) != r - 1) = true := by simpa using e2
              have eo : vw G k i = v i := tk_right HK.out hlt2 hlt e2
              simp only [eo] at c0
              clear e2 eo
              go_wp2_with fail
              go_quiet (fail)
              go_wp2_with fail
              go_roundg (4 - (i + 1) + 1)
              case measure => omega
              case rel => exact ⟨i + 1, _, by go_num, by omega, by omega, rfl⟩
          · have y2 : ¬ (i : Int) < 4 := by omega
            obtain rfl : i = 4 := by omega
            have HSd : Hid (Sx w bt v G (W5.drewN d)) := HS6.out.drewN d
            have HXd : Hid (Blk (W5.drewN d) bo 4 (fun i => .int .i32 (vw G k i))) := HX.out.drewN d
            clear HS6 HX
            rcases HF.out with e | ⟨q, e, hq4, Hq⟩
            · subst e
              clear HF
              have E : ∀ i, i < 4 → vw G k i = vw G k i := fun i hi => tk_same HK.out hi hlt hlt e1'.out e1'.out
              have C := fun w => view_any G k hlt w
              rw [E 0 (by omega), E 1 (by omega), E 2 (by omega), E 3 (by omega)] at C
              have HC : Hid (∀ w : World, Calls Try.prog 6 #[.agg (tk G), .int .i64 k] w fun e w' => e = .returned (.tuple #[.agg #[.int .i32 (vw G k 0), .int .i32 (vw G k 1), .int .i32 (vw G k 2), .int .i32 (vw G k 3)], .int .i64 0]) ∧ Below w.heap.size w w') := C
              obtain ⟨m, hm⟩ := mid_there (vw G k) 4 (by omega)
              have M1 : Hid (IsMid (vw G k) 4 m) := hm
              have M2 : Hid (IsMid (vw G k) 4 m) := hm.as fun i hi => (E i hi).symm
              have hq := eq4i (vw G k 0) (vw G k 1) (vw G k 2) (vw G k 3)
              clear C E hm
              go_wp2_with (refine wpList_load_talk rfl _ rfl _ rfl G (by exact HSd.out.tb) ?_)
              refine (HC.out _).mono ?_
              rintro e w6 ⟨rfl, hb⟩
              have HS6 : Hid (Sx w bt v G w6) := HSd.out.step hb
              have HX6 : Hid (Blk w6 bo 4 (fun i => .int .i32 (vw G k i))) := HXd.out.step hb
              have HS7 : Hid (Sx w bt v G (w6.alloc (.cells #[.int .i32 (vw G k 0), .int .i32 (vw G k 1), .int .i32 (vw G k 2), .int .i32 (vw G k 3)] 22))) := HS6.out.alloc _
              clear hb
              obtain ⟨W7, hW7⟩ : ∃ W7, W7 = w6.alloc (.cells #[.int .i32 (vw G k 0), .int .i32 (vw G k 1), .int .i32 (vw G k 2), .int .i32 (vw G k 3)] 22) := ⟨_, rfl⟩
              have HX7 : Hid (Blk W7 bo 4 (fun i => .int .i32 (vw G k i))) := by rw [hW7]; exact HX6.out.alloc _
              have HY7 : Hid (Blk W7 w6.heap.size 4 (fun i => .int .i32 (vw G k i))) := by rw [hW7]; exact blk_new w6 _ _ _ _ fun j hj => by obtain rfl | rfl | rfl | rfl := four hj <;> rfl
              rw [← hW7] at HS7
              go_upto_region 23 with (fail)
              rw [← hW7]
              clear hW7 HX6 HS6
              generalize w6.heap.size = by2 at *
              go_wp2_with (refine wpList_load_talk rfl _ rfl _ rfl G (by exact HS7.out.tb) ?_)
              refine (amid_any G k hlt m M1.out _).mono ?_
              rintro e w8 ⟨rfl, hb⟩
              have HS8 : Hid (Sx w bt v G w8) := HS7.out.step hb
              have HX8 : Hid (Blk w8 bo 4 (fun i => .int .i32 (vw G k i))) := HX7.out.step hb
              have HY8 : Hid (Blk w8 by2 4 (fun i => .int .i32 (vw G k i))) := HY7.out.step hb
              clear hb HS7 HX7 HY7
              go_wp2_with (refine wpList_load_talk rfl _ rfl _ rfl G (by exact HS8.out.tb) ?_)
              refine (amid_any G k hlt m M2.out _).mono ?_
              rintro e w9 ⟨rfl, hb⟩
              have HS9 : Hid (Sx w bt v G w9) := HS8.out.step hb
              have x0 := (HX8.out.step hb).cell 0 (by omega)
              have x1 := (HX8.out.step hb).cell 1 (by omega)
              have x2 := (HX8.out.step hb).cell 2 (by omega)
              have x3 := (HX8.out.step hb).cell 3 (by omega)
              have p0 := (HY8.out.step hb).cell 0 (by omega)
              have p1 := (HY8.out.step hb).cell 1 (by omega)
              have p2 := (HY8.out.step hb).cell 2 (by omega)
              have p3 := (HY8.out.step hb).cell 3 (by omega)
              clear hb HS8 HX8 HY8
              go_wp2_with fail
              go_roundg (4 - (k + 1) + 1)
              case measure => omega
              case rel => exact ⟨k + 1, by go_num, by omega, by omega, HS9, Or.inr ⟨k, rfl, hlt, e1'⟩⟩
            · subst e
              clear HF
              have E : ∀ i, i < 4 → vw G q i = vw G k i := fun i hi => tk_same HK.out hi hq4 hlt Hq.out e1'.out
              have C := fun w => view_any G q hq4 w
              rw [E 0 (by omega), E 1 (by omega), E 2 (by omega), E 3 (by omega)] at C
              have HC : Hid (∀ w : World, Calls Try.prog 6 #[.agg (tk G), .int .i64 q] w fun e w' => e = .returned (.tuple #[.agg #[.int .i32 (vw G k 0), .int .i32 (vw G k 1), .int .i32 (vw G k 2), .int .i32 (vw G k 3)], .int .i64 0]) ∧ Below w.heap.size w w') := C
              obtain ⟨m, hm⟩ := mid_there (vw G k) 4 (by omega)
              have M1 : Hid (IsMid (vw G k) 4 m) := hm
              have M2 : Hid (IsMid (vw G q) 4 m) := hm.as fun i hi => (E i hi).symm
              have hq := eq4i (vw G k 0) (vw G k 1) (vw G k 2) (vw G k 3)
              clear C E hm
              go_wp2_with (refine wpList_load_talk rfl _ rfl _ rfl G (by exact HSd.out.tb) ?_)
              refine (HC.out _).mono ?_
              rintro e w6 ⟨rfl, hb⟩
              have HS6 : Hid (Sx w bt v G w6) := HSd.out.step hb
              have HX6 : Hid (Blk w6 bo 4 (fun i => .int .i32 (vw G k i))) := HXd.out.step hb
              have HS7 : Hid (Sx w bt v G (w6.alloc (.cells #[.int .i32 (vw G k 0), .int .i32 (vw G k 1), .int .i32 (vw G k 2), .int .i32 (vw G k 3)] 22))) := HS6.out.alloc _
              clear hb
              obtain ⟨W7, hW7⟩ : ∃ W7, W7 = w6.alloc (.cells #[.int .i32 (vw G k 0), .int .i32 (vw G k 1), .int .i32 (vw G k 2), .int .i32 (vw G k 3)] 22) := ⟨_, rfl⟩
              have HX7 : Hid (Blk W7 bo 4 (fun i => .int .i32 (vw G k i))) := by rw [hW7]; exact HX6.out.alloc _
              have HY7 : Hid (Blk W7 w6.heap.size 4 (fun i => .int .i32 (vw G k i))) := by rw [hW7]; exact blk_new w6 _ _ _ _ fun j hj => by obtain rfl | rfl | rfl | rfl := four hj <;> rfl
              rw [← hW7] at HS7
              go_upto_region 23 with (fail)
              rw [← hW7]
              clear hW7 HX6 HS6
              generalize w6.heap.size = by2 at *
              go_wp2_with (refine wpList_load_talk rfl _ rfl _ rfl G (by exact HS7.out.tb) ?_)
              refine (amid_any G k hlt m M1.out _).mono ?_
              rintro e w8 ⟨rfl, hb⟩
              have HS8 : Hid (Sx w bt v G w8) := HS7.out.step hb
              have HX8 : Hid (Blk w8 bo 4 (fun i => .int .i32 (vw G k i))) := HX7.out.step hb
              have HY8 : Hid (Blk w8 by2 4 (fun i => .int .i32 (vw G k i))) := HY7.out.step hb
              clear hb HS7 HX7 HY7
              go_wp2_with (refine wpList_load_talk rfl _ rfl _ rfl G (by exact HS8.out.tb) ?_)
              refine (amid_any G q hq4 m M2.out _).mono ?_
              rintro e w9 ⟨rfl, hb⟩
              have HS9 : Hid (Sx w bt v G w9) := HS8.out.step hb
              have x0 := (HX8.out.step hb).cell 0 (by omega)
              have x1 := (HX8.out.step hb).cell 1 (by omega)
              have x2 := (HX8.out.step hb).cell 2 (by omega)
              have x3 := (HX8.out.step hb).cell 3 (by omega)
              have p0 := (HY8.out.step hb).cell 0 (by omega)
              have p1 := (HY8.out.step hb).cell 1 (by omega)
              have p2 := (HY8.out.step hb).cell 2 (by omega)
              have p3 := (HY8.out.step hb).cell 3 (by omega)
              clear hb HS8 HX8 HY8
              go_wp2_with fail
              go_roundg (4 - (k + 1) + 1)
              case measure => omega
              case rel => exact ⟨k + 1, by go_num, by omega, by omega, HS9, Or.inr ⟨q, rfl, hq4, Hq⟩⟩
    · have y1 : ¬ (k : Int) < 4 := by omega
      obtain rfl : k = 4 := by omega
      go_wp2_with fail
      go_ret
      exact ⟨rfl, HS.out.bel⟩

theorem walk (v0 : Int) (v1 : Int) (v2 : Int) (v3 : Int) (n : Int) (said0 : Int) (said1 : Int) (said2 : Int) (said3 : Int) (told00 : Int) (told01 : Int) (told02 : Int) (told03 : Int) (told10 : Int) (told11 : Int) (told12 : Int) (told13 : Int) (told20 : Int) (told21 : Int) (told22 : Int) (told23 : Int) (told30 : Int) (told31 : Int) (told32 : Int) (told33 : Int) (w : World) (h_v0 : (Lit.int .i32 v0).wf = true) (h_v1 : (Lit.int .i32 v1).wf = true) (h_v2 : (Lit.int .i32 v2).wf = true) (h_v3 : (Lit.int .i32 v3).wf = true) (h_n : (Lit.int .i64 n).wf = true) (h_said0 : (Lit.int .i32 said0).wf = true) (h_said1 : (Lit.int .i32 said1).wf = true) (h_said2 : (Lit.int .i32 said2).wf = true) (h_said3 : (Lit.int .i32 said3).wf = true) (h_told00 : (Lit.int .i32 told00).wf = true) (h_told01 : (Lit.int .i32 told01).wf = true) (h_told02 : (Lit.int .i32 told02).wf = true) (h_told03 : (Lit.int .i32 told03).wf = true) (h_told10 : (Lit.int .i32 told10).wf = true) (h_told11 : (Lit.int .i32 told11).wf = true) (h_told12 : (Lit.int .i32 told12).wf = true) (h_told13 : (Lit.int .i32 told13).wf = true) (h_told20 : (Lit.int .i32 told20).wf = true) (h_told21 : (Lit.int .i32 told21).wf = true) (h_told22 : (Lit.int .i32 told22).wf = true) (h_told23 : (Lit.int .i32 told23).wf = true) (h_told30 : (Lit.int .i32 told30).wf = true) (h_told31 : (Lit.int .i32 told31).wf = true) (h_told32 : (Lit.int .i32 told32).wf = true) (h_told33 : (Lit.int .i32 told33).wf = true) :
    Calls Try.prog 4 #[.agg #[.int .i32 v0, .int .i32 v1, .int .i32 v2, .int .i32 v3], .int .i64 n, .agg #[.int .i32 said0, .int .i32 said1, .int .i32 said2, .int .i32 said3], .agg #[.int .i32 told00, .int .i32 told01, .int .i32 told02, .int .i32 told03, .int .i32 told10, .int .i32 told11, .int .i32 told12, .int .i32 told13, .int .i32 told20, .int .i32 told21, .int .i32 told22, .int .i32 told23, .int .i32 told30, .int .i32 told31, .int .i32 told32, .int .i32 told33]] w fun e w' => e = .returned (.bool true) ∧ Below w.heap.size w w' :=
  main (r4 v0 v1 v2 v3) (r4 said0 said1 said2 said3) (fun j => [told00, told01, told02, told03, told10, told11, told12, told13, told20, told21, told22, told23, told30, told31, told32, told33].getD j 0) n w

/-! ### THE ROW's STEP -/
set_option maxRecDepth 100000 in
theorem lifted (os : Os) (started : os.Started) (H : Type) (enc : TypeId × Value → H) :
    ReturnsInHanded {} Try.checked os 4 .any (Rows.agreeSameSpec.pre6 enc Try.prog Try.f4 Rows.agreeSameRow.domain false) (Rows.agreeSameSpec.post enc Try.prog Try.f4 false true false false) := by
  refine returnsInHanded_of_change_sized (C := Try.checked) own started (by kernel_rfl) Try.func4
    (ChangeSpec.witness6 (enc := enc) (C := Try.checked) false ⟨#[], #[.agg #[.int .i32 0, .int .i32 0, .int .i32 0, .int .i32 0], .int .i64 0, .agg #[.int .i32 0, .int .i32 0, .int .i32 0, .int .i32 0], .agg #[.int .i32 0, .int .i32 0, .int .i32 0, .int .i32 0, .int .i32 0, .int .i32 0, .int .i32 0, .int .i32 0, .int .i32 0, .int .i32 0, .int .i32 0, .int .i32 0, .int .i32 0, .int .i32 0, .int .i32 0, .int .i32 0]], []⟩ 8 (by kernel_rfl) (by kernel_rfl) (by kernel_rfl) (by kernel_rfl)) ?_
  intro W base args ds gs before hval0 hW hcnd hsz0 _
  have hval : ∀ (j : Nat) t v, Try.f4.params[j]? = some t → args[j]? = some v → Value.okWide Try.prog W .any base t v := hval0
  have hW' := hW
  obtain ⟨p, q, hA0, hV, rfl, hfz, hnd⟩ := hW
  have hA : DataW.TrodAll enc Try.prog W 0 (fun _ => true) true Try.f4.params.toList args.toList ds p := hA0
  rw [Try.params4] at hA hval
  obtain ⟨v_0, vs_0, d_0, ds_0, p_0, q_0, hargs, rfl, rfl, h_0, r_0⟩ := trodAll_cons hA
  obtain ⟨v_1, vs_1, d_1, ds_1, p_1, q_1, rfl, rfl, rfl, h_1, r_1⟩ := trodAll_cons r_0
  obtain ⟨v_2, vs_2, d_2, ds_2, p_2, q_2, rfl, rfl, rfl, h_2, r_2⟩ := trodAll_cons r_1
  obtain ⟨v_3, vs_3, d_3, ds_3, p_3, q_3, rfl, rfl, rfl, h_3, r_3⟩ := trodAll_cons r_2
  obtain ⟨rfl, rfl, rfl⟩ := trodAll_nil r_3
  obtain rfl : args = #[v_0, v_1, v_2, v_3] := by cases args; simp_all
  obtain ⟨rfl, rfl⟩ := trodVars_none hV
  have hz_0 : Light Try.prog 22 d_0 := light_of hsz0 (j := 0) (by first | rfl | (rw [Try.params4]; rfl)) rfl
  have k_0 := h_0
  have lt_0 : ∀ x ∈ p_0, x.block < W.heap.size := by obtain ⟨m, hm⟩ := k_0; exact DataW.trod_lt m _ _ _ hm
  obtain ⟨cs_0, rfl, _⟩ := okWide_array Try.underlying22 (hval 0 22 v_0 rfl rfl)
  obtain ⟨v0, v1, v2, v3, e_0, h_v0, h_v1, h_v2, h_v3⟩ := (by obtain ⟨fuel, hf⟩ := h_0; exact open22 hf hz_0 : ∃ v0 : Int, ∃ v1 : Int, ∃ v2 : Int, ∃ v3 : Int, cs_0.toList = [.int .i32 v0, .int .i32 v1, .int .i32 v2, .int .i32 v3] ∧ (Lit.int .i32 v0).wf = true ∧ (Lit.int .i32 v1).wf = true ∧ (Lit.int .i32 v2).wf = true ∧ (Lit.int .i32 v3).wf = true)
  obtain rfl : cs_0 = #[.int .i32 v0, .int .i32 v1, .int .i32 v2, .int .i32 v3] := by cases cs_0; simp_all
  clear e_0
  have hz_1 : Light Try.prog 3 d_1 := light_of hsz0 (j := 1) (by first | rfl | (rw [Try.params4]; rfl)) rfl
  have k_1 := h_1
  have lt_1 : ∀ x ∈ p_1, x.block < W.heap.size := by obtain ⟨m, hm⟩ := k_1; exact DataW.trod_lt m _ _ _ hm
  obtain ⟨n, rfl, rfl, rfl, h_n⟩ := open_int Try.underlying3 (hval 1 3 v_1 rfl rfl) h_1
  have hz_2 : Light Try.prog 22 d_2 := light_of hsz0 (j := 2) (by first | rfl | (rw [Try.params4]; rfl)) rfl
  have k_2 := h_2
  have lt_2 : ∀ x ∈ p_2, x.block < W.heap.size := by obtain ⟨m, hm⟩ := k_2; exact DataW.trod_lt m _ _ _ hm
  obtain ⟨cs_2, rfl, _⟩ := okWide_array Try.underlying22 (hval 2 22 v_2 rfl rfl)
  obtain ⟨said0, said1, said2, said3, e_2, h_said0, h_said1, h_said2, h_said3⟩ := (by obtain ⟨fuel, hf⟩ := h_2; exact open22 hf hz_2 : ∃ said0 : Int, ∃ said1 : Int, ∃ said2 : Int, ∃ said3 : Int, cs_2.toList = [.int .i32 said0, .int .i32 said1, .int .i32 said2, .int .i32 said3] ∧ (Lit.int .i32 said0).wf = true ∧ (Lit.int .i32 said1).wf = true ∧ (Lit.int .i32 said2).wf = true ∧ (Lit.int .i32 said3).wf = true)
  obtain rfl : cs_2 = #[.int .i32 said0, .int .i32 said1, .int .i32 said2, .int .i32 said3] := by cases cs_2; simp_all
  clear e_2
  have hz_3 : Light Try.prog 23 d_3 := light_of hsz0 (j := 3) (by first | rfl | (rw [Try.params4]; rfl)) rfl
  have k_3 := h_3
  have lt_3 : ∀ x ∈ p_3, x.block < W.heap.size := by obtain ⟨m, hm⟩ := k_3; exact DataW.trod_lt m _ _ _ hm
  obtain ⟨cs_3, rfl, _⟩ := okWide_array Try.underlying23 (hval 3 23 v_3 rfl rfl)
  obtain ⟨told00, told01, told02, told03, told10, told11, told12, told13, told20, told21, told22, told23, told30, told31, told32, told33, e_3, h_told00, h_told01, h_told02, h_told03, h_told10, h_told11, h_told12, h_told13, h_told20, h_told21, h_told22, h_told23, h_told30, h_told31, h_told32, h_told33⟩ := (by obtain ⟨fuel, hf⟩ := h_3; exact open23 hf hz_3 : ∃ told00 : Int, ∃ told01 : Int, ∃ told02 : Int, ∃ told03 : Int, ∃ told10 : Int, ∃ told11 : Int, ∃ told12 : Int, ∃ told13 : Int, ∃ told20 : Int, ∃ told21 : Int, ∃ told22 : Int, ∃ told23 : Int, ∃ told30 : Int, ∃ told31 : Int, ∃ told32 : Int, ∃ told33 : Int, cs_3.toList = [.int .i32 told00, .int .i32 told01, .int .i32 told02, .int .i32 told03, .int .i32 told10, .int .i32 told11, .int .i32 told12, .int .i32 told13, .int .i32 told20, .int .i32 told21, .int .i32 told22, .int .i32 told23, .int .i32 told30, .int .i32 told31, .int .i32 told32, .int .i32 told33] ∧ (Lit.int .i32 told00).wf = true ∧ (Lit.int .i32 told01).wf = true ∧ (Lit.int .i32 told02).wf = true ∧ (Lit.int .i32 told03).wf = true ∧ (Lit.int .i32 told10).wf = true ∧ (Lit.int .i32 told11).wf = true ∧ (Lit.int .i32 told12).wf = true ∧ (Lit.int .i32 told13).wf = true ∧ (Lit.int .i32 told20).wf = true ∧ (Lit.int .i32 told21).wf = true ∧ (Lit.int .i32 told22).wf = true ∧ (Lit.int .i32 told23).wf = true ∧ (Lit.int .i32 told30).wf = true ∧ (Lit.int .i32 told31).wf = true ∧ (Lit.int .i32 told32).wf = true ∧ (Lit.int .i32 told33).wf = true)
  obtain rfl : cs_3 = #[.int .i32 told00, .int .i32 told01, .int .i32 told02, .int .i32 told03, .int .i32 told10, .int .i32 told11, .int .i32 told12, .int .i32 told13, .int .i32 told20, .int .i32 told21, .int .i32 told22, .int .i32 told23, .int .i32 told30, .int .i32 told31, .int .i32 told32, .int .i32 told33] := by cases cs_3; simp_all
  clear e_3
  clear hA0 hval0
  refine (walk v0 v1 v2 v3 n said0 said1 said2 said3 told00 told01 told02 told03 told10 told11 told12 told13 told20 told21 told22 told23 told30 told31 told32 told33 W h_v0 h_v1 h_v2 h_v3 h_n h_said0 h_said1 h_said2 h_said3 h_told00 h_told01 h_told02 h_told03 h_told10 h_told11 h_told12 h_told13 h_told20 h_told21 h_told22 h_told23 h_told30 h_told31 h_told32 h_told33).mono fun e W' ⟨he, bel⟩ => ?_
  subst he
  exact ⟨_, rfl, _, _, _, [], _, [], hW', trodAll_mk1 (shut_bool Try.underlying4 _), (trodAll_cons_mk (Below.trod laidOut (by kernel_rfl) (of_decide_eq_true (by kernel_rfl)) k_0 bel lt_0) (trodAll_cons_mk (Below.trod laidOut (by kernel_rfl) (of_decide_eq_true (by kernel_rfl)) k_1 bel lt_1) (trodAll_cons_mk (Below.trod laidOut (by kernel_rfl) (of_decide_eq_true (by kernel_rfl)) k_2 bel lt_2) (trodAll_cons_mk (Below.trod laidOut (by kernel_rfl) (of_decide_eq_true (by kernel_rfl)) k_3 bel lt_3) trodAll_mk0)))), rfl, bel.frame _, fun h => by cases h⟩

theorem over : Rows.agreeSameRow.holds Try.pinned (OpenSpec.ofChange Rows.agreeSameSpec) :=
  OpenClaim.holds_of_wide 4 Try.f4 rfl rfl rfl rfl rfl rfl rfl ⟨rfl, rfl, rfl, rfl, rfl⟩ rfl rfl rfl rfl rfl (by kernel_rfl) Try.func4 (by kernel_rfl)
    (of_decide_eq_true (by kernel_rfl)) (by unfold Func.isWrapper; first | (rw [if_pos (by decide +kernel)]; kernel_rfl) | (rw [if_neg (by decide +kernel)]; exact ⟨rfl, rfl⟩))
    (fun os started H enc _ => lifted os started H enc)


end Go.Proofs.Ytokfdapocnmafaa.agreeSame
namespace Go.Proofs.Ytokfdapocnmafaa
/-- THE STATEMENT -/
theorem agreeSame_holds : Rows.AgreeSameSaid := agreeSame.over
#print axioms agreeSame_holds
end Go.Proofs.Ytokfdapocnmafaa
