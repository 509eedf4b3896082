/-
  What lane k takes for each lane's number: agree.View.
-/
import Derived.Test.YtokfdapocnmafaaAgrTake
namespace Go.Proofs.Ytokfdapocnmafaa
open Go.RowKit
set_option linter.unusedVariables false

/-- four values laid into a block -/
theorem Blk.put4 {w : World} {b : Nat} {f : Nat → Value} (h : Blk w b 4 f) (v0 v1 v2 v3 : Value) :
    ∃ w3, (((w.setCell ⟨b, 0, none⟩ v0).setCell ⟨b, 1, none⟩ v1).setCell ⟨b, 2, none⟩ v2).setCell ⟨b, 3, none⟩ v3 = w3 ∧ w3.cell? ⟨b, 0, none⟩ = some v0 ∧ w3.cell? ⟨b, 1, none⟩ = some v1 ∧ w3.cell? ⟨b, 2, none⟩ = some v2 ∧ w3.cell? ⟨b, 3, none⟩ = some v3 ∧ ∀ N w0, Below N w0 w → N ≤ b → Below N w0 w3 := by
  have h4 := (((h.set (j := 0) (by omega) v0).set (j := 1) (by omega) v1).set (j := 2) (by omega) v2).set (j := 3) (by omega) v3
  refine ⟨_, rfl, h4.cell 0 (by omega), h4.cell 1 (by omega), h4.cell 2 (by omega), h4.cell 3 (by omega), fun N w0 hb hN => ?_⟩
  exact (((hb.setCell (p := ⟨b, 0, none⟩) hN _).setCell (p := ⟨b, 1, none⟩) hN _).setCell (p := ⟨b, 2, none⟩) hN _).setCell (p := ⟨b, 3, none⟩) hN _

/-- a whole talk read out of its block -/
theorem wpList_load_talk {ops : Array Oper} {rest : List Oper} {op : Oper} {a : Act} {w : World} {Q : Exit → Act → World → Prop} (hgd : op.guard = none) (x : Operand) (ho : op.op = .load 26 x) (b : Nat) (hx : a.eval x = .pointer (some ⟨b, 0, none⟩)) (T : Nat → Int) (hT : TB w b T) (h : wpList Try.prog ops Q rest (a.put op.dst (.agg (tk T))) w) : wpList Try.prog ops Q (op :: rest) a w := by
  refine wpList_plain hgd fun _ hK => ?_
  unfold Oper.wp execOp
  simp only [ho, hx, Sem.run_bind, hT.load, Result.andThen_ok, Sem.run_pure]
  exact hK _ _ h

/-- the same where a guard says yes -/
theorem wpList_load_talk_if {ops : Array Oper} {rest : List Oper} {op : Oper} {a : Act} {w : World} {Q : Exit → Act → World → Prop} (x : Operand) (ho : op.op = .load 26 x) (hw : Region.wanted op (yielded ops a.tmps) = true) (b : Nat) (hx : a.eval x = .pointer (some ⟨b, 0, none⟩)) (T : Nat → Int) (hT : TB w b T) (h : wpList Try.prog ops Q rest (a.put op.dst (.agg (tk T))) w) : wpList Try.prog ops Q (op :: rest) a w := by
  refine wpList_step fun _ hK => ?_
  rw [if_pos hw]
  unfold Oper.wp execOp
  simp only [ho, hx, Sem.run_bind, hT.load, Result.andThen_ok, Sem.run_pure]
  exact hK _ _ h

/-- the talk, the box of the answer, the view as far as it is made -/
structure Vs (w : World) (b0 b1 b2 : Nat) (T : Nat → Int) (f : Nat → Value) (z : Value) (wr : World) : Prop where
  tb : TB wr b0 T
  rs : Blk wr b1 4 fun _ => z
  vi : Blk wr b2 4 f
  bel : Below w.heap.size w wr
  low : w.heap.size ≤ b1 ∧ w.heap.size ≤ b2 ∧ b0 ≠ b2 ∧ b1 ≠ b2
theorem Vs.step {w w1 w2 : World} {b0 b1 b2 : Nat} {T : Nat → Int} {f : Nat → Value} {z : Value} (h : Vs w b0 b1 b2 T f z w1) (hb : Below w1.heap.size w1 w2) : Vs w b0 b1 b2 T f z w2 := ⟨Blk.step h.tb hb, h.rs.step hb, h.vi.step hb, h.bel.trans (hb.mono h.bel.size), h.low⟩
theorem Vs.set {w w1 : World} {b0 b1 b2 : Nat} {T : Nat → Int} {f g : Nat → Value} {z v : Value} {j : Nat} (h : Vs w b0 b1 b2 T f z w1) (hj : j < 4) (e : ∀ i, i < 4 → (if i = j then v else f i) = g i) : Vs w b0 b1 b2 T g z (w1.setCell ⟨b2, j, none⟩ v) :=
  ⟨Blk.other h.tb (fun x => h.low.2.2.1 x.symm) _, h.rs.other (fun x => h.low.2.2.2 x.symm) _, (h.vi.set hj v).as e, h.bel.setCell (p := ⟨b2, j, none⟩) h.low.2.1 _, h.low⟩
theorem vs_new (w : World) (T : Nat → Int) (z : Value) (t1 t2 t3 : TypeId) : Vs w w.heap.size (w.heap.size + 1) (w.heap.size + 1 + 1) T (fun _ => z) z (((w.alloc (.cells (tk T) t1)).alloc (.cells #[z, z, z, z] t2)).alloc (.cells #[z, z, z, z] t3)) := by
  have e : ∀ j, j < 4 → (#[z, z, z, z] : Array Value)[j]? = some z := fun j hj => by obtain rfl | rfl | rfl | rfl := four hj <;> rfl
  have h0 := tb_new w T t1
  have h1 := blk_new (w.alloc (.cells (tk T) t1)) #[z, z, z, z] t2 4 (fun _ => z) e
  have h2 := blk_new ((w.alloc (.cells (tk T) t1)).alloc (.cells #[z, z, z, z] t2)) #[z, z, z, z] t3 4 (fun _ => z) e
  have s1 : (w.alloc (.cells (tk T) t1)).heap.size = w.heap.size + 1 := by simp
  have s2 : ((w.alloc (.cells (tk T) t1)).alloc (.cells #[z, z, z, z] t2)).heap.size = w.heap.size + 1 + 1 := by simp
  rw [s1] at h1
  rw [s2] at h2
  exact ⟨(Blk.alloc h0 _).alloc _, h1.alloc _, h2, by go_grown, by omega⟩
/-- so far -/
def vwV (T : Nat → Int) (k q : Nat) : Nat → Value := fun j => .int .i32 (if j < q then vw T k j else 0)

set_option maxHeartbeats 2000000 in
theorem view_any (T : Nat → Int) (k : Nat) (hk : k < 4) (w : World) : Calls Try.prog 6 #[.agg (tk T), .int .i64 k] w fun e w' => e = .returned (.tuple #[.agg #[.int .i32 (vw T k 0), .int .i32 (vw T k 1), .int .i32 (vw T k 2), .int .i32 (vw T k 3)], .int .i64 0]) ∧ Below w.heap.size w w' := by
  have V0 : Hid (Vs w w.heap.size (w.heap.size + 1) (w.heap.size + 1 + 1) T (fun _ => .int .i32 0) (.int .i32 0) (((w.alloc (.cells (tk T) 26)).alloc (.cells #[.int .i32 0, .int .i32 0, .int .i32 0, .int .i32 0] 22)).alloc (.cells #[.int .i32 0, .int .i32 0, .int .i32 0, .int .i32 0] 22))) := vs_new w T _ _ _ _
  go_enter Try.func6, Try.ntmps6
  go_wp2_with fail
  refine (isLane_yes k hk _).mono ?_
  rintro e w1 ⟨rfl, rfl⟩
  go_wp2_with fail
  go_loopg [12] 5 (fun g u wr => ∃ q : Nat, u = .int .i64 q ∧ 4 - q < g ∧ q ≤ 4 ∧ Hid (Vs w w.heap.size (w.heap.size + 1) (w.heap.size + 1 + 1) T (vwV T k q) (.int .i32 0) wr))
  case atStart => exact ⟨0, rfl, by omega, by omega, ⟨V0.out.tb, V0.out.rs, V0.out.vi.as fun j hj => by simp [vwV], V0.out.bel, V0.out.low⟩⟩
  case round =>
    obtain ⟨q, rfl, hg, hq, HV⟩ := hrel
    clear V0
    by_cases hlt : q < 4
    · have z1 : (q : Int) < 4 := by omega
      go_wp2_with (refine wpList_load_talk rfl _ rfl _ rfl T (by exact HV.out.tb) ?_)
      refine (takes_any T q k hlt hk _).mono ?_
      rintro e w2 ⟨rfl, hb⟩
      have HV2 : Hid (Vs w w.heap.size (w.heap.size + 1) (w.heap.size + 1 + 1) T (vwV T k q) (.int .i32 0) w2) := HV.out.step hb
      clear hb HV
      have y0 := HV2.out.vi.cell q hlt
      have y1 := HV2.out.vi.froz q hlt
      generalize vwV T k q q = yv at y0
      have Hk : Hid (∀ i, i < 4 → (if i = q then (.int .i32 (vw T k q)) else vwV T k q i) = vwV T k (q + 1) i) := fun i hi => by
        unfold vwV
        by_cases e : i = q
        · subst e; rw [if_pos rfl, if_pos (by omega)]
        · rw [if_neg e]
          by_cases e2 : i < q
          · rw [if_pos e2, if_pos (by omega)]
          · rw [if_neg e2, if_neg (by omega)]
      have Hn : Hid (Vs w w.heap.size (w.heap.size + 1) (w.heap.size + 1 + 1) T (vwV T k (q + 1)) (.int .i32 0) (w2.setCell ⟨w.heap.size + 1 + 1, q, none⟩ (.int .i32 (vw T k q)))) := HV2.out.set hlt Hk.out
      clear Hk
      generalize vw T k q = m at *
      go_wp2_with fail
      go_roundg (4 - (q + 1) + 1)
      case measure => omega
      case rel => exact ⟨q + 1, by go_num, by omega, by omega, Hn⟩
    · have z1 : ¬ (q : Int) < 4 := by omega
      obtain rfl : q = 4 := by omega
      have y0 := HV.out.vi.cell 0 (by omega)
      have y1 := HV.out.vi.cell 1 (by omega)
      have y2 := HV.out.vi.cell 2 (by omega)
      have y3 := HV.out.vi.cell 3 (by omega)
      have g0 := HV.out.rs.cell 0 (by omega)
      have g1 := HV.out.rs.cell 1 (by omega)
      have g2 := HV.out.rs.cell 2 (by omega)
      have g3 := HV.out.rs.cell 3 (by omega)
      have f0 := HV.out.rs.froz 0 (by omega)
      have f1 := HV.out.rs.froz 1 (by omega)
      have f2 := HV.out.rs.froz 2 (by omega)
      have f3 := HV.out.rs.froz 3 (by omega)
      replace y0 : wr.cell? ⟨w.heap.size + 1 + 1, 0, none⟩ = some (.int .i32 (vw T k 0)) := y0
      replace y1 : wr.cell? ⟨w.heap.size + 1 + 1, 1, none⟩ = some (.int .i32 (vw T k 1)) := y1
      replace y2 : wr.cell? ⟨w.heap.size + 1 + 1, 2, none⟩ = some (.int .i32 (vw T k 2)) := y2
      replace y3 : wr.cell? ⟨w.heap.size + 1 + 1, 3, none⟩ = some (.int .i32 (vw T k 3)) := y3
      go_wp2_with fail
      obtain ⟨w3, hw3, e0, e1, e2, e3, hB⟩ := HV.out.rs.put4 (.int .i32 (vw T k 0)) (.int .i32 (vw T k 1)) (.int .i32 (vw T k 2)) (.int .i32 (vw T k 3))
      rw [hw3]
      refine bodyPost_ret (by simp [results, Try.results6, go_sem, e0, e1, e2, e3]; try rfl) rfl ?_
      exact ⟨rfl, hB _ _ HV.out.bel HV.out.low.1⟩

end Go.Proofs.Ytokfdapocnmafaa
