/-
  Whatever is handed in, the law CutsSays returns true: all calls of package cuts answer what the document says. No condition.
-/
import Derived.Test.YtacophekhknbpaaEi
import Derived.Test.YtacophekhknbpaaOpenG
import Derived.Test.YtacophekhknbpaaIntEq
import Derived.Test.YtacophekhknbpaaRGatChk
import Derived.Test.YtacophekhknbpaaSaysFun
import Derived.BigQuiet
namespace Go.Proofs.Ytacophekhknbpaa.cutsSays
open Go.ChangeShapes Go.WideShapes Go.ChangeAt Go.RowKit
set_option linter.unusedVariables false

theorem own : ownKnob Try.prog.godebug = none := by kernel_rfl
theorem laidOut : laidOutB Try.prog = true := by kernel_rfl


theorem same_list (l : List Nat) (w : World) (a1 a2 : Option Addr) (c1 c2 : Nat) (hl : l.length ≤ 70) (h : RS w a1 l.length (fun j => l.getD j 0)) (h2 : RS w a2 l.length (fun j => l.getD j 0)) : Calls Try.prog 18 #[.slice a1 l.length c1, .slice a2 l.length c2] w fun e w' => e = .returned (.bool true) ∧ Below w.heap.size w w' := by
  have := equalL_any l l a1 a2 c1 c2 w (by omega) h h2
  rw [decide_eq_true rfl] at this
  exact this
/-- the ways of the sets that came in -/
def LWay (la : Option Addr) (ln lc : Nat) (f : Nat → Nat) (w : World) : Prop := RS w la ln f ∧ (∀ j, f j < 65536)
theorem across_good (la : Option Addr) (ln lc : Nat) (f : Nat → Nat) (w : World) (hn : ¬ 100 < ln) (h : RS w la ln f) (hf : ∀ j, f j < 65536) (hE : bigB f ln = false) :
    Calls Try.prog 12 #[.slice la ln lc] w fun e w' => ∃ v, e = .returned (.tuple #[v, .int .i64 0]) ∧ RowU w (leastL fun s => mtB f s ln) v w' := by
  refine (across_small la ln lc f w hn h (fun j _ => hf j) false hE).mono ?_
  rintro e w' (⟨q, _⟩ | ⟨_, h⟩)
  · cases q
  · exact h
theorem across_big (la : Option Addr) (ln lc : Nat) (f : Nat → Nat) (w : World) (hn : ¬ 100 < ln) (h : RS w la ln f) (hf : ∀ j, f j < 65536) (hE : bigB f ln = true) :
    Calls Try.prog 12 #[.slice la ln lc] w fun e w' => e = .returned (.tuple #[.slice none 0 0, .int .i64 1]) ∧ Below w.heap.size w w' := by
  refine (across_small la ln lc f w hn h (fun j _ => hf j) true hE).mono ?_
  rintro e w' (⟨_, h1, h2⟩ | ⟨q, _⟩)
  · exact ⟨h1, h2⟩
  · cases q
theorem big_call (la : Option Addr) (ln lc : Nat) (f : Nat → Nat) (w : World) (hn : ¬ 100 < ln) (h : RS w la ln f) (E : Bool) (hE : bigB f ln = E) :
    Calls Try.prog 13 #[.slice la ln lc, .func (.func 14) #[] #[]] w fun e w' => e = .returned (.bool E) ∧ Below w.heap.size w w' := by
  have := containsUN_any 14 la ln lc f (fun j => decide (255 < f j)) w (by omega) h entF_says1 (fun j W _ _ => says1_any (f j) W)
  rw [bigB_any, hE] at this
  exact this
theorem want_call (B : Nat) (la : Option Addr) (ln lc : Nat) (f : Nat → Nat) (w : World) (hn : ¬ 100 < ln) (h : RS w la ln f) (hf : ∀ j, f j < 65536) (hB : w.cell? ⟨B, 0, none⟩ = some (.slice la ln lc)) :
    Calls Try.prog 15 #[.func (.func 16) #[] #[.pointer (some ⟨B, 0, none⟩)]] w fun e w' => ∃ v, e = .returned v ∧ RowU w (leastL fun s => mtB f s ln) v w' := by
  refine (rsets_any 16 ⟨B, 0, none⟩ (fun s => mtB f s ln) w entF_says2 (fun W s hs hW => says2_any B la ln lc s f W (by omega) (h.step hW) (fun j _ => hf j) ((hW.cell (p := ⟨B, 0, none⟩) (lt_of_cell hB)).trans hB) (by omega))).mono ?_
  rintro e w' ⟨v, rfl, hv⟩
  rw [sets_least (mtB_mono f ln)] at hv
  exact ⟨v, rfl, hv⟩
theorem cuts_call (B : Nat) (a : Option Addr) (n c : Nat) (t : Nat → Gt) (w : World) (h : RowG w a n t) (hc : chG t n = 0) (hB : w.cell? ⟨B, 0, none⟩ = some (.slice a n c)) :
    Calls Try.prog 15 #[.func (.func 21) #[] #[.pointer (some ⟨B, 0, none⟩)]] w fun e w' => ∃ v, e = .returned v ∧ RowU w (leastL (faT t n)) v w' := by
  refine (rsets_any 21 ⟨B, 0, none⟩ (faT t n) w entF_says3 (fun W s hs hW => says3_any B a n c s t W (h.step hW) hc ((hW.cell (p := ⟨B, 0, none⟩) (lt_of_cell hB)).trans hB) (by omega))).mono ?_
  rintro e w' ⟨v, rfl, hv⟩
  rw [sets_least (mono_faT hc)] at hv
  exact ⟨v, rfl, hv⟩

set_option maxHeartbeats 8000000 in
set_option maxRecDepth 100000 in
theorem bad_long (ta : Option Addr) (tn tc : Nat) (t : Nat → Gt) (p : Nat) (hp : p < 65536) (la : Option Addr) (ln lc : Nat) (f : Nat → Nat) (w : World) (h : RowG w ta tn t) (hl : RS w la ln f) (hf : ∀ j, f j < 65536) (hn : 100 < ln) (E : Int) (hc : chG t tn = E) (h0 : ¬ E = 0) :
    Calls Try.prog 3 #[.slice ta tn tc, .int .u16 p, .slice la ln lc] w fun e w' => e = .returned (.bool true) ∧ Below w.heap.size w w' := by
  have HR : Hid (RowG w ta tn t) := h
  have HL : Hid (RS w la ln f) := hl
  have HF : Hid (∀ j, f j < 65536) := hf
  have HP : Hid (p < 65536) := hp
  have B0 : Hid (Below w.heap.size w ((w.alloc (.cells #[.slice ta tn tc] 22)).alloc (.cells #[.slice la ln lc] 24))) := (gbox _ _).alloc (by simp) _
  have X0 : Hid (((w.alloc (.cells #[.slice ta tn tc] 22)).alloc (.cells #[.slice la ln lc] 24)).cell? ⟨w.heap.size, 0, none⟩ = some (.slice ta tn tc)) := ((cells_new w #[.slice ta tn tc] 22).alloc _).cell 0 _ rfl
  have Y0 : Hid (((w.alloc (.cells #[.slice ta tn tc] 22)).alloc (.cells #[.slice la ln lc] 24)).cell? ⟨w.heap.size + 1, 0, none⟩ = some (.slice la ln lc)) := by
    have := (cells_new (w.alloc (.cells #[.slice ta tn tc] 22)) #[.slice la ln lc] 24).cell 0 _ rfl
    rw [show (w.alloc (.cells #[.slice ta tn tc] 22)).heap.size = w.heap.size + 1 by simp] at this
    exact this
  have hmf : ∀ (fn : Fn) (first cap : Array Value) (w : World), (Instr.makeFunc fn first cap).run Try.prog w = .ok (.func fn first cap) w := fun _ _ _ _ => rfl
  have HC : Hid (chG t tn = E ∧ ¬ E = 0) := ⟨hc, h0⟩
  have z0 : (E != 0) = true := by simpa using h0
  clear h hl hf hp hc h0
  have HN : Hid (100 < ln) := hn
  have z1 : (100 : Int) < (ln : Int) := by omega
  clear hn
  go_enter Try.func3, Try.ntmps3
  go_wp2_with fail
  refine (treeErr_any ta tn tc t _ (HR.out.step B0.out)).mono ?_
  rintro e w1 ⟨rfl, hb⟩
  have B1 : Hid (Below w.heap.size w w1) := B0.out.trans (hb.mono B0.out.size)
  have X1 : Hid (w1.cell? ⟨w.heap.size, 0, none⟩ = some (.slice ta tn tc)) := (hb.cell (p := ⟨w.heap.size, 0, none⟩) (lt_of_cell X0.out)).trans X0.out
  have Y1 : Hid (w1.cell? ⟨w.heap.size + 1, 0, none⟩ = some (.slice la ln lc)) := (hb.cell (p := ⟨w.heap.size + 1, 0, none⟩) (lt_of_cell Y0.out)).trans Y0.out
  have x1 := X1.out
  have y1 := Y1.out
  have lx1 := lt_of_cell x1
  have ly1 := lt_of_cell y1
  clear hb B0 X0 Y0
  rw [HC.out.1]
  go_wp2_with fail
  refine (fails_bad ta tn tc p t _ (HR.out.step B1.out) E HC.out.1 HC.out.2).mono ?_
  rintro e w2 ⟨rfl, hb⟩
  have B2 : Hid (Below w.heap.size w w2) := B1.out.trans (hb.mono B1.out.size)
  have X2 : Hid (w2.cell? ⟨w.heap.size, 0, none⟩ = some (.slice ta tn tc)) := (hb.cell (p := ⟨w.heap.size, 0, none⟩) (lt_of_cell X1.out)).trans X1.out
  have Y2 : Hid (w2.cell? ⟨w.heap.size + 1, 0, none⟩ = some (.slice la ln lc)) := (hb.cell (p := ⟨w.heap.size + 1, 0, none⟩) (lt_of_cell Y1.out)).trans Y1.out
  have x2 := X2.out
  have y2 := Y2.out
  have lx2 := lt_of_cell x2
  have ly2 := lt_of_cell y2
  clear hb B1 X1 Y1 x1 y1 lx1 ly1
  go_wp2_with fail
  refine (cuts_bad ta tn tc t _ (HR.out.step B2.out) E HC.out.1 HC.out.2).mono ?_
  rintro e w3 ⟨rfl, hb⟩
  have B3 : Hid (Below w.heap.size w w3) := B2.out.trans (hb.mono B2.out.size)
  have X3 : Hid (w3.cell? ⟨w.heap.size, 0, none⟩ = some (.slice ta tn tc)) := (hb.cell (p := ⟨w.heap.size, 0, none⟩) (lt_of_cell X2.out)).trans X2.out
  have Y3 : Hid (w3.cell? ⟨w.heap.size + 1, 0, none⟩ = some (.slice la ln lc)) := (hb.cell (p := ⟨w.heap.size + 1, 0, none⟩) (lt_of_cell Y2.out)).trans Y2.out
  have x3 := X3.out
  have y3 := Y3.out
  have lx3 := lt_of_cell x3
  have ly3 := lt_of_cell y3
  clear hb B2 X2 Y2 x2 y2 lx2 ly2
  go_wp2_with fail
  refine (dual_bad ta tn tc t _ (HR.out.step B3.out) E HC.out.1 HC.out.2).mono ?_
  rintro e w4 ⟨rfl, hb⟩
  have B4 : Hid (Below w.heap.size w w4) := B3.out.trans (hb.mono B3.out.size)
  have X4 : Hid (w4.cell? ⟨w.heap.size, 0, none⟩ = some (.slice ta tn tc)) := (hb.cell (p := ⟨w.heap.size, 0, none⟩) (lt_of_cell X3.out)).trans X3.out
  have Y4 : Hid (w4.cell? ⟨w.heap.size + 1, 0, none⟩ = some (.slice la ln lc)) := (hb.cell (p := ⟨w.heap.size + 1, 0, none⟩) (lt_of_cell Y3.out)).trans Y3.out
  have x4 := X4.out
  have y4 := Y4.out
  have lx4 := lt_of_cell x4
  have ly4 := lt_of_cell y4
  clear hb B3 X3 Y3 x3 y3 lx3 ly3
  go_wp2_with fail
  refine (across_large la ln lc _ HN.out).mono ?_
  rintro e w5 ⟨rfl, hb⟩
  have B5 : Hid (Below w.heap.size w w5) := B4.out.trans (hb.mono B4.out.size)
  have X5 : Hid (w5.cell? ⟨w.heap.size, 0, none⟩ = some (.slice ta tn tc)) := (hb.cell (p := ⟨w.heap.size, 0, none⟩) (lt_of_cell X4.out)).trans X4.out
  have Y5 : Hid (w5.cell? ⟨w.heap.size + 1, 0, none⟩ = some (.slice la ln lc)) := (hb.cell (p := ⟨w.heap.size + 1, 0, none⟩) (lt_of_cell Y4.out)).trans Y4.out
  have x5 := X5.out
  have y5 := Y5.out
  have lx5 := lt_of_cell x5
  have ly5 := lt_of_cell y5
  clear hb B4 X4 Y4 x4 y4 lx4 ly4
  go_wp2_with fail
  refine (checkT_any ta tn tc t _ (HR.out.step B5.out)).mono ?_
  rintro e w6 ⟨rfl, hb⟩
  have B6 : Hid (Below w.heap.size w w6) := B5.out.trans (hb.mono B5.out.size)
  have X6 : Hid (w6.cell? ⟨w.heap.size, 0, none⟩ = some (.slice ta tn tc)) := (hb.cell (p := ⟨w.heap.size, 0, none⟩) (lt_of_cell X5.out)).trans X5.out
  have Y6 : Hid (w6.cell? ⟨w.heap.size + 1, 0, none⟩ = some (.slice la ln lc)) := (hb.cell (p := ⟨w.heap.size + 1, 0, none⟩) (lt_of_cell Y5.out)).trans Y5.out
  have x6 := X6.out
  have y6 := Y6.out
  have lx6 := lt_of_cell x6
  have ly6 := lt_of_cell y6
  clear hb B5 X5 Y5 x5 y5 lx5 ly5
  rw [HC.out.1]
  go_wp2_with fail
  go_ret
  exact ⟨rfl, B6.out⟩

set_option maxHeartbeats 8000000 in
set_option maxRecDepth 100000 in
theorem bad_big (ta : Option Addr) (tn tc : Nat) (t : Nat → Gt) (p : Nat) (hp : p < 65536) (la : Option Addr) (ln lc : Nat) (f : Nat → Nat) (w : World) (h : RowG w ta tn t) (hl : RS w la ln f) (hf : ∀ j, f j < 65536) (hn : ¬ 100 < ln) (hE : bigB f ln = true) (E : Int) (hc : chG t tn = E) (h0 : ¬ E = 0) :
    Calls Try.prog 3 #[.slice ta tn tc, .int .u16 p, .slice la ln lc] w fun e w' => e = .returned (.bool true) ∧ Below w.heap.size w w' := by
  have HR : Hid (RowG w ta tn t) := h
  have HL : Hid (RS w la ln f) := hl
  have HF : Hid (∀ j, f j < 65536) := hf
  have HP : Hid (p < 65536) := hp
  have B0 : Hid (Below w.heap.size w ((w.alloc (.cells #[.slice ta tn tc] 22)).alloc (.cells #[.slice la ln lc] 24))) := (gbox _ _).alloc (by simp) _
  have X0 : Hid (((w.alloc (.cells #[.slice ta tn tc] 22)).alloc (.cells #[.slice la ln lc] 24)).cell? ⟨w.heap.size, 0, none⟩ = some (.slice ta tn tc)) := ((cells_new w #[.slice ta tn tc] 22).alloc _).cell 0 _ rfl
  have Y0 : Hid (((w.alloc (.cells #[.slice ta tn tc] 22)).alloc (.cells #[.slice la ln lc] 24)).cell? ⟨w.heap.size + 1, 0, none⟩ = some (.slice la ln lc)) := by
    have := (cells_new (w.alloc (.cells #[.slice ta tn tc] 22)) #[.slice la ln lc] 24).cell 0 _ rfl
    rw [show (w.alloc (.cells #[.slice ta tn tc] 22)).heap.size = w.heap.size + 1 by simp] at this
    exact this
  have hmf : ∀ (fn : Fn) (first cap : Array Value) (w : World), (Instr.makeFunc fn first cap).run Try.prog w = .ok (.func fn first cap) w := fun _ _ _ _ => rfl
  have HC : Hid (chG t tn = E ∧ ¬ E = 0) := ⟨hc, h0⟩
  have z0 : (E != 0) = true := by simpa using h0
  clear h hl hf hp hc h0
  have HN : Hid (¬ 100 < ln) := hn
  have HB : Hid (bigB f ln = true) := hE
  have z1 : ¬ (100 : Int) < (ln : Int) := by omega
  clear hn hE
  go_enter Try.func3, Try.ntmps3
  go_wp2_with fail
  refine (treeErr_any ta tn tc t _ (HR.out.step B0.out)).mono ?_
  rintro e w1 ⟨rfl, hb⟩
  have B1 : Hid (Below w.heap.size w w1) := B0.out.trans (hb.mono B0.out.size)
  have X1 : Hid (w1.cell? ⟨w.heap.size, 0, none⟩ = some (.slice ta tn tc)) := (hb.cell (p := ⟨w.heap.size, 0, none⟩) (lt_of_cell X0.out)).trans X0.out
  have Y1 : Hid (w1.cell? ⟨w.heap.size + 1, 0, none⟩ = some (.slice la ln lc)) := (hb.cell (p := ⟨w.heap.size + 1, 0, none⟩) (lt_of_cell Y0.out)).trans Y0.out
  have x1 := X1.out
  have y1 := Y1.out
  have lx1 := lt_of_cell x1
  have ly1 := lt_of_cell y1
  clear hb B0 X0 Y0
  rw [HC.out.1]
  go_wp2_with fail
  refine (fails_bad ta tn tc p t _ (HR.out.step B1.out) E HC.out.1 HC.out.2).mono ?_
  rintro e w2 ⟨rfl, hb⟩
  have B2 : Hid (Below w.heap.size w w2) := B1.out.trans (hb.mono B1.out.size)
  have X2 : Hid (w2.cell? ⟨w.heap.size, 0, none⟩ = some (.slice ta tn tc)) := (hb.cell (p := ⟨w.heap.size, 0, none⟩) (lt_of_cell X1.out)).trans X1.out
  have Y2 : Hid (w2.cell? ⟨w.heap.size + 1, 0, none⟩ = some (.slice la ln lc)) := (hb.cell (p := ⟨w.heap.size + 1, 0, none⟩) (lt_of_cell Y1.out)).trans Y1.out
  have x2 := X2.out
  have y2 := Y2.out
  have lx2 := lt_of_cell x2
  have ly2 := lt_of_cell y2
  clear hb B1 X1 Y1 x1 y1 lx1 ly1
  go_wp2_with fail
  refine (cuts_bad ta tn tc t _ (HR.out.step B2.out) E HC.out.1 HC.out.2).mono ?_
  rintro e w3 ⟨rfl, hb⟩
  have B3 : Hid (Below w.heap.size w w3) := B2.out.trans (hb.mono B2.out.size)
  have X3 : Hid (w3.cell? ⟨w.heap.size, 0, none⟩ = some (.slice ta tn tc)) := (hb.cell (p := ⟨w.heap.size, 0, none⟩) (lt_of_cell X2.out)).trans X2.out
  have Y3 : Hid (w3.cell? ⟨w.heap.size + 1, 0, none⟩ = some (.slice la ln lc)) := (hb.cell (p := ⟨w.heap.size + 1, 0, none⟩) (lt_of_cell Y2.out)).trans Y2.out
  have x3 := X3.out
  have y3 := Y3.out
  have lx3 := lt_of_cell x3
  have ly3 := lt_of_cell y3
  clear hb B2 X2 Y2 x2 y2 lx2 ly2
  go_wp2_with fail
  refine (dual_bad ta tn tc t _ (HR.out.step B3.out) E HC.out.1 HC.out.2).mono ?_
  rintro e w4 ⟨rfl, hb⟩
  have B4 : Hid (Below w.heap.size w w4) := B3.out.trans (hb.mono B3.out.size)
  have X4 : Hid (w4.cell? ⟨w.heap.size, 0, none⟩ = some (.slice ta tn tc)) := (hb.cell (p := ⟨w.heap.size, 0, none⟩) (lt_of_cell X3.out)).trans X3.out
  have Y4 : Hid (w4.cell? ⟨w.heap.size + 1, 0, none⟩ = some (.slice la ln lc)) := (hb.cell (p := ⟨w.heap.size + 1, 0, none⟩) (lt_of_cell Y3.out)).trans Y3.out
  have x4 := X4.out
  have y4 := Y4.out
  have lx4 := lt_of_cell x4
  have ly4 := lt_of_cell y4
  clear hb B3 X3 Y3 x3 y3 lx3 ly3
  go_wp2_with fail
  refine (across_big la ln lc f _ HN.out (HL.out.step B4.out) HF.out HB.out).mono ?_
  rintro e w5 ⟨rfl, hb⟩
  have B5 : Hid (Below w.heap.size w w5) := B4.out.trans (hb.mono B4.out.size)
  have X5 : Hid (w5.cell? ⟨w.heap.size, 0, none⟩ = some (.slice ta tn tc)) := (hb.cell (p := ⟨w.heap.size, 0, none⟩) (lt_of_cell X4.out)).trans X4.out
  have Y5 : Hid (w5.cell? ⟨w.heap.size + 1, 0, none⟩ = some (.slice la ln lc)) := (hb.cell (p := ⟨w.heap.size + 1, 0, none⟩) (lt_of_cell Y4.out)).trans Y4.out
  have x5 := X5.out
  have y5 := Y5.out
  have lx5 := lt_of_cell x5
  have ly5 := lt_of_cell y5
  clear hb B4 X4 Y4 x4 y4 lx4 ly4
  go_wp2_with fail
  refine (big_call la ln lc f _ HN.out (HL.out.step B5.out) true HB.out).mono ?_
  rintro e w6 ⟨rfl, hb⟩
  have B6 : Hid (Below w.heap.size w w6) := B5.out.trans (hb.mono B5.out.size)
  have X6 : Hid (w6.cell? ⟨w.heap.size, 0, none⟩ = some (.slice ta tn tc)) := (hb.cell (p := ⟨w.heap.size, 0, none⟩) (lt_of_cell X5.out)).trans X5.out
  have Y6 : Hid (w6.cell? ⟨w.heap.size + 1, 0, none⟩ = some (.slice la ln lc)) := (hb.cell (p := ⟨w.heap.size + 1, 0, none⟩) (lt_of_cell Y5.out)).trans Y5.out
  have x6 := X6.out
  have y6 := Y6.out
  have lx6 := lt_of_cell x6
  have ly6 := lt_of_cell y6
  clear hb B5 X5 Y5 x5 y5 lx5 ly5
  go_wp2_with fail
  refine (checkT_any ta tn tc t _ (HR.out.step B6.out)).mono ?_
  rintro e w7 ⟨rfl, hb⟩
  have B7 : Hid (Below w.heap.size w w7) := B6.out.trans (hb.mono B6.out.size)
  have X7 : Hid (w7.cell? ⟨w.heap.size, 0, none⟩ = some (.slice ta tn tc)) := (hb.cell (p := ⟨w.heap.size, 0, none⟩) (lt_of_cell X6.out)).trans X6.out
  have Y7 : Hid (w7.cell? ⟨w.heap.size + 1, 0, none⟩ = some (.slice la ln lc)) := (hb.cell (p := ⟨w.heap.size + 1, 0, none⟩) (lt_of_cell Y6.out)).trans Y6.out
  have x7 := X7.out
  have y7 := Y7.out
  have lx7 := lt_of_cell x7
  have ly7 := lt_of_cell y7
  clear hb B6 X6 Y6 x6 y6 lx6 ly6
  rw [HC.out.1]
  go_wp2_with fail
  go_ret
  exact ⟨rfl, B7.out⟩

set_option maxHeartbeats 8000000 in
set_option maxRecDepth 100000 in
theorem bad_good (ta : Option Addr) (tn tc : Nat) (t : Nat → Gt) (p : Nat) (hp : p < 65536) (la : Option Addr) (ln lc : Nat) (f : Nat → Nat) (w : World) (h : RowG w ta tn t) (hl : RS w la ln f) (hf : ∀ j, f j < 65536) (hn : ¬ 100 < ln) (hE : bigB f ln = false) (E : Int) (hc : chG t tn = E) (h0 : ¬ E = 0) :
    Calls Try.prog 3 #[.slice ta tn tc, .int .u16 p, .slice la ln lc] w fun e w' => e = .returned (.bool true) ∧ Below w.heap.size w w' := by
  have HR : Hid (RowG w ta tn t) := h
  have HL : Hid (RS w la ln f) := hl
  have HF : Hid (∀ j, f j < 65536) := hf
  have HP : Hid (p < 65536) := hp
  have B0 : Hid (Below w.heap.size w ((w.alloc (.cells #[.slice ta tn tc] 22)).alloc (.cells #[.slice la ln lc] 24))) := (gbox _ _).alloc (by simp) _
  have X0 : Hid (((w.alloc (.cells #[.slice ta tn tc] 22)).alloc (.cells #[.slice la ln lc] 24)).cell? ⟨w.heap.size, 0, none⟩ = some (.slice ta tn tc)) := ((cells_new w #[.slice ta tn tc] 22).alloc _).cell 0 _ rfl
  have Y0 : Hid (((w.alloc (.cells #[.slice ta tn tc] 22)).alloc (.cells #[.slice la ln lc] 24)).cell? ⟨w.heap.size + 1, 0, none⟩ = some (.slice la ln lc)) := by
    have := (cells_new (w.alloc (.cells #[.slice ta tn tc] 22)) #[.slice la ln lc] 24).cell 0 _ rfl
    rw [show (w.alloc (.cells #[.slice ta tn tc] 22)).heap.size = w.heap.size + 1 by simp] at this
    exact this
  have hmf : ∀ (fn : Fn) (first cap : Array Value) (w : World), (Instr.makeFunc fn first cap).run Try.prog w = .ok (.func fn first cap) w := fun _ _ _ _ => rfl
  have HC : Hid (chG t tn = E ∧ ¬ E = 0) := ⟨hc, h0⟩
  have z0 : (E != 0) = true := by simpa using h0
  clear h hl hf hp hc h0
  have HN : Hid (¬ 100 < ln) := hn
  have HB : Hid (bigB f ln = false) := hE
  have z1 : ¬ (100 : Int) < (ln : Int) := by omega
  obtain ⟨D, hD⟩ : ∃ D, (leastL fun s => mtB f s ln) = D := ⟨_, rfl⟩
  have HD : Hid ((leastL fun s => mtB f s ln) = D) := hD
  have KD : Hid (D.length ≤ 70) := hD ▸ leastL_len (mtB_mono f ln)
  clear hD
  clear hn hE
  go_enter Try.func3, Try.ntmps3
  go_wp2_with fail
  refine (treeErr_any ta tn tc t _ (HR.out.step B0.out)).mono ?_
  rintro e w1 ⟨rfl, hb⟩
  have B1 : Hid (Below w.heap.size w w1) := B0.out.trans (hb.mono B0.out.size)
  have X1 : Hid (w1.cell? ⟨w.heap.size, 0, none⟩ = some (.slice ta tn tc)) := (hb.cell (p := ⟨w.heap.size, 0, none⟩) (lt_of_cell X0.out)).trans X0.out
  have Y1 : Hid (w1.cell? ⟨w.heap.size + 1, 0, none⟩ = some (.slice la ln lc)) := (hb.cell (p := ⟨w.heap.size + 1, 0, none⟩) (lt_of_cell Y0.out)).trans Y0.out
  have x1 := X1.out
  have y1 := Y1.out
  have lx1 := lt_of_cell x1
  have ly1 := lt_of_cell y1
  clear hb B0 X0 Y0
  rw [HC.out.1]
  go_wp2_with fail
  refine (fails_bad ta tn tc p t _ (HR.out.step B1.out) E HC.out.1 HC.out.2).mono ?_
  rintro e w2 ⟨rfl, hb⟩
  have B2 : Hid (Below w.heap.size w w2) := B1.out.trans (hb.mono B1.out.size)
  have X2 : Hid (w2.cell? ⟨w.heap.size, 0, none⟩ = some (.slice ta tn tc)) := (hb.cell (p := ⟨w.heap.size, 0, none⟩) (lt_of_cell X1.out)).trans X1.out
  have Y2 : Hid (w2.cell? ⟨w.heap.size + 1, 0, none⟩ = some (.slice la ln lc)) := (hb.cell (p := ⟨w.heap.size + 1, 0, none⟩) (lt_of_cell Y1.out)).trans Y1.out
  have x2 := X2.out
  have y2 := Y2.out
  have lx2 := lt_of_cell x2
  have ly2 := lt_of_cell y2
  clear hb B1 X1 Y1 x1 y1 lx1 ly1
  go_wp2_with fail
  refine (cuts_bad ta tn tc t _ (HR.out.step B2.out) E HC.out.1 HC.out.2).mono ?_
  rintro e w3 ⟨rfl, hb⟩
  have B3 : Hid (Below w.heap.size w w3) := B2.out.trans (hb.mono B2.out.size)
  have X3 : Hid (w3.cell? ⟨w.heap.size, 0, none⟩ = some (.slice ta tn tc)) := (hb.cell (p := ⟨w.heap.size, 0, none⟩) (lt_of_cell X2.out)).trans X2.out
  have Y3 : Hid (w3.cell? ⟨w.heap.size + 1, 0, none⟩ = some (.slice la ln lc)) := (hb.cell (p := ⟨w.heap.size + 1, 0, none⟩) (lt_of_cell Y2.out)).trans Y2.out
  have x3 := X3.out
  have y3 := Y3.out
  have lx3 := lt_of_cell x3
  have ly3 := lt_of_cell y3
  clear hb B2 X2 Y2 x2 y2 lx2 ly2
  go_wp2_with fail
  refine (dual_bad ta tn tc t _ (HR.out.step B3.out) E HC.out.1 HC.out.2).mono ?_
  rintro e w4 ⟨rfl, hb⟩
  have B4 : Hid (Below w.heap.size w w4) := B3.out.trans (hb.mono B3.out.size)
  have X4 : Hid (w4.cell? ⟨w.heap.size, 0, none⟩ = some (.slice ta tn tc)) := (hb.cell (p := ⟨w.heap.size, 0, none⟩) (lt_of_cell X3.out)).trans X3.out
  have Y4 : Hid (w4.cell? ⟨w.heap.size + 1, 0, none⟩ = some (.slice la ln lc)) := (hb.cell (p := ⟨w.heap.size + 1, 0, none⟩) (lt_of_cell Y3.out)).trans Y3.out
  have x4 := X4.out
  have y4 := Y4.out
  have lx4 := lt_of_cell x4
  have ly4 := lt_of_cell y4
  clear hb B3 X3 Y3 x3 y3 lx3 ly3
  go_wp2_with fail
  refine (across_good la ln lc f _ HN.out (HL.out.step B4.out) HF.out HB.out).mono ?_
  rintro e w5 ⟨v, rfl, hv⟩
  rw [HD.out] at hv
  obtain ⟨aA, cA, rfl, _, hr, hb⟩ := hv
  have B5 : Hid (Below w.heap.size w w5) := B4.out.trans (hb.mono B4.out.size)
  have X5 : Hid (w5.cell? ⟨w.heap.size, 0, none⟩ = some (.slice ta tn tc)) := (hb.cell (p := ⟨w.heap.size, 0, none⟩) (lt_of_cell X4.out)).trans X4.out
  have Y5 : Hid (w5.cell? ⟨w.heap.size + 1, 0, none⟩ = some (.slice la ln lc)) := (hb.cell (p := ⟨w.heap.size + 1, 0, none⟩) (lt_of_cell Y4.out)).trans Y4.out
  have RA5 : Hid (RS w5 aA D.length (fun j => D.getD j 0)) := hr.rs
  have x5 := X5.out
  have y5 := Y5.out
  have lx5 := lt_of_cell x5
  have ly5 := lt_of_cell y5
  clear hb B4 X4 Y4 x4 y4 lx4 ly4
  clear hr
  go_wp2_with fail
  refine (big_call la ln lc f _ HN.out (HL.out.step B5.out) false HB.out).mono ?_
  rintro e w6 ⟨rfl, hb⟩
  have B6 : Hid (Below w.heap.size w w6) := B5.out.trans (hb.mono B5.out.size)
  have X6 : Hid (w6.cell? ⟨w.heap.size, 0, none⟩ = some (.slice ta tn tc)) := (hb.cell (p := ⟨w.heap.size, 0, none⟩) (lt_of_cell X5.out)).trans X5.out
  have Y6 : Hid (w6.cell? ⟨w.heap.size + 1, 0, none⟩ = some (.slice la ln lc)) := (hb.cell (p := ⟨w.heap.size + 1, 0, none⟩) (lt_of_cell Y5.out)).trans Y5.out
  have RA6 : Hid (RS w6 aA D.length (fun j => D.getD j 0)) := RA5.out.step hb
  have x6 := X6.out
  have y6 := Y6.out
  have lx6 := lt_of_cell x6
  have ly6 := lt_of_cell y6
  clear hb B5 X5 Y5 RA5 x5 y5 lx5 ly5
  go_wp2_with fail
  refine (want_call (w.heap.size + 1) la ln lc f _ HN.out (HL.out.step B6.out) HF.out Y6.out).mono ?_
  rintro e w7 ⟨v, rfl, hv⟩
  rw [HD.out] at hv
  obtain ⟨aW, cW, rfl, _, hr, hb⟩ := hv
  have B7 : Hid (Below w.heap.size w w7) := B6.out.trans (hb.mono B6.out.size)
  have X7 : Hid (w7.cell? ⟨w.heap.size, 0, none⟩ = some (.slice ta tn tc)) := (hb.cell (p := ⟨w.heap.size, 0, none⟩) (lt_of_cell X6.out)).trans X6.out
  have Y7 : Hid (w7.cell? ⟨w.heap.size + 1, 0, none⟩ = some (.slice la ln lc)) := (hb.cell (p := ⟨w.heap.size + 1, 0, none⟩) (lt_of_cell Y6.out)).trans Y6.out
  have RA7 : Hid (RS w7 aA D.length (fun j => D.getD j 0)) := RA6.out.step hb
  have RW7 : Hid (RS w7 aW D.length (fun j => D.getD j 0)) := hr.rs
  have x7 := X7.out
  have y7 := Y7.out
  have lx7 := lt_of_cell x7
  have ly7 := lt_of_cell y7
  clear hb B6 X6 Y6 RA6 x6 y6 lx6 ly6
  clear hr
  go_wp2_with fail
  refine (same_list D _ aA aW cA cW KD.out RA7.out RW7.out).mono ?_
  rintro e w8 ⟨rfl, hb⟩
  have B8 : Hid (Below w.heap.size w w8) := B7.out.trans (hb.mono B7.out.size)
  have X8 : Hid (w8.cell? ⟨w.heap.size, 0, none⟩ = some (.slice ta tn tc)) := (hb.cell (p := ⟨w.heap.size, 0, none⟩) (lt_of_cell X7.out)).trans X7.out
  have Y8 : Hid (w8.cell? ⟨w.heap.size + 1, 0, none⟩ = some (.slice la ln lc)) := (hb.cell (p := ⟨w.heap.size + 1, 0, none⟩) (lt_of_cell Y7.out)).trans Y7.out
  have RA8 : Hid (RS w8 aA D.length (fun j => D.getD j 0)) := RA7.out.step hb
  have RW8 : Hid (RS w8 aW D.length (fun j => D.getD j 0)) := RW7.out.step hb
  have x8 := X8.out
  have y8 := Y8.out
  have lx8 := lt_of_cell x8
  have ly8 := lt_of_cell y8
  clear hb B7 X7 Y7 RA7 RW7 x7 y7 lx7 ly7
  clear RA8
  clear RW8
  go_wp2_with fail
  refine (checkT_any ta tn tc t _ (HR.out.step B8.out)).mono ?_
  rintro e w9 ⟨rfl, hb⟩
  have B9 : Hid (Below w.heap.size w w9) := B8.out.trans (hb.mono B8.out.size)
  have X9 : Hid (w9.cell? ⟨w.heap.size, 0, none⟩ = some (.slice ta tn tc)) := (hb.cell (p := ⟨w.heap.size, 0, none⟩) (lt_of_cell X8.out)).trans X8.out
  have Y9 : Hid (w9.cell? ⟨w.heap.size + 1, 0, none⟩ = some (.slice la ln lc)) := (hb.cell (p := ⟨w.heap.size + 1, 0, none⟩) (lt_of_cell Y8.out)).trans Y8.out
  have x9 := X9.out
  have y9 := Y9.out
  have lx9 := lt_of_cell x9
  have ly9 := lt_of_cell y9
  clear hb B8 X8 Y8 x8 y8 lx8 ly8
  rw [HC.out.1]
  go_wp2_with fail
  go_ret
  exact ⟨rfl, B9.out⟩

set_option maxHeartbeats 8000000 in
set_option maxRecDepth 100000 in
theorem ok_long (ta : Option Addr) (tn tc : Nat) (t : Nat → Gt) (p : Nat) (hp : p < 65536) (la : Option Addr) (ln lc : Nat) (f : Nat → Nat) (w : World) (h : RowG w ta tn t) (hl : RS w la ln f) (hf : ∀ j, f j < 65536) (hn : 100 < ln) (hc : chG t tn = 0) :
    Calls Try.prog 3 #[.slice ta tn tc, .int .u16 p, .slice la ln lc] w fun e w' => e = .returned (.bool true) ∧ Below w.heap.size w w' := by
  have HR : Hid (RowG w ta tn t) := h
  have HL : Hid (RS w la ln f) := hl
  have HF : Hid (∀ j, f j < 65536) := hf
  have HP : Hid (p < 65536) := hp
  have B0 : Hid (Below w.heap.size w ((w.alloc (.cells #[.slice ta tn tc] 22)).alloc (.cells #[.slice la ln lc] 24))) := (gbox _ _).alloc (by simp) _
  have X0 : Hid (((w.alloc (.cells #[.slice ta tn tc] 22)).alloc (.cells #[.slice la ln lc] 24)).cell? ⟨w.heap.size, 0, none⟩ = some (.slice ta tn tc)) := ((cells_new w #[.slice ta tn tc] 22).alloc _).cell 0 _ rfl
  have Y0 : Hid (((w.alloc (.cells #[.slice ta tn tc] 22)).alloc (.cells #[.slice la ln lc] 24)).cell? ⟨w.heap.size + 1, 0, none⟩ = some (.slice la ln lc)) := by
    have := (cells_new (w.alloc (.cells #[.slice ta tn tc] 22)) #[.slice la ln lc] 24).cell 0 _ rfl
    rw [show (w.alloc (.cells #[.slice ta tn tc] 22)).heap.size = w.heap.size + 1 by simp] at this
    exact this
  have hmf : ∀ (fn : Fn) (first cap : Array Value) (w : World), (Instr.makeFunc fn first cap).run Try.prog w = .ok (.func fn first cap) w := fun _ _ _ _ => rfl
  have HC : Hid (chG t tn = 0) := hc
  obtain ⟨L, hL⟩ : ∃ L, leastL (faT t tn) = L := ⟨_, rfl⟩
  have HS : Hid (leastL (faT t tn) = L) := hL
  have KL : Hid (L.length ≤ 70) := hL ▸ leastL_len (mono_faT HC.out)
  clear h hl hf hp hc hL
  have HN : Hid (100 < ln) := hn
  have z1 : (100 : Int) < (ln : Int) := by omega
  clear hn
  go_enter Try.func3, Try.ntmps3
  go_wp2_with fail
  refine (treeErr_any ta tn tc t _ (HR.out.step B0.out)).mono ?_
  rintro e w1 ⟨rfl, hb⟩
  have B1 : Hid (Below w.heap.size w w1) := B0.out.trans (hb.mono B0.out.size)
  have X1 : Hid (w1.cell? ⟨w.heap.size, 0, none⟩ = some (.slice ta tn tc)) := (hb.cell (p := ⟨w.heap.size, 0, none⟩) (lt_of_cell X0.out)).trans X0.out
  have Y1 : Hid (w1.cell? ⟨w.heap.size + 1, 0, none⟩ = some (.slice la ln lc)) := (hb.cell (p := ⟨w.heap.size + 1, 0, none⟩) (lt_of_cell Y0.out)).trans Y0.out
  have x1 := X1.out
  have y1 := Y1.out
  have lx1 := lt_of_cell x1
  have ly1 := lt_of_cell y1
  clear hb B0 X0 Y0
  rw [HC.out]
  go_wp2_with fail
  refine (fails_ok ta tn tc p t _ (HR.out.step B1.out) HC.out HP.out).mono ?_
  rintro e w2 ⟨rfl, hb⟩
  have B2 : Hid (Below w.heap.size w w2) := B1.out.trans (hb.mono B1.out.size)
  have X2 : Hid (w2.cell? ⟨w.heap.size, 0, none⟩ = some (.slice ta tn tc)) := (hb.cell (p := ⟨w.heap.size, 0, none⟩) (lt_of_cell X1.out)).trans X1.out
  have Y2 : Hid (w2.cell? ⟨w.heap.size + 1, 0, none⟩ = some (.slice la ln lc)) := (hb.cell (p := ⟨w.heap.size + 1, 0, none⟩) (lt_of_cell Y1.out)).trans Y1.out
  have x2 := X2.out
  have y2 := Y2.out
  have lx2 := lt_of_cell x2
  have ly2 := lt_of_cell y2
  clear hb B1 X1 Y1 x1 y1 lx1 ly1
  obtain ⟨x, hx⟩ : ∃ x, faT t tn p = x := ⟨_, rfl⟩
  have HX : Hid (faT t tn p = x) := hx
  rw [hx]
  clear hx
  go_wp2_with fail
  refine (cuts_ok ta tn tc t _ (HR.out.step B2.out) HC.out).mono ?_
  rintro e w3 ⟨v, rfl, hv⟩
  rw [HS.out] at hv
  obtain ⟨aC, cC, rfl, _, hr, hb⟩ := hv
  have B3 : Hid (Below w.heap.size w w3) := B2.out.trans (hb.mono B2.out.size)
  have X3 : Hid (w3.cell? ⟨w.heap.size, 0, none⟩ = some (.slice ta tn tc)) := (hb.cell (p := ⟨w.heap.size, 0, none⟩) (lt_of_cell X2.out)).trans X2.out
  have Y3 : Hid (w3.cell? ⟨w.heap.size + 1, 0, none⟩ = some (.slice la ln lc)) := (hb.cell (p := ⟨w.heap.size + 1, 0, none⟩) (lt_of_cell Y2.out)).trans Y2.out
  have RC3 : Hid (RS w3 aC L.length (fun j => L.getD j 0)) := hr.rs
  have x3 := X3.out
  have y3 := Y3.out
  have lx3 := lt_of_cell x3
  have ly3 := lt_of_cell y3
  clear hb B2 X2 Y2 x2 y2 lx2 ly2
  clear hr
  go_wp2_with fail
  refine (dual_ok ta tn tc t _ (HR.out.step B3.out) HC.out).mono ?_
  rintro e w4 ⟨bd, u, rfl, hd, hb⟩
  have B4 : Hid (Below w.heap.size w w4) := B3.out.trans (hb.mono B3.out.size)
  have X4 : Hid (w4.cell? ⟨w.heap.size, 0, none⟩ = some (.slice ta tn tc)) := (hb.cell (p := ⟨w.heap.size, 0, none⟩) (lt_of_cell X3.out)).trans X3.out
  have Y4 : Hid (w4.cell? ⟨w.heap.size + 1, 0, none⟩ = some (.slice la ln lc)) := (hb.cell (p := ⟨w.heap.size + 1, 0, none⟩) (lt_of_cell Y3.out)).trans Y3.out
  have RC4 : Hid (RS w4 aC L.length (fun j => L.getD j 0)) := RC3.out.step hb
  have RD4 : Hid (RowD w3.heap.size w4 bd tn t u) := hd
  have x4 := X4.out
  have y4 := Y4.out
  have lx4 := lt_of_cell x4
  have ly4 := lt_of_cell y4
  clear hb B3 X3 Y3 RC3 x3 y3 lx3 ly3
  clear hd
  go_wp2_with fail
  refine (across_large la ln lc _ HN.out).mono ?_
  rintro e w5 ⟨rfl, hb⟩
  have B5 : Hid (Below w.heap.size w w5) := B4.out.trans (hb.mono B4.out.size)
  have X5 : Hid (w5.cell? ⟨w.heap.size, 0, none⟩ = some (.slice ta tn tc)) := (hb.cell (p := ⟨w.heap.size, 0, none⟩) (lt_of_cell X4.out)).trans X4.out
  have Y5 : Hid (w5.cell? ⟨w.heap.size + 1, 0, none⟩ = some (.slice la ln lc)) := (hb.cell (p := ⟨w.heap.size + 1, 0, none⟩) (lt_of_cell Y4.out)).trans Y4.out
  have RC5 : Hid (RS w5 aC L.length (fun j => L.getD j 0)) := RC4.out.step hb
  have RD5 : Hid (RowD w3.heap.size w5 bd tn t u) := RD4.out.step hb
  have x5 := X5.out
  have y5 := Y5.out
  have lx5 := lt_of_cell x5
  have ly5 := lt_of_cell y5
  clear hb B4 X4 Y4 RC4 RD4 x4 y4 lx4 ly4
  go_wp2_with fail
  refine (checkT_any ta tn tc t _ (HR.out.step B5.out)).mono ?_
  rintro e w6 ⟨rfl, hb⟩
  have B6 : Hid (Below w.heap.size w w6) := B5.out.trans (hb.mono B5.out.size)
  have X6 : Hid (w6.cell? ⟨w.heap.size, 0, none⟩ = some (.slice ta tn tc)) := (hb.cell (p := ⟨w.heap.size, 0, none⟩) (lt_of_cell X5.out)).trans X5.out
  have Y6 : Hid (w6.cell? ⟨w.heap.size + 1, 0, none⟩ = some (.slice la ln lc)) := (hb.cell (p := ⟨w.heap.size + 1, 0, none⟩) (lt_of_cell Y5.out)).trans Y5.out
  have RC6 : Hid (RS w6 aC L.length (fun j => L.getD j 0)) := RC5.out.step hb
  have RD6 : Hid (RowD w3.heap.size w6 bd tn t u) := RD5.out.step hb
  have x6 := X6.out
  have y6 := Y6.out
  have lx6 := lt_of_cell x6
  have ly6 := lt_of_cell y6
  clear hb B5 X5 Y5 RC5 RD5 x5 y5 lx5 ly5
  rw [HC.out]
  go_wp2_with fail
  refine (rfails_any ta tn tc p t _ (HR.out.step B6.out) HC.out HP.out).mono ?_
  rintro e w7 ⟨rfl, hb⟩
  have B7 : Hid (Below w.heap.size w w7) := B6.out.trans (hb.mono B6.out.size)
  have X7 : Hid (w7.cell? ⟨w.heap.size, 0, none⟩ = some (.slice ta tn tc)) := (hb.cell (p := ⟨w.heap.size, 0, none⟩) (lt_of_cell X6.out)).trans X6.out
  have Y7 : Hid (w7.cell? ⟨w.heap.size + 1, 0, none⟩ = some (.slice la ln lc)) := (hb.cell (p := ⟨w.heap.size + 1, 0, none⟩) (lt_of_cell Y6.out)).trans Y6.out
  have RC7 : Hid (RS w7 aC L.length (fun j => L.getD j 0)) := RC6.out.step hb
  have RD7 : Hid (RowD w3.heap.size w7 bd tn t u) := RD6.out.step hb
  have x7 := X7.out
  have y7 := Y7.out
  have lx7 := lt_of_cell x7
  have ly7 := lt_of_cell y7
  clear hb B6 X6 Y6 RC6 RD6 x6 y6 lx6 ly6
  rw [HX.out]
  go_wp2_with fail
  refine (cuts_call w.heap.size ta tn tc t _ (HR.out.step B7.out) HC.out X7.out).mono ?_
  rintro e w8 ⟨v, rfl, hv⟩
  rw [HS.out] at hv
  obtain ⟨aW, cW, rfl, _, hr, hb⟩ := hv
  have B8 : Hid (Below w.heap.size w w8) := B7.out.trans (hb.mono B7.out.size)
  have X8 : Hid (w8.cell? ⟨w.heap.size, 0, none⟩ = some (.slice ta tn tc)) := (hb.cell (p := ⟨w.heap.size, 0, none⟩) (lt_of_cell X7.out)).trans X7.out
  have Y8 : Hid (w8.cell? ⟨w.heap.size + 1, 0, none⟩ = some (.slice la ln lc)) := (hb.cell (p := ⟨w.heap.size + 1, 0, none⟩) (lt_of_cell Y7.out)).trans Y7.out
  have RC8 : Hid (RS w8 aC L.length (fun j => L.getD j 0)) := RC7.out.step hb
  have RD8 : Hid (RowD w3.heap.size w8 bd tn t u) := RD7.out.step hb
  have RV8 : Hid (RS w8 aW L.length (fun j => L.getD j 0)) := hr.rs
  have x8 := X8.out
  have y8 := Y8.out
  have lx8 := lt_of_cell x8
  have ly8 := lt_of_cell y8
  clear hb B7 X7 Y7 RC7 RD7 x7 y7 lx7 ly7
  clear hr
  go_wp2_with fail
  refine (same_list L _ aC aW cC cW KL.out RC8.out RV8.out).mono ?_
  rintro e w9 ⟨rfl, hb⟩
  have B9 : Hid (Below w.heap.size w w9) := B8.out.trans (hb.mono B8.out.size)
  have X9 : Hid (w9.cell? ⟨w.heap.size, 0, none⟩ = some (.slice ta tn tc)) := (hb.cell (p := ⟨w.heap.size, 0, none⟩) (lt_of_cell X8.out)).trans X8.out
  have Y9 : Hid (w9.cell? ⟨w.heap.size + 1, 0, none⟩ = some (.slice la ln lc)) := (hb.cell (p := ⟨w.heap.size + 1, 0, none⟩) (lt_of_cell Y8.out)).trans Y8.out
  have RC9 : Hid (RS w9 aC L.length (fun j => L.getD j 0)) := RC8.out.step hb
  have RD9 : Hid (RowD w3.heap.size w9 bd tn t u) := RD8.out.step hb
  have RV9 : Hid (RS w9 aW L.length (fun j => L.getD j 0)) := RV8.out.step hb
  have x9 := X9.out
  have y9 := Y9.out
  have lx9 := lt_of_cell x9
  have ly9 := lt_of_cell y9
  clear hb B8 X8 Y8 RC8 RD8 RV8 x8 y8 lx8 ly8
  clear RC9
  clear RV9
  go_wp2_with fail
  go_loopg [129] (tn + 1) (fun g s wr => ∃ q : Nat, s = .int .i64 q ∧ tn - q < g ∧ q ≤ tn ∧ Hid (Below w.heap.size w wr) ∧ Hid (RowD w3.heap.size wr bd tn t u) ∧ Hid (wr.cell? ⟨w.heap.size, 0, none⟩ = some (.slice ta tn tc)))
  case atStart => exact ⟨0, rfl, by omega, by omega, B9.out, RD9.out, X9.out⟩
  case round =>
    obtain ⟨q, rfl, hg, hq, HW, HD2, HX2⟩ := hrel
    clear B9 RD9 X9 Y9 x9 y9 lx9 ly9 z1
    by_cases hlt : q < tn
    · have y1 : (q : Int) < (tn : Int) := by omega
      have y2 : (q : Int) < 30 := by have := (chG_zero HC.out).2.1; omega
      have HQ : Hid (RowG wr ta tn t) := HR.out.step HW.out
      obtain ⟨b, o, rfl, hb, hcl⟩ := HQ.out.row (by omega)
      obtain ⟨x0, x1, x2⟩ := hcl q hlt
      obtain ⟨d0, d1, d2⟩ := HD2.out.cell q hlt
      have DO := HD2.out.duo.dual q hlt
      have RU : Hid (RIN w3.heap.size wr (u q).a (u q).n (u q).of) := HD2.out.duo.row q hlt
      have RT : Hid (RI wr (t q).a (t q).n (t q).of) := HQ.out.of q hlt
      obtain ⟨g1, g2, g3⟩ := geE_zero ((chG_zero HC.out).2.2 q hlt)
      obtain ⟨e1, e2, e3, e4⟩ := DO
      rw [e1] at d0
      rw [e2] at d1
      have CE : Hid (∀ W, Below wr.heap.size wr W → Calls Try.prog 22 #[.slice (u q).a (t q).n (u q).c, .slice (t q).a (t q).n (t q).c] W fun e w' => e = .returned (.bool true) ∧ ∃ d, w' = W.drewN d) := fun W hW => by
        have h1 := RU.out.ri
        rw [e3] at h1
        have := equalI_core (u q).a (t q).a (t q).n (u q).c (t q).c (u q).of (t q).of W (by omega) (h1.step hW).x (RT.out.step hW).x
        rw [(eqX_iff _ _ _).2 (fun k _ => by rw [e4])] at this
        exact this
      rw [e3] at d2
      have lb := HD2.out.lt
      clear hcl e1 e2 e3 e4 RU RT g3
      generalize (u q).a = ua at *
      generalize (u q).c = uc at *
      generalize t q = G at *
      obtain ⟨gk, gv, ga, gn, gc, gf⟩ := G
      simp only [] at x0 x1 x2 d0 d1 d2 g1 g2 CE
      have y5 : (gn : Int) ≤ 6 := by omega
      rcases formV_kinds g1 with ⟨rfl, a1, a2, -⟩ | ⟨rfl, -⟩ | ⟨rfl, -⟩ | ⟨rfl, a1, a2⟩
      · clear g1
        unfold dK at d0
        unfold dV at d1
        simp only [Int.reduceEq, if_false] at d0 d1
        go_wp2_with fail
        have C1 : Cells ((wr.alloc (.cells #[.int .i64 1, .int .i64 gv, .slice ga gn gc] 41)).alloc (.cells #[.int .i64 1, .int .i64 gv, .slice ga gn gc] 41)) (wr.heap.size + 1) [.int .i64 1, .int .i64 gv, .slice ga gn gc] := by
          have := cells_new (wr.alloc (.cells #[.int .i64 1, .int .i64 gv, .slice ga gn gc] 41)) #[.int .i64 1, .int .i64 gv, .slice ga gn gc] 41
          rw [show (wr.alloc (.cells #[.int .i64 1, .int .i64 gv, .slice ga gn gc] 41)).heap.size = wr.heap.size + 1 by simp] at this
          exact this
        have V1 : Hid (Below wr.heap.size wr ((wr.alloc (.cells #[.int .i64 1, .int .i64 gv, .slice ga gn gc] 41)).alloc (.cells #[.int .i64 1, .int .i64 gv, .slice ga gn gc] 41))) := (gbox _ _).alloc (by simp) _
        obtain ⟨W, hW⟩ : ∃ W, W = (((wr.alloc (.cells #[.int .i64 1, .int .i64 gv, .slice ga gn gc] 41)).alloc (.cells #[.int .i64 1, .int .i64 gv, .slice ga gn gc] 41))) := ⟨_, rfl⟩
        rw [← hW] at C1 V1 ⊢
        have c0 := C1.cell 0 _ rfl
        have c1 := C1.cell 1 _ rfl
        have c2 := C1.cell 2 _ rfl
        have c3 := C1.lt
        have d3 := (V1.out.cell (p := ⟨bd, q * 3, none⟩) lb).trans d0
        have d4 := (V1.out.cell (p := ⟨bd, q * 3 + 1, none⟩) lb).trans d1
        have d5 := (V1.out.cell (p := ⟨bd, q * 3 + 2, none⟩) lb).trans d2
        have d6 : bd < W.heap.size := Nat.lt_of_lt_of_le lb V1.out.size
        have W1 : Hid (Below w.heap.size w W) := HW.out.trans (V1.out.mono HW.out.size)
        have D1 : Hid (RowD w3.heap.size W bd tn t u) := HD2.out.step V1.out
        have X1 : Hid (W.cell? ⟨w.heap.size, 0, none⟩ = some (.slice (some ⟨b, o, none⟩) tn tc)) := (V1.out.cell (p := ⟨w.heap.size, 0, none⟩) (lt_of_cell HX2.out)).trans HX2.out
        have q1 : decide (tn ≤ q) = false := decide_eq_false (by omega)
        have q2 : ∀ z : Int, (z != z) = false := fun z => by simp
        clear hW C1 HX2 HD2 HW d0 d1 d2 x0 x1 x2 HQ hb
        go_big_quiet (first | (go_at_call 22; exact (CE.out _ (gbelow_drew V1.out _)).mono fun _ _ h => ⟨h.1, h.2.elim fun d hd => ⟨_, hd.trans (World.drewN_drewN _ _ _)⟩⟩))
        have W2 : Hid (Below w.heap.size w (W.drewN nq)) := gbelow_drew W1.out nq
        have D2 : Hid (RowD w3.heap.size (W.drewN nq) bd tn t u) := D1.out.step (gbelow_drew (Below.refl _ _) nq)
        have X2 : Hid ((W.drewN nq).cell? ⟨w.heap.size, 0, none⟩ = some (.slice (some ⟨b, o, none⟩) tn tc)) := X1.out
        clear W1 D1 X1 c0 c1 c2 d3 d4 d5
        go_wp2_with fail
        go_roundg (tn - (q + 1) + 1)
        case measure => omega
        case rel => exact ⟨q + 1, by go_num, by omega, by omega, W2.out, D2.out, X2.out⟩
      · clear g1
        unfold dK at d0
        unfold dV at d1
        simp only [if_pos, Int.reduceEq, if_false] at d0 d1
        go_wp2_with fail
        have C1 : Cells ((wr.alloc (.cells #[.int .i64 2, .int .i64 gv, .slice ga gn gc] 41)).alloc (.cells #[.int .i64 3, .int .i64 gv, .slice ga gn gc] 41)) (wr.heap.size + 1) [.int .i64 3, .int .i64 gv, .slice ga gn gc] := by
          have := cells_new (wr.alloc (.cells #[.int .i64 2, .int .i64 gv, .slice ga gn gc] 41)) #[.int .i64 3, .int .i64 gv, .slice ga gn gc] 41
          rw [show (wr.alloc (.cells #[.int .i64 2, .int .i64 gv, .slice ga gn gc] 41)).heap.size = wr.heap.size + 1 by simp] at this
          exact this
        have V1 : Hid (Below wr.heap.size wr ((wr.alloc (.cells #[.int .i64 2, .int .i64 gv, .slice ga gn gc] 41)).alloc (.cells #[.int .i64 3, .int .i64 gv, .slice ga gn gc] 41))) := (gbox _ _).alloc (by simp) _
        obtain ⟨W, hW⟩ : ∃ W, W = (((wr.alloc (.cells #[.int .i64 2, .int .i64 gv, .slice ga gn gc] 41)).alloc (.cells #[.int .i64 3, .int .i64 gv, .slice ga gn gc] 41))) := ⟨_, rfl⟩
        rw [← hW] at C1 V1 ⊢
        have c0 := C1.cell 0 _ rfl
        have c1 := C1.cell 1 _ rfl
        have c2 := C1.cell 2 _ rfl
        have c3 := C1.lt
        have d3 := (V1.out.cell (p := ⟨bd, q * 3, none⟩) lb).trans d0
        have d4 := (V1.out.cell (p := ⟨bd, q * 3 + 1, none⟩) lb).trans d1
        have d5 := (V1.out.cell (p := ⟨bd, q * 3 + 2, none⟩) lb).trans d2
        have d6 : bd < W.heap.size := Nat.lt_of_lt_of_le lb V1.out.size
        have W1 : Hid (Below w.heap.size w W) := HW.out.trans (V1.out.mono HW.out.size)
        have D1 : Hid (RowD w3.heap.size W bd tn t u) := HD2.out.step V1.out
        have X1 : Hid (W.cell? ⟨w.heap.size, 0, none⟩ = some (.slice (some ⟨b, o, none⟩) tn tc)) := (V1.out.cell (p := ⟨w.heap.size, 0, none⟩) (lt_of_cell HX2.out)).trans HX2.out
        have q1 : decide (tn ≤ q) = false := decide_eq_false (by omega)
        have q2 : ∀ z : Int, (z != z) = false := fun z => by simp
        clear hW C1 HX2 HD2 HW d0 d1 d2 x0 x1 x2 HQ hb
        go_big_quiet (first | (go_at_call 22; exact (CE.out _ (gbelow_drew V1.out _)).mono fun _ _ h => ⟨h.1, h.2.elim fun d hd => ⟨_, hd.trans (World.drewN_drewN _ _ _)⟩⟩))
        have W2 : Hid (Below w.heap.size w (W.drewN nq)) := gbelow_drew W1.out nq
        have D2 : Hid (RowD w3.heap.size (W.drewN nq) bd tn t u) := D1.out.step (gbelow_drew (Below.refl _ _) nq)
        have X2 : Hid ((W.drewN nq).cell? ⟨w.heap.size, 0, none⟩ = some (.slice (some ⟨b, o, none⟩) tn tc)) := X1.out
        clear W1 D1 X1 c0 c1 c2 d3 d4 d5
        go_wp2_with fail
        go_roundg (tn - (q + 1) + 1)
        case measure => omega
        case rel => exact ⟨q + 1, by go_num, by omega, by omega, W2.out, D2.out, X2.out⟩
      · clear g1
        unfold dK at d0
        unfold dV at d1
        simp only [if_pos, Int.reduceEq, if_false] at d0 d1
        go_wp2_with fail
        have C1 : Cells ((wr.alloc (.cells #[.int .i64 3, .int .i64 gv, .slice ga gn gc] 41)).alloc (.cells #[.int .i64 2, .int .i64 gv, .slice ga gn gc] 41)) (wr.heap.size + 1) [.int .i64 2, .int .i64 gv, .slice ga gn gc] := by
          have := cells_new (wr.alloc (.cells #[.int .i64 3, .int .i64 gv, .slice ga gn gc] 41)) #[.int .i64 2, .int .i64 gv, .slice ga gn gc] 41
          rw [show (wr.alloc (.cells #[.int .i64 3, .int .i64 gv, .slice ga gn gc] 41)).heap.size = wr.heap.size + 1 by simp] at this
          exact this
        have V1 : Hid (Below wr.heap.size wr ((wr.alloc (.cells #[.int .i64 3, .int .i64 gv, .slice ga gn gc] 41)).alloc (.cells #[.int .i64 2, .int .i64 gv, .slice ga gn gc] 41))) := (gbox _ _).alloc (by simp) _
        obtain ⟨W, hW⟩ : ∃ W, W = (((wr.alloc (.cells #[.int .i64 3, .int .i64 gv, .slice ga gn gc] 41)).alloc (.cells #[.int .i64 2, .int .i64 gv, .slice ga gn gc] 41))) := ⟨_, rfl⟩
        rw [← hW] at C1 V1 ⊢
        have c0 := C1.cell 0 _ rfl
        have c1 := C1.cell 1 _ rfl
        have c2 := C1.cell 2 _ rfl
        have c3 := C1.lt
        have d3 := (V1.out.cell (p := ⟨bd, q * 3, none⟩) lb).trans d0
        have d4 := (V1.out.cell (p := ⟨bd, q * 3 + 1, none⟩) lb).trans d1
        have d5 := (V1.out.cell (p := ⟨bd, q * 3 + 2, none⟩) lb).trans d2
        have d6 : bd < W.heap.size := Nat.lt_of_lt_of_le lb V1.out.size
        have W1 : Hid (Below w.heap.size w W) := HW.out.trans (V1.out.mono HW.out.size)
        have D1 : Hid (RowD w3.heap.size W bd tn t u) := HD2.out.step V1.out
        have X1 : Hid (W.cell? ⟨w.heap.size, 0, none⟩ = some (.slice (some ⟨b, o, none⟩) tn tc)) := (V1.out.cell (p := ⟨w.heap.size, 0, none⟩) (lt_of_cell HX2.out)).trans HX2.out
        have q1 : decide (tn ≤ q) = false := decide_eq_false (by omega)
        have q2 : ∀ z : Int, (z != z) = false := fun z => by simp
        clear hW C1 HX2 HD2 HW d0 d1 d2 x0 x1 x2 HQ hb
        go_big_quiet (first | (go_at_call 22; exact (CE.out _ (gbelow_drew V1.out _)).mono fun _ _ h => ⟨h.1, h.2.elim fun d hd => ⟨_, hd.trans (World.drewN_drewN _ _ _)⟩⟩))
        have W2 : Hid (Below w.heap.size w (W.drewN nq)) := gbelow_drew W1.out nq
        have D2 : Hid (RowD w3.heap.size (W.drewN nq) bd tn t u) := D1.out.step (gbelow_drew (Below.refl _ _) nq)
        have X2 : Hid ((W.drewN nq).cell? ⟨w.heap.size, 0, none⟩ = some (.slice (some ⟨b, o, none⟩) tn tc)) := X1.out
        clear W1 D1 X1 c0 c1 c2 d3 d4 d5
        go_wp2_with fail
        go_roundg (tn - (q + 1) + 1)
        case measure => omega
        case rel => exact ⟨q + 1, by go_num, by omega, by omega, W2.out, D2.out, X2.out⟩
      · clear g1
        unfold dK at d0
        unfold dV at d1
        simp only [if_pos, Int.reduceEq, if_false] at d0 d1
        go_wp2_with fail
        have C1 : Cells ((wr.alloc (.cells #[.int .i64 4, .int .i64 gv, .slice ga gn gc] 41)).alloc (.cells #[.int .i64 4, .int .i64 ((gn : Int) + 1 - gv), .slice ga gn gc] 41)) (wr.heap.size + 1) [.int .i64 4, .int .i64 ((gn : Int) + 1 - gv), .slice ga gn gc] := by
          have := cells_new (wr.alloc (.cells #[.int .i64 4, .int .i64 gv, .slice ga gn gc] 41)) #[.int .i64 4, .int .i64 ((gn : Int) + 1 - gv), .slice ga gn gc] 41
          rw [show (wr.alloc (.cells #[.int .i64 4, .int .i64 gv, .slice ga gn gc] 41)).heap.size = wr.heap.size + 1 by simp] at this
          exact this
        have V1 : Hid (Below wr.heap.size wr ((wr.alloc (.cells #[.int .i64 4, .int .i64 gv, .slice ga gn gc] 41)).alloc (.cells #[.int .i64 4, .int .i64 ((gn : Int) + 1 - gv), .slice ga gn gc] 41))) := (gbox _ _).alloc (by simp) _
        obtain ⟨W, hW⟩ : ∃ W, W = (((wr.alloc (.cells #[.int .i64 4, .int .i64 gv, .slice ga gn gc] 41)).alloc (.cells #[.int .i64 4, .int .i64 ((gn : Int) + 1 - gv), .slice ga gn gc] 41))) := ⟨_, rfl⟩
        rw [← hW] at C1 V1 ⊢
        have c0 := C1.cell 0 _ rfl
        have c1 := C1.cell 1 _ rfl
        have c2 := C1.cell 2 _ rfl
        have c3 := C1.lt
        have d3 := (V1.out.cell (p := ⟨bd, q * 3, none⟩) lb).trans d0
        have d4 := (V1.out.cell (p := ⟨bd, q * 3 + 1, none⟩) lb).trans d1
        have d5 := (V1.out.cell (p := ⟨bd, q * 3 + 2, none⟩) lb).trans d2
        have d6 : bd < W.heap.size := Nat.lt_of_lt_of_le lb V1.out.size
        have W1 : Hid (Below w.heap.size w W) := HW.out.trans (V1.out.mono HW.out.size)
        have D1 : Hid (RowD w3.heap.size W bd tn t u) := HD2.out.step V1.out
        have X1 : Hid (W.cell? ⟨w.heap.size, 0, none⟩ = some (.slice (some ⟨b, o, none⟩) tn tc)) := (V1.out.cell (p := ⟨w.heap.size, 0, none⟩) (lt_of_cell HX2.out)).trans HX2.out
        have q1 : decide (tn ≤ q) = false := decide_eq_false (by omega)
        have q2 : ∀ z : Int, (z != z) = false := fun z => by simp
        clear hW C1 HX2 HD2 HW d0 d1 d2 x0 x1 x2 HQ hb
        go_big_quiet (first | (go_at_call 22; exact (CE.out _ (gbelow_drew V1.out _)).mono fun _ _ h => ⟨h.1, h.2.elim fun d hd => ⟨_, hd.trans (World.drewN_drewN _ _ _)⟩⟩))
        have W2 : Hid (Below w.heap.size w (W.drewN nq)) := gbelow_drew W1.out nq
        have D2 : Hid (RowD w3.heap.size (W.drewN nq) bd tn t u) := D1.out.step (gbelow_drew (Below.refl _ _) nq)
        have X2 : Hid ((W.drewN nq).cell? ⟨w.heap.size, 0, none⟩ = some (.slice (some ⟨b, o, none⟩) tn tc)) := X1.out
        clear W1 D1 X1 c0 c1 c2 d3 d4 d5
        go_wp2_with fail
        go_roundg (tn - (q + 1) + 1)
        case measure => omega
        case rel => exact ⟨q + 1, by go_num, by omega, by omega, W2.out, D2.out, X2.out⟩
    · have y1 : ¬ (q : Int) < (tn : Int) := by omega
      obtain rfl : q = tn := by omega
      have x0 := HX2.out
      have l0 := lt_of_cell x0
      go_wp2_with fail
      go_ret
      exact ⟨rfl, HW.out⟩

set_option maxHeartbeats 8000000 in
set_option maxRecDepth 100000 in
theorem ok_big (ta : Option Addr) (tn tc : Nat) (t : Nat → Gt) (p : Nat) (hp : p < 65536) (la : Option Addr) (ln lc : Nat) (f : Nat → Nat) (w : World) (h : RowG w ta tn t) (hl : RS w la ln f) (hf : ∀ j, f j < 65536) (hn : ¬ 100 < ln) (hE : bigB f ln = true) (hc : chG t tn = 0) :
    Calls Try.prog 3 #[.slice ta tn tc, .int .u16 p, .slice la ln lc] w fun e w' => e = .returned (.bool true) ∧ Below w.heap.size w w' := by
  have HR : Hid (RowG w ta tn t) := h
  have HL : Hid (RS w la ln f) := hl
  have HF : Hid (∀ j, f j < 65536) := hf
  have HP : Hid (p < 65536) := hp
  have B0 : Hid (Below w.heap.size w ((w.alloc (.cells #[.slice ta tn tc] 22)).alloc (.cells #[.slice la ln lc] 24))) := (gbox _ _).alloc (by simp) _
  have X0 : Hid (((w.alloc (.cells #[.slice ta tn tc] 22)).alloc (.cells #[.slice la ln lc] 24)).cell? ⟨w.heap.size, 0, none⟩ = some (.slice ta tn tc)) := ((cells_new w #[.slice ta tn tc] 22).alloc _).cell 0 _ rfl
  have Y0 : Hid (((w.alloc (.cells #[.slice ta tn tc] 22)).alloc (.cells #[.slice la ln lc] 24)).cell? ⟨w.heap.size + 1, 0, none⟩ = some (.slice la ln lc)) := by
    have := (cells_new (w.alloc (.cells #[.slice ta tn tc] 22)) #[.slice la ln lc] 24).cell 0 _ rfl
    rw [show (w.alloc (.cells #[.slice ta tn tc] 22)).heap.size = w.heap.size + 1 by simp] at this
    exact this
  have hmf : ∀ (fn : Fn) (first cap : Array Value) (w : World), (Instr.makeFunc fn first cap).run Try.prog w = .ok (.func fn first cap) w := fun _ _ _ _ => rfl
  have HC : Hid (chG t tn = 0) := hc
  obtain ⟨L, hL⟩ : ∃ L, leastL (faT t tn) = L := ⟨_, rfl⟩
  have HS : Hid (leastL (faT t tn) = L) := hL
  have KL : Hid (L.length ≤ 70) := hL ▸ leastL_len (mono_faT HC.out)
  clear h hl hf hp hc hL
  have HN : Hid (¬ 100 < ln) := hn
  have HB : Hid (bigB f ln = true) := hE
  have z1 : ¬ (100 : Int) < (ln : Int) := by omega
  clear hn hE
  go_enter Try.func3, Try.ntmps3
  go_wp2_with fail
  refine (treeErr_any ta tn tc t _ (HR.out.step B0.out)).mono ?_
  rintro e w1 ⟨rfl, hb⟩
  have B1 : Hid (Below w.heap.size w w1) := B0.out.trans (hb.mono B0.out.size)
  have X1 : Hid (w1.cell? ⟨w.heap.size, 0, none⟩ = some (.slice ta tn tc)) := (hb.cell (p := ⟨w.heap.size, 0, none⟩) (lt_of_cell X0.out)).trans X0.out
  have Y1 : Hid (w1.cell? ⟨w.heap.size + 1, 0, none⟩ = some (.slice la ln lc)) := (hb.cell (p := ⟨w.heap.size + 1, 0, none⟩) (lt_of_cell Y0.out)).trans Y0.out
  have x1 := X1.out
  have y1 := Y1.out
  have lx1 := lt_of_cell x1
  have ly1 := lt_of_cell y1
  clear hb B0 X0 Y0
  rw [HC.out]
  go_wp2_with fail
  refine (fails_ok ta tn tc p t _ (HR.out.step B1.out) HC.out HP.out).mono ?_
  rintro e w2 ⟨rfl, hb⟩
  have B2 : Hid (Below w.heap.size w w2) := B1.out.trans (hb.mono B1.out.size)
  have X2 : Hid (w2.cell? ⟨w.heap.size, 0, none⟩ = some (.slice ta tn tc)) := (hb.cell (p := ⟨w.heap.size, 0, none⟩) (lt_of_cell X1.out)).trans X1.out
  have Y2 : Hid (w2.cell? ⟨w.heap.size + 1, 0, none⟩ = some (.slice la ln lc)) := (hb.cell (p := ⟨w.heap.size + 1, 0, none⟩) (lt_of_cell Y1.out)).trans Y1.out
  have x2 := X2.out
  have y2 := Y2.out
  have lx2 := lt_of_cell x2
  have ly2 := lt_of_cell y2
  clear hb B1 X1 Y1 x1 y1 lx1 ly1
  obtain ⟨x, hx⟩ : ∃ x, faT t tn p = x := ⟨_, rfl⟩
  have HX : Hid (faT t tn p = x) := hx
  rw [hx]
  clear hx
  go_wp2_with fail
  refine (cuts_ok ta tn tc t _ (HR.out.step B2.out) HC.out).mono ?_
  rintro e w3 ⟨v, rfl, hv⟩
  rw [HS.out] at hv
  obtain ⟨aC, cC, rfl, _, hr, hb⟩ := hv
  have B3 : Hid (Below w.heap.size w w3) := B2.out.trans (hb.mono B2.out.size)
  have X3 : Hid (w3.cell? ⟨w.heap.size, 0, none⟩ = some (.slice ta tn tc)) := (hb.cell (p := ⟨w.heap.size, 0, none⟩) (lt_of_cell X2.out)).trans X2.out
  have Y3 : Hid (w3.cell? ⟨w.heap.size + 1, 0, none⟩ = some (.slice la ln lc)) := (hb.cell (p := ⟨w.heap.size + 1, 0, none⟩) (lt_of_cell Y2.out)).trans Y2.out
  have RC3 : Hid (RS w3 aC L.length (fun j => L.getD j 0)) := hr.rs
  have x3 := X3.out
  have y3 := Y3.out
  have lx3 := lt_of_cell x3
  have ly3 := lt_of_cell y3
  clear hb B2 X2 Y2 x2 y2 lx2 ly2
  clear hr
  go_wp2_with fail
  refine (dual_ok ta tn tc t _ (HR.out.step B3.out) HC.out).mono ?_
  rintro e w4 ⟨bd, u, rfl, hd, hb⟩
  have B4 : Hid (Below w.heap.size w w4) := B3.out.trans (hb.mono B3.out.size)
  have X4 : Hid (w4.cell? ⟨w.heap.size, 0, none⟩ = some (.slice ta tn tc)) := (hb.cell (p := ⟨w.heap.size, 0, none⟩) (lt_of_cell X3.out)).trans X3.out
  have Y4 : Hid (w4.cell? ⟨w.heap.size + 1, 0, none⟩ = some (.slice la ln lc)) := (hb.cell (p := ⟨w.heap.size + 1, 0, none⟩) (lt_of_cell Y3.out)).trans Y3.out
  have RC4 : Hid (RS w4 aC L.length (fun j => L.getD j 0)) := RC3.out.step hb
  have RD4 : Hid (RowD w3.heap.size w4 bd tn t u) := hd
  have x4 := X4.out
  have y4 := Y4.out
  have lx4 := lt_of_cell x4
  have ly4 := lt_of_cell y4
  clear hb B3 X3 Y3 RC3 x3 y3 lx3 ly3
  clear hd
  go_wp2_with fail
  refine (across_big la ln lc f _ HN.out (HL.out.step B4.out) HF.out HB.out).mono ?_
  rintro e w5 ⟨rfl, hb⟩
  have B5 : Hid (Below w.heap.size w w5) := B4.out.trans (hb.mono B4.out.size)
  have X5 : Hid (w5.cell? ⟨w.heap.size, 0, none⟩ = some (.slice ta tn tc)) := (hb.cell (p := ⟨w.heap.size, 0, none⟩) (lt_of_cell X4.out)).trans X4.out
  have Y5 : Hid (w5.cell? ⟨w.heap.size + 1, 0, none⟩ = some (.slice la ln lc)) := (hb.cell (p := ⟨w.heap.size + 1, 0, none⟩) (lt_of_cell Y4.out)).trans Y4.out
  have RC5 : Hid (RS w5 aC L.length (fun j => L.getD j 0)) := RC4.out.step hb
  have RD5 : Hid (RowD w3.heap.size w5 bd tn t u) := RD4.out.step hb
  have x5 := X5.out
  have y5 := Y5.out
  have lx5 := lt_of_cell x5
  have ly5 := lt_of_cell y5
  clear hb B4 X4 Y4 RC4 RD4 x4 y4 lx4 ly4
  go_wp2_with fail
  refine (big_call la ln lc f _ HN.out (HL.out.step B5.out) true HB.out).mono ?_
  rintro e w6 ⟨rfl, hb⟩
  have B6 : Hid (Below w.heap.size w w6) := B5.out.trans (hb.mono B5.out.size)
  have X6 : Hid (w6.cell? ⟨w.heap.size, 0, none⟩ = some (.slice ta tn tc)) := (hb.cell (p := ⟨w.heap.size, 0, none⟩) (lt_of_cell X5.out)).trans X5.out
  have Y6 : Hid (w6.cell? ⟨w.heap.size + 1, 0, none⟩ = some (.slice la ln lc)) := (hb.cell (p := ⟨w.heap.size + 1, 0, none⟩) (lt_of_cell Y5.out)).trans Y5.out
  have RC6 : Hid (RS w6 aC L.length (fun j => L.getD j 0)) := RC5.out.step hb
  have RD6 : Hid (RowD w3.heap.size w6 bd tn t u) := RD5.out.step hb
  have x6 := X6.out
  have y6 := Y6.out
  have lx6 := lt_of_cell x6
  have ly6 := lt_of_cell y6
  clear hb B5 X5 Y5 RC5 RD5 x5 y5 lx5 ly5
  go_wp2_with fail
  refine (checkT_any ta tn tc t _ (HR.out.step B6.out)).mono ?_
  rintro e w7 ⟨rfl, hb⟩
  have B7 : Hid (Below w.heap.size w w7) := B6.out.trans (hb.mono B6.out.size)
  have X7 : Hid (w7.cell? ⟨w.heap.size, 0, none⟩ = some (.slice ta tn tc)) := (hb.cell (p := ⟨w.heap.size, 0, none⟩) (lt_of_cell X6.out)).trans X6.out
  have Y7 : Hid (w7.cell? ⟨w.heap.size + 1, 0, none⟩ = some (.slice la ln lc)) := (hb.cell (p := ⟨w.heap.size + 1, 0, none⟩) (lt_of_cell Y6.out)).trans Y6.out
  have RC7 : Hid (RS w7 aC L.length (fun j => L.getD j 0)) := RC6.out.step hb
  have RD7 : Hid (RowD w3.heap.size w7 bd tn t u) := RD6.out.step hb
  have x7 := X7.out
  have y7 := Y7.out
  have lx7 := lt_of_cell x7
  have ly7 := lt_of_cell y7
  clear hb B6 X6 Y6 RC6 RD6 x6 y6 lx6 ly6
  rw [HC.out]
  go_wp2_with fail
  refine (rfails_any ta tn tc p t _ (HR.out.step B7.out) HC.out HP.out).mono ?_
  rintro e w8 ⟨rfl, hb⟩
  have B8 : Hid (Below w.heap.size w w8) := B7.out.trans (hb.mono B7.out.size)
  have X8 : Hid (w8.cell? ⟨w.heap.size, 0, none⟩ = some (.slice ta tn tc)) := (hb.cell (p := ⟨w.heap.size, 0, none⟩) (lt_of_cell X7.out)).trans X7.out
  have Y8 : Hid (w8.cell? ⟨w.heap.size + 1, 0, none⟩ = some (.slice la ln lc)) := (hb.cell (p := ⟨w.heap.size + 1, 0, none⟩) (lt_of_cell Y7.out)).trans Y7.out
  have RC8 : Hid (RS w8 aC L.length (fun j => L.getD j 0)) := RC7.out.step hb
  have RD8 : Hid (RowD w3.heap.size w8 bd tn t u) := RD7.out.step hb
  have x8 := X8.out
  have y8 := Y8.out
  have lx8 := lt_of_cell x8
  have ly8 := lt_of_cell y8
  clear hb B7 X7 Y7 RC7 RD7 x7 y7 lx7 ly7
  rw [HX.out]
  go_wp2_with fail
  refine (cuts_call w.heap.size ta tn tc t _ (HR.out.step B8.out) HC.out X8.out).mono ?_
  rintro e w9 ⟨v, rfl, hv⟩
  rw [HS.out] at hv
  obtain ⟨aW, cW, rfl, _, hr, hb⟩ := hv
  have B9 : Hid (Below w.heap.size w w9) := B8.out.trans (hb.mono B8.out.size)
  have X9 : Hid (w9.cell? ⟨w.heap.size, 0, none⟩ = some (.slice ta tn tc)) := (hb.cell (p := ⟨w.heap.size, 0, none⟩) (lt_of_cell X8.out)).trans X8.out
  have Y9 : Hid (w9.cell? ⟨w.heap.size + 1, 0, none⟩ = some (.slice la ln lc)) := (hb.cell (p := ⟨w.heap.size + 1, 0, none⟩) (lt_of_cell Y8.out)).trans Y8.out
  have RC9 : Hid (RS w9 aC L.length (fun j => L.getD j 0)) := RC8.out.step hb
  have RD9 : Hid (RowD w3.heap.size w9 bd tn t u) := RD8.out.step hb
  have RV9 : Hid (RS w9 aW L.length (fun j => L.getD j 0)) := hr.rs
  have x9 := X9.out
  have y9 := Y9.out
  have lx9 := lt_of_cell x9
  have ly9 := lt_of_cell y9
  clear hb B8 X8 Y8 RC8 RD8 x8 y8 lx8 ly8
  clear hr
  go_wp2_with fail
  refine (same_list L _ aC aW cC cW KL.out RC9.out RV9.out).mono ?_
  rintro e w10 ⟨rfl, hb⟩
  have B10 : Hid (Below w.heap.size w w10) := B9.out.trans (hb.mono B9.out.size)
  have X10 : Hid (w10.cell? ⟨w.heap.size, 0, none⟩ = some (.slice ta tn tc)) := (hb.cell (p := ⟨w.heap.size, 0, none⟩) (lt_of_cell X9.out)).trans X9.out
  have Y10 : Hid (w10.cell? ⟨w.heap.size + 1, 0, none⟩ = some (.slice la ln lc)) := (hb.cell (p := ⟨w.heap.size + 1, 0, none⟩) (lt_of_cell Y9.out)).trans Y9.out
  have RC10 : Hid (RS w10 aC L.length (fun j => L.getD j 0)) := RC9.out.step hb
  have RD10 : Hid (RowD w3.heap.size w10 bd tn t u) := RD9.out.step hb
  have RV10 : Hid (RS w10 aW L.length (fun j => L.getD j 0)) := RV9.out.step hb
  have x10 := X10.out
  have y10 := Y10.out
  have lx10 := lt_of_cell x10
  have ly10 := lt_of_cell y10
  clear hb B9 X9 Y9 RC9 RD9 RV9 x9 y9 lx9 ly9
  clear RC10
  clear RV10
  go_wp2_with fail
  go_loopg [129] (tn + 1) (fun g s wr => ∃ q : Nat, s = .int .i64 q ∧ tn - q < g ∧ q ≤ tn ∧ Hid (Below w.heap.size w wr) ∧ Hid (RowD w3.heap.size wr bd tn t u) ∧ Hid (wr.cell? ⟨w.heap.size, 0, none⟩ = some (.slice ta tn tc)))
  case atStart => exact ⟨0, rfl, by omega, by omega, B10.out, RD10.out, X10.out⟩
  case round =>
    obtain ⟨q, rfl, hg, hq, HW, HD2, HX2⟩ := hrel
    clear B10 RD10 X10 Y10 x10 y10 lx10 ly10 z1
    by_cases hlt : q < tn
    · have y1 : (q : Int) < (tn : Int) := by omega
      have y2 : (q : Int) < 30 := by have := (chG_zero HC.out).2.1; omega
      have HQ : Hid (RowG wr ta tn t) := HR.out.step HW.out
      obtain ⟨b, o, rfl, hb, hcl⟩ := HQ.out.row (by omega)
      obtain ⟨x0, x1, x2⟩ := hcl q hlt
      obtain ⟨d0, d1, d2⟩ := HD2.out.cell q hlt
      have DO := HD2.out.duo.dual q hlt
      have RU : Hid (RIN w3.heap.size wr (u q).a (u q).n (u q).of) := HD2.out.duo.row q hlt
      have RT : Hid (RI wr (t q).a (t q).n (t q).of) := HQ.out.of q hlt
      obtain ⟨g1, g2, g3⟩ := geE_zero ((chG_zero HC.out).2.2 q hlt)
      obtain ⟨e1, e2, e3, e4⟩ := DO
      rw [e1] at d0
      rw [e2] at d1
      have CE : Hid (∀ W, Below wr.heap.size wr W → Calls Try.prog 22 #[.slice (u q).a (t q).n (u q).c, .slice (t q).a (t q).n (t q).c] W fun e w' => e = .returned (.bool true) ∧ ∃ d, w' = W.drewN d) := fun W hW => by
        have h1 := RU.out.ri
        rw [e3] at h1
        have := equalI_core (u q).a (t q).a (t q).n (u q).c (t q).c (u q).of (t q).of W (by omega) (h1.step hW).x (RT.out.step hW).x
        rw [(eqX_iff _ _ _).2 (fun k _ => by rw [e4])] at this
        exact this
      rw [e3] at d2
      have lb := HD2.out.lt
      clear hcl e1 e2 e3 e4 RU RT g3
      generalize (u q).a = ua at *
      generalize (u q).c = uc at *
      generalize t q = G at *
      obtain ⟨gk, gv, ga, gn, gc, gf⟩ := G
      simp only [] at x0 x1 x2 d0 d1 d2 g1 g2 CE
      have y5 : (gn : Int) ≤ 6 := by omega
      rcases formV_kinds g1 with ⟨rfl, a1, a2, -⟩ | ⟨rfl, -⟩ | ⟨rfl, -⟩ | ⟨rfl, a1, a2⟩
      · clear g1
        unfold dK at d0
        unfold dV at d1
        simp only [Int.reduceEq, if_false] at d0 d1
        go_wp2_with fail
        have C1 : Cells ((wr.alloc (.cells #[.int .i64 1, .int .i64 gv, .slice ga gn gc] 41)).alloc (.cells #[.int .i64 1, .int .i64 gv, .slice ga gn gc] 41)) (wr.heap.size + 1) [.int .i64 1, .int .i64 gv, .slice ga gn gc] := by
          have := cells_new (wr.alloc (.cells #[.int .i64 1, .int .i64 gv, .slice ga gn gc] 41)) #[.int .i64 1, .int .i64 gv, .slice ga gn gc] 41
          rw [show (wr.alloc (.cells #[.int .i64 1, .int .i64 gv, .slice ga gn gc] 41)).heap.size = wr.heap.size + 1 by simp] at this
          exact this
        have V1 : Hid (Below wr.heap.size wr ((wr.alloc (.cells #[.int .i64 1, .int .i64 gv, .slice ga gn gc] 41)).alloc (.cells #[.int .i64 1, .int .i64 gv, .slice ga gn gc] 41))) := (gbox _ _).alloc (by simp) _
        obtain ⟨W, hW⟩ : ∃ W, W = (((wr.alloc (.cells #[.int .i64 1, .int .i64 gv, .slice ga gn gc] 41)).alloc (.cells #[.int .i64 1, .int .i64 gv, .slice ga gn gc] 41))) := ⟨_, rfl⟩
        rw [← hW] at C1 V1 ⊢
        have c0 := C1.cell 0 _ rfl
        have c1 := C1.cell 1 _ rfl
        have c2 := C1.cell 2 _ rfl
        have c3 := C1.lt
        have d3 := (V1.out.cell (p := ⟨bd, q * 3, none⟩) lb).trans d0
        have d4 := (V1.out.cell (p := ⟨bd, q * 3 + 1, none⟩) lb).trans d1
        have d5 := (V1.out.cell (p := ⟨bd, q * 3 + 2, none⟩) lb).trans d2
        have d6 : bd < W.heap.size := Nat.lt_of_lt_of_le lb V1.out.size
        have W1 : Hid (Below w.heap.size w W) := HW.out.trans (V1.out.mono HW.out.size)
        have D1 : Hid (RowD w3.heap.size W bd tn t u) := HD2.out.step V1.out
        have X1 : Hid (W.cell? ⟨w.heap.size, 0, none⟩ = some (.slice (some ⟨b, o, none⟩) tn tc)) := (V1.out.cell (p := ⟨w.heap.size, 0, none⟩) (lt_of_cell HX2.out)).trans HX2.out
        have q1 : decide (tn ≤ q) = false := decide_eq_false (by omega)
        have q2 : ∀ z : Int, (z != z) = false := fun z => by simp
        clear hW C1 HX2 HD2 HW d0 d1 d2 x0 x1 x2 HQ hb
        go_big_quiet (first | (go_at_call 22; exact (CE.out _ (gbelow_drew V1.out _)).mono fun _ _ h => ⟨h.1, h.2.elim fun d hd => ⟨_, hd.trans (World.drewN_drewN _ _ _)⟩⟩))
        have W2 : Hid (Below w.heap.size w (W.drewN nq)) := gbelow_drew W1.out nq
        have D2 : Hid (RowD w3.heap.size (W.drewN nq) bd tn t u) := D1.out.step (gbelow_drew (Below.refl _ _) nq)
        have X2 : Hid ((W.drewN nq).cell? ⟨w.heap.size, 0, none⟩ = some (.slice (some ⟨b, o, none⟩) tn tc)) := X1.out
        clear W1 D1 X1 c0 c1 c2 d3 d4 d5
        go_wp2_with fail
        go_roundg (tn - (q + 1) + 1)
        case measure => omega
        case rel => exact ⟨q + 1, by go_num, by omega, by omega, W2.out, D2.out, X2.out⟩
      · clear g1
        unfold dK at d0
        unfold dV at d1
        simp only [if_pos, Int.reduceEq, if_false] at d0 d1
        go_wp2_with fail
        have C1 : Cells ((wr.alloc (.cells #[.int .i64 2, .int .i64 gv, .slice ga gn gc] 41)).alloc (.cells #[.int .i64 3, .int .i64 gv, .slice ga gn gc] 41)) (wr.heap.size + 1) [.int .i64 3, .int .i64 gv, .slice ga gn gc] := by
          have := cells_new (wr.alloc (.cells #[.int .i64 2, .int .i64 gv, .slice ga gn gc] 41)) #[.int .i64 3, .int .i64 gv, .slice ga gn gc] 41
          rw [show (wr.alloc (.cells #[.int .i64 2, .int .i64 gv, .slice ga gn gc] 41)).heap.size = wr.heap.size + 1 by simp] at this
          exact this
        have V1 : Hid (Below wr.heap.size wr ((wr.alloc (.cells #[.int .i64 2, .int .i64 gv, .slice ga gn gc] 41)).alloc (.cells #[.int .i64 3, .int .i64 gv, .slice ga gn gc] 41))) := (gbox _ _).alloc (by simp) _
        obtain ⟨W, hW⟩ : ∃ W, W = (((wr.alloc (.cells #[.int .i64 2, .int .i64 gv, .slice ga gn gc] 41)).alloc (.cells #[.int .i64 3, .int .i64 gv, .slice ga gn gc] 41))) := ⟨_, rfl⟩
        rw [← hW] at C1 V1 ⊢
        have c0 := C1.cell 0 _ rfl
        have c1 := C1.cell 1 _ rfl
        have c2 := C1.cell 2 _ rfl
        have c3 := C1.lt
        have d3 := (V1.out.cell (p := ⟨bd, q * 3, none⟩) lb).trans d0
        have d4 := (V1.out.cell (p := ⟨bd, q * 3 + 1, none⟩) lb).trans d1
        have d5 := (V1.out.cell (p := ⟨bd, q * 3 + 2, none⟩) lb).trans d2
        have d6 : bd < W.heap.size := Nat.lt_of_lt_of_le lb V1.out.size
        have W1 : Hid (Below w.heap.size w W) := HW.out.trans (V1.out.mono HW.out.size)
        have D1 : Hid (RowD w3.heap.size W bd tn t u) := HD2.out.step V1.out
        have X1 : Hid (W.cell? ⟨w.heap.size, 0, none⟩ = some (.slice (some ⟨b, o, none⟩) tn tc)) := (V1.out.cell (p := ⟨w.heap.size, 0, none⟩) (lt_of_cell HX2.out)).trans HX2.out
        have q1 : decide (tn ≤ q) = false := decide_eq_false (by omega)
        have q2 : ∀ z : Int, (z != z) = false := fun z => by simp
        clear hW C1 HX2 HD2 HW d0 d1 d2 x0 x1 x2 HQ hb
        go_big_quiet (first | (go_at_call 22; exact (CE.out _ (gbelow_drew V1.out _)).mono fun _ _ h => ⟨h.1, h.2.elim fun d hd => ⟨_, hd.trans (World.drewN_drewN _ _ _)⟩⟩))
        have W2 : Hid (Below w.heap.size w (W.drewN nq)) := gbelow_drew W1.out nq
        have D2 : Hid (RowD w3.heap.size (W.drewN nq) bd tn t u) := D1.out.step (gbelow_drew (Below.refl _ _) nq)
        have X2 : Hid ((W.drewN nq).cell? ⟨w.heap.size, 0, none⟩ = some (.slice (some ⟨b, o, none⟩) tn tc)) := X1.out
        clear W1 D1 X1 c0 c1 c2 d3 d4 d5
        go_wp2_with fail
        go_roundg (tn - (q + 1) + 1)
        case measure => omega
        case rel => exact ⟨q + 1, by go_num, by omega, by omega, W2.out, D2.out, X2.out⟩
      · clear g1
        unfold dK at d0
        unfold dV at d1
        simp only [if_pos, Int.reduceEq, if_false] at d0 d1
        go_wp2_with fail
        have C1 : Cells ((wr.alloc (.cells #[.int .i64 3, .int .i64 gv, .slice ga gn gc] 41)).alloc (.cells #[.int .i64 2, .int .i64 gv, .slice ga gn gc] 41)) (wr.heap.size + 1) [.int .i64 2, .int .i64 gv, .slice ga gn gc] := by
          have := cells_new (wr.alloc (.cells #[.int .i64 3, .int .i64 gv, .slice ga gn gc] 41)) #[.int .i64 2, .int .i64 gv, .slice ga gn gc] 41
          rw [show (wr.alloc (.cells #[.int .i64 3, .int .i64 gv, .slice ga gn gc] 41)).heap.size = wr.heap.size + 1 by simp] at this
          exact this
        have V1 : Hid (Below wr.heap.size wr ((wr.alloc (.cells #[.int .i64 3, .int .i64 gv, .slice ga gn gc] 41)).alloc (.cells #[.int .i64 2, .int .i64 gv, .slice ga gn gc] 41))) := (gbox _ _).alloc (by simp) _
        obtain ⟨W, hW⟩ : ∃ W, W = (((wr.alloc (.cells #[.int .i64 3, .int .i64 gv, .slice ga gn gc] 41)).alloc (.cells #[.int .i64 2, .int .i64 gv, .slice ga gn gc] 41))) := ⟨_, rfl⟩
        rw [← hW] at C1 V1 ⊢
        have c0 := C1.cell 0 _ rfl
        have c1 := C1.cell 1 _ rfl
        have c2 := C1.cell 2 _ rfl
        have c3 := C1.lt
        have d3 := (V1.out.cell (p := ⟨bd, q * 3, none⟩) lb).trans d0
        have d4 := (V1.out.cell (p := ⟨bd, q * 3 + 1, none⟩) lb).trans d1
        have d5 := (V1.out.cell (p := ⟨bd, q * 3 + 2, none⟩) lb).trans d2
        have d6 : bd < W.heap.size := Nat.lt_of_lt_of_le lb V1.out.size
        have W1 : Hid (Below w.heap.size w W) := HW.out.trans (V1.out.mono HW.out.size)
        have D1 : Hid (RowD w3.heap.size W bd tn t u) := HD2.out.step V1.out
        have X1 : Hid (W.cell? ⟨w.heap.size, 0, none⟩ = some (.slice (some ⟨b, o, none⟩) tn tc)) := (V1.out.cell (p := ⟨w.heap.size, 0, none⟩) (lt_of_cell HX2.out)).trans HX2.out
        have q1 : decide (tn ≤ q) = false := decide_eq_false (by omega)
        have q2 : ∀ z : Int, (z != z) = false := fun z => by simp
        clear hW C1 HX2 HD2 HW d0 d1 d2 x0 x1 x2 HQ hb
        go_big_quiet (first | (go_at_call 22; exact (CE.out _ (gbelow_drew V1.out _)).mono fun _ _ h => ⟨h.1, h.2.elim fun d hd => ⟨_, hd.trans (World.drewN_drewN _ _ _)⟩⟩))
        have W2 : Hid (Below w.heap.size w (W.drewN nq)) := gbelow_drew W1.out nq
        have D2 : Hid (RowD w3.heap.size (W.drewN nq) bd tn t u) := D1.out.step (gbelow_drew (Below.refl _ _) nq)
        have X2 : Hid ((W.drewN nq).cell? ⟨w.heap.size, 0, none⟩ = some (.slice (some ⟨b, o, none⟩) tn tc)) := X1.out
        clear W1 D1 X1 c0 c1 c2 d3 d4 d5
        go_wp2_with fail
        go_roundg (tn - (q + 1) + 1)
        case measure => omega
        case rel => exact ⟨q + 1, by go_num, by omega, by omega, W2.out, D2.out, X2.out⟩
      · clear g1
        unfold dK at d0
        unfold dV at d1
        simp only [if_pos, Int.reduceEq, if_false] at d0 d1
        go_wp2_with fail
        have C1 : Cells ((wr.alloc (.cells #[.int .i64 4, .int .i64 gv, .slice ga gn gc] 41)).alloc (.cells #[.int .i64 4, .int .i64 ((gn : Int) + 1 - gv), .slice ga gn gc] 41)) (wr.heap.size + 1) [.int .i64 4, .int .i64 ((gn : Int) + 1 - gv), .slice ga gn gc] := by
          have := cells_new (wr.alloc (.cells #[.int .i64 4, .int .i64 gv, .slice ga gn gc] 41)) #[.int .i64 4, .int .i64 ((gn : Int) + 1 - gv), .slice ga gn gc] 41
          rw [show (wr.alloc (.cells #[.int .i64 4, .int .i64 gv, .slice ga gn gc] 41)).heap.size = wr.heap.size + 1 by simp] at this
          exact this
        have V1 : Hid (Below wr.heap.size wr ((wr.alloc (.cells #[.int .i64 4, .int .i64 gv, .slice ga gn gc] 41)).alloc (.cells #[.int .i64 4, .int .i64 ((gn : Int) + 1 - gv), .slice ga gn gc] 41))) := (gbox _ _).alloc (by simp) _
        obtain ⟨W, hW⟩ : ∃ W, W = (((wr.alloc (.cells #[.int .i64 4, .int .i64 gv, .slice ga gn gc] 41)).alloc (.cells #[.int .i64 4, .int .i64 ((gn : Int) + 1 - gv), .slice ga gn gc] 41))) := ⟨_, rfl⟩
        rw [← hW] at C1 V1 ⊢
        have c0 := C1.cell 0 _ rfl
        have c1 := C1.cell 1 _ rfl
        have c2 := C1.cell 2 _ rfl
        have c3 := C1.lt
        have d3 := (V1.out.cell (p := ⟨bd, q * 3, none⟩) lb).trans d0
        have d4 := (V1.out.cell (p := ⟨bd, q * 3 + 1, none⟩) lb).trans d1
        have d5 := (V1.out.cell (p := ⟨bd, q * 3 + 2, none⟩) lb).trans d2
        have d6 : bd < W.heap.size := Nat.lt_of_lt_of_le lb V1.out.size
        have W1 : Hid (Below w.heap.size w W) := HW.out.trans (V1.out.mono HW.out.size)
        have D1 : Hid (RowD w3.heap.size W bd tn t u) := HD2.out.step V1.out
        have X1 : Hid (W.cell? ⟨w.heap.size, 0, none⟩ = some (.slice (some ⟨b, o, none⟩) tn tc)) := (V1.out.cell (p := ⟨w.heap.size, 0, none⟩) (lt_of_cell HX2.out)).trans HX2.out
        have q1 : decide (tn ≤ q) = false := decide_eq_false (by omega)
        have q2 : ∀ z : Int, (z != z) = false := fun z => by simp
        clear hW C1 HX2 HD2 HW d0 d1 d2 x0 x1 x2 HQ hb
        go_big_quiet (first | (go_at_call 22; exact (CE.out _ (gbelow_drew V1.out _)).mono fun _ _ h => ⟨h.1, h.2.elim fun d hd => ⟨_, hd.trans (World.drewN_drewN _ _ _)⟩⟩))
        have W2 : Hid (Below w.heap.size w (W.drewN nq)) := gbelow_drew W1.out nq
        have D2 : Hid (RowD w3.heap.size (W.drewN nq) bd tn t u) := D1.out.step (gbelow_drew (Below.refl _ _) nq)
        have X2 : Hid ((W.drewN nq).cell? ⟨w.heap.size, 0, none⟩ = some (.slice (some ⟨b, o, none⟩) tn tc)) := X1.out
        clear W1 D1 X1 c0 c1 c2 d3 d4 d5
        go_wp2_with fail
        go_roundg (tn - (q + 1) + 1)
        case measure => omega
        case rel => exact ⟨q + 1, by go_num, by omega, by omega, W2.out, D2.out, X2.out⟩
    · have y1 : ¬ (q : Int) < (tn : Int) := by omega
      obtain rfl : q = tn := by omega
      have x0 := HX2.out
      have l0 := lt_of_cell x0
      go_wp2_with fail
      go_ret
      exact ⟨rfl, HW.out⟩

set_option maxHeartbeats 8000000 in
set_option maxRecDepth 100000 in
theorem ok_good (ta : Option Addr) (tn tc : Nat) (t : Nat → Gt) (p : Nat) (hp : p < 65536) (la : Option Addr) (ln lc : Nat) (f : Nat → Nat) (w : World) (h : RowG w ta tn t) (hl : RS w la ln f) (hf : ∀ j, f j < 65536) (hn : ¬ 100 < ln) (hE : bigB f ln = false) (hc : chG t tn = 0) :
    Calls Try.prog 3 #[.slice ta tn tc, .int .u16 p, .slice la ln lc] w fun e w' => e = .returned (.bool true) ∧ Below w.heap.size w w' := by
  have HR : Hid (RowG w ta tn t) := h
  have HL : Hid (RS w la ln f) := hl
  have HF : Hid (∀ j, f j < 65536) := hf
  have HP : Hid (p < 65536) := hp
  have B0 : Hid (Below w.heap.size w ((w.alloc (.cells #[.slice ta tn tc] 22)).alloc (.cells #[.slice la ln lc] 24))) := (gbox _ _).alloc (by simp) _
  have X0 : Hid (((w.alloc (.cells #[.slice ta tn tc] 22)).alloc (.cells #[.slice la ln lc] 24)).cell? ⟨w.heap.size, 0, none⟩ = some (.slice ta tn tc)) := ((cells_new w #[.slice ta tn tc] 22).alloc _).cell 0 _ rfl
  have Y0 : Hid (((w.alloc (.cells #[.slice ta tn tc] 22)).alloc (.cells #[.slice la ln lc] 24)).cell? ⟨w.heap.size + 1, 0, none⟩ = some (.slice la ln lc)) := by
    have := (cells_new (w.alloc (.cells #[.slice ta tn tc] 22)) #[.slice la ln lc] 24).cell 0 _ rfl
    rw [show (w.alloc (.cells #[.slice ta tn tc] 22)).heap.size = w.heap.size + 1 by simp] at this
    exact this
  have hmf : ∀ (fn : Fn) (first cap : Array Value) (w : World), (Instr.makeFunc fn first cap).run Try.prog w = .ok (.func fn first cap) w := fun _ _ _ _ => rfl
  have HC : Hid (chG t tn = 0) := hc
  obtain ⟨L, hL⟩ : ∃ L, leastL (faT t tn) = L := ⟨_, rfl⟩
  have HS : Hid (leastL (faT t tn) = L) := hL
  have KL : Hid (L.length ≤ 70) := hL ▸ leastL_len (mono_faT HC.out)
  clear h hl hf hp hc hL
  have HN : Hid (¬ 100 < ln) := hn
  have HB : Hid (bigB f ln = false) := hE
  have z1 : ¬ (100 : Int) < (ln : Int) := by omega
  obtain ⟨D, hD⟩ : ∃ D, (leastL fun s => mtB f s ln) = D := ⟨_, rfl⟩
  have HD : Hid ((leastL fun s => mtB f s ln) = D) := hD
  have KD : Hid (D.length ≤ 70) := hD ▸ leastL_len (mtB_mono f ln)
  clear hD
  clear hn hE
  go_enter Try.func3, Try.ntmps3
  go_wp2_with fail
  refine (treeErr_any ta tn tc t _ (HR.out.step B0.out)).mono ?_
  rintro e w1 ⟨rfl, hb⟩
  have B1 : Hid (Below w.heap.size w w1) := B0.out.trans (hb.mono B0.out.size)
  have X1 : Hid (w1.cell? ⟨w.heap.size, 0, none⟩ = some (.slice ta tn tc)) := (hb.cell (p := ⟨w.heap.size, 0, none⟩) (lt_of_cell X0.out)).trans X0.out
  have Y1 : Hid (w1.cell? ⟨w.heap.size + 1, 0, none⟩ = some (.slice la ln lc)) := (hb.cell (p := ⟨w.heap.size + 1, 0, none⟩) (lt_of_cell Y0.out)).trans Y0.out
  have x1 := X1.out
  have y1 := Y1.out
  have lx1 := lt_of_cell x1
  have ly1 := lt_of_cell y1
  clear hb B0 X0 Y0
  rw [HC.out]
  go_wp2_with fail
  refine (fails_ok ta tn tc p t _ (HR.out.step B1.out) HC.out HP.out).mono ?_
  rintro e w2 ⟨rfl, hb⟩
  have B2 : Hid (Below w.heap.size w w2) := B1.out.trans (hb.mono B1.out.size)
  have X2 : Hid (w2.cell? ⟨w.heap.size, 0, none⟩ = some (.slice ta tn tc)) := (hb.cell (p := ⟨w.heap.size, 0, none⟩) (lt_of_cell X1.out)).trans X1.out
  have Y2 : Hid (w2.cell? ⟨w.heap.size + 1, 0, none⟩ = some (.slice la ln lc)) := (hb.cell (p := ⟨w.heap.size + 1, 0, none⟩) (lt_of_cell Y1.out)).trans Y1.out
  have x2 := X2.out
  have y2 := Y2.out
  have lx2 := lt_of_cell x2
  have ly2 := lt_of_cell y2
  clear hb B1 X1 Y1 x1 y1 lx1 ly1
  obtain ⟨x, hx⟩ : ∃ x, faT t tn p = x := ⟨_, rfl⟩
  have HX : Hid (faT t tn p = x) := hx
  rw [hx]
  clear hx
  go_wp2_with fail
  refine (cuts_ok ta tn tc t _ (HR.out.step B2.out) HC.out).mono ?_
  rintro e w3 ⟨v, rfl, hv⟩
  rw [HS.out] at hv
  obtain ⟨aC, cC, rfl, _, hr, hb⟩ := hv
  have B3 : Hid (Below w.heap.size w w3) := B2.out.trans (hb.mono B2.out.size)
  have X3 : Hid (w3.cell? ⟨w.heap.size, 0, none⟩ = some (.slice ta tn tc)) := (hb.cell (p := ⟨w.heap.size, 0, none⟩) (lt_of_cell X2.out)).trans X2.out
  have Y3 : Hid (w3.cell? ⟨w.heap.size + 1, 0, none⟩ = some (.slice la ln lc)) := (hb.cell (p := ⟨w.heap.size + 1, 0, none⟩) (lt_of_cell Y2.out)).trans Y2.out
  have RC3 : Hid (RS w3 aC L.length (fun j => L.getD j 0)) := hr.rs
  have x3 := X3.out
  have y3 := Y3.out
  have lx3 := lt_of_cell x3
  have ly3 := lt_of_cell y3
  clear hb B2 X2 Y2 x2 y2 lx2 ly2
  clear hr
  go_wp2_with fail
  refine (dual_ok ta tn tc t _ (HR.out.step B3.out) HC.out).mono ?_
  rintro e w4 ⟨bd, u, rfl, hd, hb⟩
  have B4 : Hid (Below w.heap.size w w4) := B3.out.trans (hb.mono B3.out.size)
  have X4 : Hid (w4.cell? ⟨w.heap.size, 0, none⟩ = some (.slice ta tn tc)) := (hb.cell (p := ⟨w.heap.size, 0, none⟩) (lt_of_cell X3.out)).trans X3.out
  have Y4 : Hid (w4.cell? ⟨w.heap.size + 1, 0, none⟩ = some (.slice la ln lc)) := (hb.cell (p := ⟨w.heap.size + 1, 0, none⟩) (lt_of_cell Y3.out)).trans Y3.out
  have RC4 : Hid (RS w4 aC L.length (fun j => L.getD j 0)) := RC3.out.step hb
  have RD4 : Hid (RowD w3.heap.size w4 bd tn t u) := hd
  have x4 := X4.out
  have y4 := Y4.out
  have lx4 := lt_of_cell x4
  have ly4 := lt_of_cell y4
  clear hb B3 X3 Y3 RC3 x3 y3 lx3 ly3
  clear hd
  go_wp2_with fail
  refine (across_good la ln lc f _ HN.out (HL.out.step B4.out) HF.out HB.out).mono ?_
  rintro e w5 ⟨v, rfl, hv⟩
  rw [HD.out] at hv
  obtain ⟨aA, cA, rfl, _, hr, hb⟩ := hv
  have B5 : Hid (Below w.heap.size w w5) := B4.out.trans (hb.mono B4.out.size)
  have X5 : Hid (w5.cell? ⟨w.heap.size, 0, none⟩ = some (.slice ta tn tc)) := (hb.cell (p := ⟨w.heap.size, 0, none⟩) (lt_of_cell X4.out)).trans X4.out
  have Y5 : Hid (w5.cell? ⟨w.heap.size + 1, 0, none⟩ = some (.slice la ln lc)) := (hb.cell (p := ⟨w.heap.size + 1, 0, none⟩) (lt_of_cell Y4.out)).trans Y4.out
  have RC5 : Hid (RS w5 aC L.length (fun j => L.getD j 0)) := RC4.out.step hb
  have RD5 : Hid (RowD w3.heap.size w5 bd tn t u) := RD4.out.step hb
  have RA5 : Hid (RS w5 aA D.length (fun j => D.getD j 0)) := hr.rs
  have x5 := X5.out
  have y5 := Y5.out
  have lx5 := lt_of_cell x5
  have ly5 := lt_of_cell y5
  clear hb B4 X4 Y4 RC4 RD4 x4 y4 lx4 ly4
  clear hr
  go_wp2_with fail
  refine (big_call la ln lc f _ HN.out (HL.out.step B5.out) false HB.out).mono ?_
  rintro e w6 ⟨rfl, hb⟩
  have B6 : Hid (Below w.heap.size w w6) := B5.out.trans (hb.mono B5.out.size)
  have X6 : Hid (w6.cell? ⟨w.heap.size, 0, none⟩ = some (.slice ta tn tc)) := (hb.cell (p := ⟨w.heap.size, 0, none⟩) (lt_of_cell X5.out)).trans X5.out
  have Y6 : Hid (w6.cell? ⟨w.heap.size + 1, 0, none⟩ = some (.slice la ln lc)) := (hb.cell (p := ⟨w.heap.size + 1, 0, none⟩) (lt_of_cell Y5.out)).trans Y5.out
  have RC6 : Hid (RS w6 aC L.length (fun j => L.getD j 0)) := RC5.out.step hb
  have RD6 : Hid (RowD w3.heap.size w6 bd tn t u) := RD5.out.step hb
  have RA6 : Hid (RS w6 aA D.length (fun j => D.getD j 0)) := RA5.out.step hb
  have x6 := X6.out
  have y6 := Y6.out
  have lx6 := lt_of_cell x6
  have ly6 := lt_of_cell y6
  clear hb B5 X5 Y5 RC5 RD5 RA5 x5 y5 lx5 ly5
  go_wp2_with fail
  refine (want_call (w.heap.size + 1) la ln lc f _ HN.out (HL.out.step B6.out) HF.out Y6.out).mono ?_
  rintro e w7 ⟨v, rfl, hv⟩
  rw [HD.out] at hv
  obtain ⟨aW, cW, rfl, _, hr, hb⟩ := hv
  have B7 : Hid (Below w.heap.size w w7) := B6.out.trans (hb.mono B6.out.size)
  have X7 : Hid (w7.cell? ⟨w.heap.size, 0, none⟩ = some (.slice ta tn tc)) := (hb.cell (p := ⟨w.heap.size, 0, none⟩) (lt_of_cell X6.out)).trans X6.out
  have Y7 : Hid (w7.cell? ⟨w.heap.size + 1, 0, none⟩ = some (.slice la ln lc)) := (hb.cell (p := ⟨w.heap.size + 1, 0, none⟩) (lt_of_cell Y6.out)).trans Y6.out
  have RC7 : Hid (RS w7 aC L.length (fun j => L.getD j 0)) := RC6.out.step hb
  have RD7 : Hid (RowD w3.heap.size w7 bd tn t u) := RD6.out.step hb
  have RA7 : Hid (RS w7 aA D.length (fun j => D.getD j 0)) := RA6.out.step hb
  have RW7 : Hid (RS w7 aW D.length (fun j => D.getD j 0)) := hr.rs
  have x7 := X7.out
  have y7 := Y7.out
  have lx7 := lt_of_cell x7
  have ly7 := lt_of_cell y7
  clear hb B6 X6 Y6 RC6 RD6 RA6 x6 y6 lx6 ly6
  clear hr
  go_wp2_with fail
  refine (same_list D _ aA aW cA cW KD.out RA7.out RW7.out).mono ?_
  rintro e w8 ⟨rfl, hb⟩
  have B8 : Hid (Below w.heap.size w w8) := B7.out.trans (hb.mono B7.out.size)
  have X8 : Hid (w8.cell? ⟨w.heap.size, 0, none⟩ = some (.slice ta tn tc)) := (hb.cell (p := ⟨w.heap.size, 0, none⟩) (lt_of_cell X7.out)).trans X7.out
  have Y8 : Hid (w8.cell? ⟨w.heap.size + 1, 0, none⟩ = some (.slice la ln lc)) := (hb.cell (p := ⟨w.heap.size + 1, 0, none⟩) (lt_of_cell Y7.out)).trans Y7.out
  have RC8 : Hid (RS w8 aC L.length (fun j => L.getD j 0)) := RC7.out.step hb
  have RD8 : Hid (RowD w3.heap.size w8 bd tn t u) := RD7.out.step hb
  have RA8 : Hid (RS w8 aA D.length (fun j => D.getD j 0)) := RA7.out.step hb
  have RW8 : Hid (RS w8 aW D.length (fun j => D.getD j 0)) := RW7.out.step hb
  have x8 := X8.out
  have y8 := Y8.out
  have lx8 := lt_of_cell x8
  have ly8 := lt_of_cell y8
  clear hb B7 X7 Y7 RC7 RD7 RA7 RW7 x7 y7 lx7 ly7
  clear RA8
  clear RW8
  go_wp2_with fail
  refine (checkT_any ta tn tc t _ (HR.out.step B8.out)).mono ?_
  rintro e w9 ⟨rfl, hb⟩
  have B9 : Hid (Below w.heap.size w w9) := B8.out.trans (hb.mono B8.out.size)
  have X9 : Hid (w9.cell? ⟨w.heap.size, 0, none⟩ = some (.slice ta tn tc)) := (hb.cell (p := ⟨w.heap.size, 0, none⟩) (lt_of_cell X8.out)).trans X8.out
  have Y9 : Hid (w9.cell? ⟨w.heap.size + 1, 0, none⟩ = some (.slice la ln lc)) := (hb.cell (p := ⟨w.heap.size + 1, 0, none⟩) (lt_of_cell Y8.out)).trans Y8.out
  have RC9 : Hid (RS w9 aC L.length (fun j => L.getD j 0)) := RC8.out.step hb
  have RD9 : Hid (RowD w3.heap.size w9 bd tn t u) := RD8.out.step hb
  have x9 := X9.out
  have y9 := Y9.out
  have lx9 := lt_of_cell x9
  have ly9 := lt_of_cell y9
  clear hb B8 X8 Y8 RC8 RD8 x8 y8 lx8 ly8
  rw [HC.out]
  go_wp2_with fail
  refine (rfails_any ta tn tc p t _ (HR.out.step B9.out) HC.out HP.out).mono ?_
  rintro e w10 ⟨rfl, hb⟩
  have B10 : Hid (Below w.heap.size w w10) := B9.out.trans (hb.mono B9.out.size)
  have X10 : Hid (w10.cell? ⟨w.heap.size, 0, none⟩ = some (.slice ta tn tc)) := (hb.cell (p := ⟨w.heap.size, 0, none⟩) (lt_of_cell X9.out)).trans X9.out
  have Y10 : Hid (w10.cell? ⟨w.heap.size + 1, 0, none⟩ = some (.slice la ln lc)) := (hb.cell (p := ⟨w.heap.size + 1, 0, none⟩) (lt_of_cell Y9.out)).trans Y9.out
  have RC10 : Hid (RS w10 aC L.length (fun j => L.getD j 0)) := RC9.out.step hb
  have RD10 : Hid (RowD w3.heap.size w10 bd tn t u) := RD9.out.step hb
  have x10 := X10.out
  have y10 := Y10.out
  have lx10 := lt_of_cell x10
  have ly10 := lt_of_cell y10
  clear hb B9 X9 Y9 RC9 RD9 x9 y9 lx9 ly9
  rw [HX.out]
  go_wp2_with fail
  refine (cuts_call w.heap.size ta tn tc t _ (HR.out.step B10.out) HC.out X10.out).mono ?_
  rintro e w11 ⟨v, rfl, hv⟩
  rw [HS.out] at hv
  obtain ⟨aW, cW, rfl, _, hr, hb⟩ := hv
  have B11 : Hid (Below w.heap.size w w11) := B10.out.trans (hb.mono B10.out.size)
  have X11 : Hid (w11.cell? ⟨w.heap.size, 0, none⟩ = some (.slice ta tn tc)) := (hb.cell (p := ⟨w.heap.size, 0, none⟩) (lt_of_cell X10.out)).trans X10.out
  have Y11 : Hid (w11.cell? ⟨w.heap.size + 1, 0, none⟩ = some (.slice la ln lc)) := (hb.cell (p := ⟨w.heap.size + 1, 0, none⟩) (lt_of_cell Y10.out)).trans Y10.out
  have RC11 : Hid (RS w11 aC L.length (fun j => L.getD j 0)) := RC10.out.step hb
  have RD11 : Hid (RowD w3.heap.size w11 bd tn t u) := RD10.out.step hb
  have RV11 : Hid (RS w11 aW L.length (fun j => L.getD j 0)) := hr.rs
  have x11 := X11.out
  have y11 := Y11.out
  have lx11 := lt_of_cell x11
  have ly11 := lt_of_cell y11
  clear hb B10 X10 Y10 RC10 RD10 x10 y10 lx10 ly10
  clear hr
  go_wp2_with fail
  refine (same_list L _ aC aW cC cW KL.out RC11.out RV11.out).mono ?_
  rintro e w12 ⟨rfl, hb⟩
  have B12 : Hid (Below w.heap.size w w12) := B11.out.trans (hb.mono B11.out.size)
  have X12 : Hid (w12.cell? ⟨w.heap.size, 0, none⟩ = some (.slice ta tn tc)) := (hb.cell (p := ⟨w.heap.size, 0, none⟩) (lt_of_cell X11.out)).trans X11.out
  have Y12 : Hid (w12.cell? ⟨w.heap.size + 1, 0, none⟩ = some (.slice la ln lc)) := (hb.cell (p := ⟨w.heap.size + 1, 0, none⟩) (lt_of_cell Y11.out)).trans Y11.out
  have RC12 : Hid (RS w12 aC L.length (fun j => L.getD j 0)) := RC11.out.step hb
  have RD12 : Hid (RowD w3.heap.size w12 bd tn t u) := RD11.out.step hb
  have RV12 : Hid (RS w12 aW L.length (fun j => L.getD j 0)) := RV11.out.step hb
  have x12 := X12.out
  have y12 := Y12.out
  have lx12 := lt_of_cell x12
  have ly12 := lt_of_cell y12
  clear hb B11 X11 Y11 RC11 RD11 RV11 x11 y11 lx11 ly11
  clear RC12
  clear RV12
  go_wp2_with fail
  go_loopg [129] (tn + 1) (fun g s wr => ∃ q : Nat, s = .int .i64 q ∧ tn - q < g ∧ q ≤ tn ∧ Hid (Below w.heap.size w wr) ∧ Hid (RowD w3.heap.size wr bd tn t u) ∧ Hid (wr.cell? ⟨w.heap.size, 0, none⟩ = some (.slice ta tn tc)))
  case atStart => exact ⟨0, rfl, by omega, by omega, B12.out, RD12.out, X12.out⟩
  case round =>
    obtain ⟨q, rfl, hg, hq, HW, HD2, HX2⟩ := hrel
    clear B12 RD12 X12 Y12 x12 y12 lx12 ly12 z1
    by_cases hlt : q < tn
    · have y1 : (q : Int) < (tn : Int) := by omega
      have y2 : (q : Int) < 30 := by have := (chG_zero HC.out).2.1; omega
      have HQ : Hid (RowG wr ta tn t) := HR.out.step HW.out
      obtain ⟨b, o, rfl, hb, hcl⟩ := HQ.out.row (by omega)
      obtain ⟨x0, x1, x2⟩ := hcl q hlt
      obtain ⟨d0, d1, d2⟩ := HD2.out.cell q hlt
      have DO := HD2.out.duo.dual q hlt
      have RU : Hid (RIN w3.heap.size wr (u q).a (u q).n (u q).of) := HD2.out.duo.row q hlt
      have RT : Hid (RI wr (t q).a (t q).n (t q).of) := HQ.out.of q hlt
      obtain ⟨g1, g2, g3⟩ := geE_zero ((chG_zero HC.out).2.2 q hlt)
      obtain ⟨e1, e2, e3, e4⟩ := DO
      rw [e1] at d0
      rw [e2] at d1
      have CE : Hid (∀ W, Below wr.heap.size wr W → Calls Try.prog 22 #[.slice (u q).a (t q).n (u q).c, .slice (t q).a (t q).n (t q).c] W fun e w' => e = .returned (.bool true) ∧ ∃ d, w' = W.drewN d) := fun W hW => by
        have h1 := RU.out.ri
        rw [e3] at h1
        have := equalI_core (u q).a (t q).a (t q).n (u q).c (t q).c (u q).of (t q).of W (by omega) (h1.step hW).x (RT.out.step hW).x
        rw [(eqX_iff _ _ _).2 (fun k _ => by rw [e4])] at this
        exact this
      rw [e3] at d2
      have lb := HD2.out.lt
      clear hcl e1 e2 e3 e4 RU RT g3
      generalize (u q).a = ua at *
      generalize (u q).c = uc at *
      generalize t q = G at *
      obtain ⟨gk, gv, ga, gn, gc, gf⟩ := G
      simp only [] at x0 x1 x2 d0 d1 d2 g1 g2 CE
      have y5 : (gn : Int) ≤ 6 := by omega
      rcases formV_kinds g1 with ⟨rfl, a1, a2, -⟩ | ⟨rfl, -⟩ | ⟨rfl, -⟩ | ⟨rfl, a1, a2⟩
      · clear g1
        unfold dK at d0
        unfold dV at d1
        simp only [Int.reduceEq, if_false] at d0 d1
        go_wp2_with fail
        have C1 : Cells ((wr.alloc (.cells #[.int .i64 1, .int .i64 gv, .slice ga gn gc] 41)).alloc (.cells #[.int .i64 1, .int .i64 gv, .slice ga gn gc] 41)) (wr.heap.size + 1) [.int .i64 1, .int .i64 gv, .slice ga gn gc] := by
          have := cells_new (wr.alloc (.cells #[.int .i64 1, .int .i64 gv, .slice ga gn gc] 41)) #[.int .i64 1, .int .i64 gv, .slice ga gn gc] 41
          rw [show (wr.alloc (.cells #[.int .i64 1, .int .i64 gv, .slice ga gn gc] 41)).heap.size = wr.heap.size + 1 by simp] at this
          exact this
        have V1 : Hid (Below wr.heap.size wr ((wr.alloc (.cells #[.int .i64 1, .int .i64 gv, .slice ga gn gc] 41)).alloc (.cells #[.int .i64 1, .int .i64 gv, .slice ga gn gc] 41))) := (gbox _ _).alloc (by simp) _
        obtain ⟨W, hW⟩ : ∃ W, W = (((wr.alloc (.cells #[.int .i64 1, .int .i64 gv, .slice ga gn gc] 41)).alloc (.cells #[.int .i64 1, .int .i64 gv, .slice ga gn gc] 41))) := ⟨_, rfl⟩
        rw [← hW] at C1 V1 ⊢
        have c0 := C1.cell 0 _ rfl
        have c1 := C1.cell 1 _ rfl
        have c2 := C1.cell 2 _ rfl
        have c3 := C1.lt
        have d3 := (V1.out.cell (p := ⟨bd, q * 3, none⟩) lb).trans d0
        have d4 := (V1.out.cell (p := ⟨bd, q * 3 + 1, none⟩) lb).trans d1
        have d5 := (V1.out.cell (p := ⟨bd, q * 3 + 2, none⟩) lb).trans d2
        have d6 : bd < W.heap.size := Nat.lt_of_lt_of_le lb V1.out.size
        have W1 : Hid (Below w.heap.size w W) := HW.out.trans (V1.out.mono HW.out.size)
        have D1 : Hid (RowD w3.heap.size W bd tn t u) := HD2.out.step V1.out
        have X1 : Hid (W.cell? ⟨w.heap.size, 0, none⟩ = some (.slice (some ⟨b, o, none⟩) tn tc)) := (V1.out.cell (p := ⟨w.heap.size, 0, none⟩) (lt_of_cell HX2.out)).trans HX2.out
        have q1 : decide (tn ≤ q) = false := decide_eq_false (by omega)
        have q2 : ∀ z : Int, (z != z) = false := fun z => by simp
        clear hW C1 HX2 HD2 HW d0 d1 d2 x0 x1 x2 HQ hb
        go_big_quiet (first | (go_at_call 22; exact (CE.out _ (gbelow_drew V1.out _)).mono fun _ _ h => ⟨h.1, h.2.elim fun d hd => ⟨_, hd.trans (World.drewN_drewN _ _ _)⟩⟩))
        have W2 : Hid (Below w.heap.size w (W.drewN nq)) := gbelow_drew W1.out nq
        have D2 : Hid (RowD w3.heap.size (W.drewN nq) bd tn t u) := D1.out.step (gbelow_drew (Below.refl _ _) nq)
        have X2 : Hid ((W.drewN nq).cell? ⟨w.heap.size, 0, none⟩ = some (.slice (some ⟨b, o, none⟩) tn tc)) := X1.out
        clear W1 D1 X1 c0 c1 c2 d3 d4 d5
        go_wp2_with fail
        go_roundg (tn - (q + 1) + 1)
        case measure => omega
        case rel => exact ⟨q + 1, by go_num, by omega, by omega, W2.out, D2.out, X2.out⟩
      · clear g1
        unfold dK at d0
        unfold dV at d1
        simp only [if_pos, Int.reduceEq, if_false] at d0 d1
        go_wp2_with fail
        have C1 : Cells ((wr.alloc (.cells #[.int .i64 2, .int .i64 gv, .slice ga gn gc] 41)).alloc (.cells #[.int .i64 3, .int .i64 gv, .slice ga gn gc] 41)) (wr.heap.size + 1) [.int .i64 3, .int .i64 gv, .slice ga gn gc] := by
          have := cells_new (wr.alloc (.cells #[.int .i64 2, .int .i64 gv, .slice ga gn gc] 41)) #[.int .i64 3, .int .i64 gv, .slice ga gn gc] 41
          rw [show (wr.alloc (.cells #[.int .i64 2, .int .i64 gv, .slice ga gn gc] 41)).heap.size = wr.heap.size + 1 by simp] at this
          exact this
        have V1 : Hid (Below wr.heap.size wr ((wr.alloc (.cells #[.int .i64 2, .int .i64 gv, .slice ga gn gc] 41)).alloc (.cells #[.int .i64 3, .int .i64 gv, .slice ga gn gc] 41))) := (gbox _ _).alloc (by simp) _
        obtain ⟨W, hW⟩ : ∃ W, W = (((wr.alloc (.cells #[.int .i64 2, .int .i64 gv, .slice ga gn gc] 41)).alloc (.cells #[.int .i64 3, .int .i64 gv, .slice ga gn gc] 41))) := ⟨_, rfl⟩
        rw [← hW] at C1 V1 ⊢
        have c0 := C1.cell 0 _ rfl
        have c1 := C1.cell 1 _ rfl
        have c2 := C1.cell 2 _ rfl
        have c3 := C1.lt
        have d3 := (V1.out.cell (p := ⟨bd, q * 3, none⟩) lb).trans d0
        have d4 := (V1.out.cell (p := ⟨bd, q * 3 + 1, none⟩) lb).trans d1
        have d5 := (V1.out.cell (p := ⟨bd, q * 3 + 2, none⟩) lb).trans d2
        have d6 : bd < W.heap.size := Nat.lt_of_lt_of_le lb V1.out.size
        have W1 : Hid (Below w.heap.size w W) := HW.out.trans (V1.out.mono HW.out.size)
        have D1 : Hid (RowD w3.heap.size W bd tn t u) := HD2.out.step V1.out
        have X1 : Hid (W.cell? ⟨w.heap.size, 0, none⟩ = some (.slice (some ⟨b, o, none⟩) tn tc)) := (V1.out.cell (p := ⟨w.heap.size, 0, none⟩) (lt_of_cell HX2.out)).trans HX2.out
        have q1 : decide (tn ≤ q) = false := decide_eq_false (by omega)
        have q2 : ∀ z : Int, (z != z) = false := fun z => by simp
        clear hW C1 HX2 HD2 HW d0 d1 d2 x0 x1 x2 HQ hb
        go_big_quiet (first | (go_at_call 22; exact (CE.out _ (gbelow_drew V1.out _)).mono fun _ _ h => ⟨h.1, h.2.elim fun d hd => ⟨_, hd.trans (World.drewN_drewN _ _ _)⟩⟩))
        have W2 : Hid (Below w.heap.size w (W.drewN nq)) := gbelow_drew W1.out nq
        have D2 : Hid (RowD w3.heap.size (W.drewN nq) bd tn t u) := D1.out.step (gbelow_drew (Below.refl _ _) nq)
        have X2 : Hid ((W.drewN nq).cell? ⟨w.heap.size, 0, none⟩ = some (.slice (some ⟨b, o, none⟩) tn tc)) := X1.out
        clear W1 D1 X1 c0 c1 c2 d3 d4 d5
        go_wp2_with fail
        go_roundg (tn - (q + 1) + 1)
        case measure => omega
        case rel => exact ⟨q + 1, by go_num, by omega, by omega, W2.out, D2.out, X2.out⟩
      · clear g1
        unfold dK at d0
        unfold dV at d1
        simp only [if_pos, Int.reduceEq, if_false] at d0 d1
        go_wp2_with fail
        have C1 : Cells ((wr.alloc (.cells #[.int .i64 3, .int .i64 gv, .slice ga gn gc] 41)).alloc (.cells #[.int .i64 2, .int .i64 gv, .slice ga gn gc] 41)) (wr.heap.size + 1) [.int .i64 2, .int .i64 gv, .slice ga gn gc] := by
          have := cells_new (wr.alloc (.cells #[.int .i64 3, .int .i64 gv, .slice ga gn gc] 41)) #[.int .i64 2, .int .i64 gv, .slice ga gn gc] 41
          rw [show (wr.alloc (.cells #[.int .i64 3, .int .i64 gv, .slice ga gn gc] 41)).heap.size = wr.heap.size + 1 by simp] at this
          exact this
        have V1 : Hid (Below wr.heap.size wr ((wr.alloc (.cells #[.int .i64 3, .int .i64 gv, .slice ga gn gc] 41)).alloc (.cells #[.int .i64 2, .int .i64 gv, .slice ga gn gc] 41))) := (gbox _ _).alloc (by simp) _
        obtain ⟨W, hW⟩ : ∃ W, W = (((wr.alloc (.cells #[.int .i64 3, .int .i64 gv, .slice ga gn gc] 41)).alloc (.cells #[.int .i64 2, .int .i64 gv, .slice ga gn gc] 41))) := ⟨_, rfl⟩
        rw [← hW] at C1 V1 ⊢
        have c0 := C1.cell 0 _ rfl
        have c1 := C1.cell 1 _ rfl
        have c2 := C1.cell 2 _ rfl
        have c3 := C1.lt
        have d3 := (V1.out.cell (p := ⟨bd, q * 3, none⟩) lb).trans d0
        have d4 := (V1.out.cell (p := ⟨bd, q * 3 + 1, none⟩) lb).trans d1
        have d5 := (V1.out.cell (p := ⟨bd, q * 3 + 2, none⟩) lb).trans d2
        have d6 : bd < W.heap.size := Nat.lt_of_lt_of_le lb V1.out.size
        have W1 : Hid (Below w.heap.size w W) := HW.out.trans (V1.out.mono HW.out.size)
        have D1 : Hid (RowD w3.heap.size W bd tn t u) := HD2.out.step V1.out
        have X1 : Hid (W.cell? ⟨w.heap.size, 0, none⟩ = some (.slice (some ⟨b, o, none⟩) tn tc)) := (V1.out.cell (p := ⟨w.heap.size, 0, none⟩) (lt_of_cell HX2.out)).trans HX2.out
        have q1 : decide (tn ≤ q) = false := decide_eq_false (by omega)
        have q2 : ∀ z : Int, (z != z) = false := fun z => by simp
        clear hW C1 HX2 HD2 HW d0 d1 d2 x0 x1 x2 HQ hb
        go_big_quiet (first | (go_at_call 22; exact (CE.out _ (gbelow_drew V1.out _)).mono fun _ _ h => ⟨h.1, h.2.elim fun d hd => ⟨_, hd.trans (World.drewN_drewN _ _ _)⟩⟩))
        have W2 : Hid (Below w.heap.size w (W.drewN nq)) := gbelow_drew W1.out nq
        have D2 : Hid (RowD w3.heap.size (W.drewN nq) bd tn t u) := D1.out.step (gbelow_drew (Below.refl _ _) nq)
        have X2 : Hid ((W.drewN nq).cell? ⟨w.heap.size, 0, none⟩ = some (.slice (some ⟨b, o, none⟩) tn tc)) := X1.out
        clear W1 D1 X1 c0 c1 c2 d3 d4 d5
        go_wp2_with fail
        go_roundg (tn - (q + 1) + 1)
        case measure => omega
        case rel => exact ⟨q + 1, by go_num, by omega, by omega, W2.out, D2.out, X2.out⟩
      · clear g1
        unfold dK at d0
        unfold dV at d1
        simp only [if_pos, Int.reduceEq, if_false] at d0 d1
        go_wp2_with fail
        have C1 : Cells ((wr.alloc (.cells #[.int .i64 4, .int .i64 gv, .slice ga gn gc] 41)).alloc (.cells #[.int .i64 4, .int .i64 ((gn : Int) + 1 - gv), .slice ga gn gc] 41)) (wr.heap.size + 1) [.int .i64 4, .int .i64 ((gn : Int) + 1 - gv), .slice ga gn gc] := by
          have := cells_new (wr.alloc (.cells #[.int .i64 4, .int .i64 gv, .slice ga gn gc] 41)) #[.int .i64 4, .int .i64 ((gn : Int) + 1 - gv), .slice ga gn gc] 41
          rw [show (wr.alloc (.cells #[.int .i64 4, .int .i64 gv, .slice ga gn gc] 41)).heap.size = wr.heap.size + 1 by simp] at this
          exact this
        have V1 : Hid (Below wr.heap.size wr ((wr.alloc (.cells #[.int .i64 4, .int .i64 gv, .slice ga gn gc] 41)).alloc (.cells #[.int .i64 4, .int .i64 ((gn : Int) + 1 - gv), .slice ga gn gc] 41))) := (gbox _ _).alloc (by simp) _
        obtain ⟨W, hW⟩ : ∃ W, W = (((wr.alloc (.cells #[.int .i64 4, .int .i64 gv, .slice ga gn gc] 41)).alloc (.cells #[.int .i64 4, .int .i64 ((gn : Int) + 1 - gv), .slice ga gn gc] 41))) := ⟨_, rfl⟩
        rw [← hW] at C1 V1 ⊢
        have c0 := C1.cell 0 _ rfl
        have c1 := C1.cell 1 _ rfl
        have c2 := C1.cell 2 _ rfl
        have c3 := C1.lt
        have d3 := (V1.out.cell (p := ⟨bd, q * 3, none⟩) lb).trans d0
        have d4 := (V1.out.cell (p := ⟨bd, q * 3 + 1, none⟩) lb).trans d1
        have d5 := (V1.out.cell (p := ⟨bd, q * 3 + 2, none⟩) lb).trans d2
        have d6 : bd < W.heap.size := Nat.lt_of_lt_of_le lb V1.out.size
        have W1 : Hid (Below w.heap.size w W) := HW.out.trans (V1.out.mono HW.out.size)
        have D1 : Hid (RowD w3.heap.size W bd tn t u) := HD2.out.step V1.out
        have X1 : Hid (W.cell? ⟨w.heap.size, 0, none⟩ = some (.slice (some ⟨b, o, none⟩) tn tc)) := (V1.out.cell (p := ⟨w.heap.size, 0, none⟩) (lt_of_cell HX2.out)).trans HX2.out
        have q1 : decide (tn ≤ q) = false := decide_eq_false (by omega)
        have q2 : ∀ z : Int, (z != z) = false := fun z => by simp
        clear hW C1 HX2 HD2 HW d0 d1 d2 x0 x1 x2 HQ hb
        go_big_quiet (first | (go_at_call 22; exact (CE.out _ (gbelow_drew V1.out _)).mono fun _ _ h => ⟨h.1, h.2.elim fun d hd => ⟨_, hd.trans (World.drewN_drewN _ _ _)⟩⟩))
        have W2 : Hid (Below w.heap.size w (W.drewN nq)) := gbelow_drew W1.out nq
        have D2 : Hid (RowD w3.heap.size (W.drewN nq) bd tn t u) := D1.out.step (gbelow_drew (Below.refl _ _) nq)
        have X2 : Hid ((W.drewN nq).cell? ⟨w.heap.size, 0, none⟩ = some (.slice (some ⟨b, o, none⟩) tn tc)) := X1.out
        clear W1 D1 X1 c0 c1 c2 d3 d4 d5
        go_wp2_with fail
        go_roundg (tn - (q + 1) + 1)
        case measure => omega
        case rel => exact ⟨q + 1, by go_num, by omega, by omega, W2.out, D2.out, X2.out⟩
    · have y1 : ¬ (q : Int) < (tn : Int) := by omega
      obtain rfl : q = tn := by omega
      have x0 := HX2.out
      have l0 := lt_of_cell x0
      go_wp2_with fail
      go_ret
      exact ⟨rfl, HW.out⟩

theorem walk (ta : Option Addr) (tn tc : Nat) (t : Nat → Gt) (parts : Int) (la : Option Addr) (ln lc : Nat) (l : Nat → Int) (w : World) (h_t : RowGJ w ta tn tc t) (h_parts : (Lit.int .u16 parts).wf = true) (h_l : RowZ .u16 2 w la ln lc l) :
    Calls Try.prog 3 #[.slice ta tn tc, .int .u16 parts, .slice la ln lc] w fun e w' => e = .returned (.bool true) ∧ Below w.heap.size w w' := by
  obtain ⟨h1, h2⟩ := u16_of h_parts
  obtain ⟨p, rfl⟩ : ∃ p : Nat, parts = (p : Int) := ⟨parts.toNat, by omega⟩
  obtain ⟨hl, hf⟩ := rs_of h_l
  by_cases h : chG t tn = 0
  · by_cases hn : 100 < ln
    · exact ok_long ta tn tc t p (by omega) la ln lc _ w h_t.row hl hf hn h
    · cases hE : bigB (fun j => (l j).toNat) ln
      · exact ok_good ta tn tc t p (by omega) la ln lc _ w h_t.row hl hf hn hE h
      · exact ok_big ta tn tc t p (by omega) la ln lc _ w h_t.row hl hf hn hE h
  · by_cases hn : 100 < ln
    · exact bad_long ta tn tc t p (by omega) la ln lc _ w h_t.row hl hf hn _ rfl h
    · cases hE : bigB (fun j => (l j).toNat) ln
      · exact bad_good ta tn tc t p (by omega) la ln lc _ w h_t.row hl hf hn hE _ rfl h
      · exact bad_big ta tn tc t p (by omega) la ln lc _ w h_t.row hl hf hn hE _ rfl h

/-! ### THE ROW's STEP -/
set_option maxRecDepth 100000 in
theorem lifted (os : Os) (started : os.Started) (H : Type) (enc : TypeId × Value → H) :
    ReturnsInHanded {} Try.checked os 3 .any (Rows.cutsSaysSpec.pre6 enc Try.prog Try.f3 Rows.cutsSaysRow.domain false) (Rows.cutsSaysSpec.post enc Try.prog Try.f3 false true false false) := by
  refine returnsInHanded_of_change_sized (C := Try.checked) own started (by kernel_rfl) Try.func3
    (ChangeSpec.witness6 (enc := enc) (C := Try.checked) false ⟨#[], #[.slice none 0 0, .int .u16 0, .slice none 0 0], []⟩ 8 (by kernel_rfl) (by kernel_rfl) (by kernel_rfl) (by kernel_rfl)) ?_
  intro W base args ds gs before hval0 hW hcnd hsz0 _
  have hval : ∀ (j : Nat) t v, Try.f3.params[j]? = some t → args[j]? = some v → Value.okWide Try.prog W .any base t v := hval0
  have hW' := hW
  obtain ⟨p, q, hA0, hV, rfl, hfz, hnd⟩ := hW
  have hA : DataW.TrodAll enc Try.prog W 0 (fun _ => true) true Try.f3.params.toList args.toList ds p := hA0
  rw [Try.params3] at hA hval
  obtain ⟨v_0, vs_0, d_0, ds_0, p_0, q_0, hargs, rfl, rfl, h_0, r_0⟩ := trodAll_cons hA
  obtain ⟨v_1, vs_1, d_1, ds_1, p_1, q_1, rfl, rfl, rfl, h_1, r_1⟩ := trodAll_cons r_0
  obtain ⟨v_2, vs_2, d_2, ds_2, p_2, q_2, rfl, rfl, rfl, h_2, r_2⟩ := trodAll_cons r_1
  obtain ⟨rfl, rfl, rfl⟩ := trodAll_nil r_2
  obtain rfl : args = #[v_0, v_1, v_2] := by cases args; simp_all
  obtain ⟨rfl, rfl⟩ := trodVars_none hV
  have hz_0 : Light Try.prog 22 d_0 := light_of hsz0 (j := 0) (by first | rfl | (rw [Try.params3]; rfl)) rfl
  have k_0 := h_0
  have lt_0 : ∀ x ∈ p_0, x.block < W.heap.size := by obtain ⟨m, hm⟩ := k_0; exact DataW.trod_lt m _ _ _ hm
  obtain ⟨ta, tn, tc, rfl⟩ := okWide_slice Try.underlying22 (hval 0 22 v_0 rfl rfl)
  obtain ⟨t, h_t⟩ : ∃ l, RowGJ W ta tn tc l := by
    obtain ⟨fuel, hf⟩ := h_0
    obtain ⟨a, m, c, l, hcs, hr⟩ := rowGJ_of hf hz_0
    simp [Value.cells] at hcs
    obtain ⟨rfl, rfl, rfl⟩ := hcs
    exact ⟨l, hr⟩
  have hz_1 : Light Try.prog 23 d_1 := light_of hsz0 (j := 1) (by first | rfl | (rw [Try.params3]; rfl)) rfl
  have k_1 := h_1
  have lt_1 : ∀ x ∈ p_1, x.block < W.heap.size := by obtain ⟨m, hm⟩ := k_1; exact DataW.trod_lt m _ _ _ hm
  obtain ⟨parts, rfl, rfl, rfl, h_parts⟩ := open_int Try.underlying23 (hval 1 23 v_1 rfl rfl) h_1
  have hz_2 : Light Try.prog 24 d_2 := light_of hsz0 (j := 2) (by first | rfl | (rw [Try.params3]; rfl)) rfl
  have k_2 := h_2
  have lt_2 : ∀ x ∈ p_2, x.block < W.heap.size := by obtain ⟨m, hm⟩ := k_2; exact DataW.trod_lt m _ _ _ hm
  obtain ⟨la, ln, lc, rfl⟩ := okWide_slice Try.underlying24 (hval 2 24 v_2 rfl rfl)
  obtain ⟨l, h_l⟩ : ∃ l, RowZ .u16 2 W la ln lc l := by
    obtain ⟨fuel, hf⟩ := h_2
    obtain ⟨a, m, c, l, hcs, hr⟩ := rowZ_of Try.underlying24 Try.underlying23 (by kernel_rfl) (by kernel_rfl) hf hz_2
    simp [Value.cells] at hcs
    obtain ⟨rfl, rfl, rfl⟩ := hcs
    exact ⟨l, hr⟩
  clear hA0 hval0
  refine (walk ta tn tc t parts la ln lc l W h_t h_parts h_l).mono fun e W' ⟨he, bel⟩ => ?_
  subst he
  exact ⟨_, rfl, _, _, _, [], _, [], hW', trodAll_mk1 (shut_bool Try.underlying4 _), (trodAll_cons_mk (Below.trod laidOut (by kernel_rfl) (of_decide_eq_true (by kernel_rfl)) k_0 bel lt_0) (trodAll_cons_mk (Below.trod laidOut (by kernel_rfl) (of_decide_eq_true (by kernel_rfl)) k_1 bel lt_1) (trodAll_cons_mk (Below.trod laidOut (by kernel_rfl) (of_decide_eq_true (by kernel_rfl)) k_2 bel lt_2) trodAll_mk0))), rfl, bel.frame _, fun h => by cases h⟩

theorem over : Rows.cutsSaysRow.holds Try.pinned (OpenSpec.ofChange Rows.cutsSaysSpec) :=
  OpenClaim.holds_of_wide 3 Try.f3 rfl rfl rfl rfl rfl rfl rfl ⟨rfl, rfl, rfl, rfl, rfl⟩ rfl rfl rfl rfl rfl (by kernel_rfl) Try.func3 (by kernel_rfl)
    (of_decide_eq_true (by kernel_rfl)) (by unfold Func.isWrapper; first | (rw [if_pos (by decide +kernel)]; kernel_rfl) | (rw [if_neg (by decide +kernel)]; exact ⟨rfl, rfl⟩))
    (fun os started H enc _ => lifted os started H enc)


end Go.Proofs.Ytacophekhknbpaa.cutsSays
namespace Go.Proofs.Ytacophekhknbpaa
/-- THE STATEMENT -/
theorem cutsSays_holds : Rows.CutsSaysSaid := cutsSays.over
#print axioms cutsSays_holds
end Go.Proofs.Ytacophekhknbpaa
