/-
  What four lanes say of whom one may lie: steadkeep.talk.
-/
import Derived.Test.YtokfdapocnmafaaAgrView
import Derived.Deep.WholeRow
namespace Go.Proofs.Ytokfdapocnmafaa
open Go.RowKit
set_option linter.unusedVariables false

theorem below_setCells {N : Nat} {w0 : World} {b : Nat} (hN : N ≤ b) : ∀ (vs : List Value) (o : Nat) (w : World), Below N w0 w → Below N w0 (w.setCells b o vs)
  | [], _, _, h => h
  | v :: r, o, w, h => below_setCells hN r (o + 1) _ (h.setCell (p := ⟨b, o, none⟩) hN v)
theorem size_setCells (b : Nat) : ∀ (vs : List Value) (o : Nat) (w : World), (w.setCells b o vs).heap.size = w.heap.size
  | [], _, _ => rfl
  | v :: r, o, w => by rw [World.setCells, size_setCells b r]; simp [World.setCell]
theorem Blk.setAll {w : World} {b : Nat} {f : Nat → Value} (h : Blk w b 80 f) (T : Nat → Int) : TB (w.setCells b 0 (tk T).toList) b T := by
  have ht : w.there b 0 (tk T).toList.length := fun j hj => by
    rw [Array.length_toList, tk_size] at hj
    rw [Nat.zero_add, h.cell j hj]
    exact ⟨rfl, h.froz j hj⟩
  refine ⟨by rw [size_setCells]; exact h.lt, fun j hj => ?_, fun j hj => by rw [World.frozen?_setCells]; exact h.froz j hj⟩
  have := World.rangeAt_setCells_same w b 0 (tk T).toList ht j (.int .i32 (T j)) (by rw [Array.getElem?_toList]; exact tk_get T hj)
  rwa [Nat.zero_add] at this
theorem Blk.setOther {w : World} {b b' n : Nat} {g : Nat → Value} (h : Blk w b' n g) (hb : b' ≠ b) (vs : List Value) : Blk (w.setCells b 0 vs) b' n g :=
  ⟨by rw [size_setCells]; exact h.lt, fun j hj => by rw [World.cell?_setCells_out b vs 0 w ⟨b', j, none⟩ (fun e _ => absurd e hb)]; exact h.cell j hj, fun j hj => by rw [World.frozen?_setCells]; exact h.froz j hj⟩
theorem zero_talk (w : World) : (zeroValue 26).run Try.prog w = .ok (.agg (tk fun _ => 0)) w :=
  (zero_of_info (P := Try.prog) (t := 26) (v := .agg (tk fun _ => 0)) (n := 80) (by kernel_rfl)).1 w
theorem tk_one (T : Nat → Int) : (tk T).all (·.oneCell') = true := by
  unfold tk
  exact all_oneCell_toArray fun v hv => by
    obtain ⟨j, _, rfl⟩ := List.mem_map.1 hv
    rfl
theorem wpList_store_talk {ops : Array Oper} {rest : List Oper} {op : Oper} {a : Act} {w : World} {Q : Exit → Act → World → Prop} (hgd : op.guard = none) (x y : Operand) (ho : op.op = .store 26 x y) (b : Nat) (hx : a.eval x = .pointer (some ⟨b, 0, none⟩)) (T : Nat → Int) (hy : a.eval y = .agg (tk T)) (f : Nat → Value) (hB : Blk w b 80 f)
    (h : wpList Try.prog ops Q rest (a.put op.dst undef) (w.setCells b 0 (tk T).toList)) : wpList Try.prog ops Q (op :: rest) a w :=
  wpList_store_mid hgd 26 x y ho b 0 (tk T) hx hy (fun j hj => by
    rw [tk_size] at hj
    rw [Nat.zero_add, hB.cell j hj]
    exact ⟨rfl, hB.froz j hj⟩) (by rw [tk_size]; kernel_rfl) (tk_one T) h

/-- four rows of four numbers -/
def t16 (D : Nat → Int) : Array Value := ((List.range 16).map fun j => Value.int .i32 (D j)).toArray
theorem t16_get (D : Nat → Int) {j : Nat} (h : j < 16) : (t16 D)[j]? = some (.int .i32 (D j)) := by
  unfold t16
  rw [List.getElem?_toArray, List.getElem?_map, List.getElem?_range h]; rfl
theorem t16_size (D : Nat → Int) : (t16 D).size = 16 := by simp [t16]
/-- n numbers in block b -/
def RB (w : World) (b n : Nat) (F : Nat → Int) : Prop := Blk w b n fun j => .int .i32 (F j)
theorem rb4_new (w : World) (v : Nat → Int) (t : TypeId) : RB (w.alloc (.cells #[.int .i32 (v 0), .int .i32 (v 1), .int .i32 (v 2), .int .i32 (v 3)] t)) w.heap.size 4 v := blk_new w _ _ _ _ fun j hj => by obtain rfl | rfl | rfl | rfl := four hj <;> rfl
theorem rb16_new (w : World) (D : Nat → Int) (t : TypeId) : RB (w.alloc (.cells (t16 D) t)) w.heap.size 16 D := blk_new w _ _ _ _ fun j hj => t16_get D hj

/-- the numbers, what the liar says, the box of the answer, the talk as far as it is made (F), which will be G -/
structure Tw (w : World) (v s D : Nat → Int) (F : Nat → Int) (wr : World) : Prop where
  bv : RB wr w.heap.size 4 v
  bs : RB wr (w.heap.size + 1) 4 s
  bd : RB wr (w.heap.size + 1 + 1) 16 D
  rs : RB wr (w.heap.size + 1 + 1 + 1) 80 fun _ => 0
  tb : TB wr (w.heap.size + 1 + 1 + 1 + 1) F
  bel : Below w.heap.size w wr
theorem Tw.set {w : World} {v s D F F' : Nat → Int} {wr : World} (h : Tw w v s D F wr) {p : Nat} (hp : p < 80) {x : Int} (e : ∀ j, (if j = p then x else F j) = F' j) : Tw w v s D F' (wr.setCell ⟨w.heap.size + 1 + 1 + 1 + 1, p, none⟩ (.int .i32 x)) :=
  ⟨Blk.other h.bv (by omega) _, Blk.other h.bs (by omega) _, Blk.other h.bd (by omega) _, Blk.other h.rs (by omega) _, (Blk.set h.tb hp _).as (fun j _ => by rw [← e j]; by_cases q : j = p <;> simp [q]), h.bel.setCell (p := ⟨w.heap.size + 1 + 1 + 1 + 1, p, none⟩) (by show _ ≤ _; simp; omega) _⟩
theorem Tw.drew {w : World} {v s D F : Nat → Int} {wr : World} (h : Tw w v s D F wr) : Tw w v s D F wr.drew := ⟨Blk.drew h.bv, Blk.drew h.bs, Blk.drew h.bd, Blk.drew h.rs, Blk.drew h.tb, h.bel.drew⟩
theorem tw_new (w : World) (v s D : Nat → Int) (t1 t2 t3 t4 t5 : TypeId) : Tw w v s D (fun _ => 0) (((((w.alloc (.cells #[.int .i32 (v 0), .int .i32 (v 1), .int .i32 (v 2), .int .i32 (v 3)] t1)).alloc (.cells #[.int .i32 (s 0), .int .i32 (s 1), .int .i32 (s 2), .int .i32 (s 3)] t2)).alloc (.cells (t16 D) t3)).alloc (.cells (tk fun _ => 0) t4)).alloc (.cells (tk fun _ => 0) t5)) := by
  obtain ⟨w1, e1⟩ : ∃ w1, w1 = w.alloc (.cells #[.int .i32 (v 0), .int .i32 (v 1), .int .i32 (v 2), .int .i32 (v 3)] t1) := ⟨_, rfl⟩
  have h1 : RB w1 w.heap.size 4 v := by rw [e1]; exact rb4_new w v t1
  have s1 : w1.heap.size = w.heap.size + 1 := by rw [e1]; simp
  have b1 : Below w.heap.size w w1 := by rw [e1]; exact (Below.refl _ w).alloc (Nat.le_refl _) _
  rw [← e1]
  obtain ⟨w2, e2⟩ : ∃ w2, w2 = w1.alloc (.cells #[.int .i32 (s 0), .int .i32 (s 1), .int .i32 (s 2), .int .i32 (s 3)] t2) := ⟨_, rfl⟩
  have h2 : RB w2 w1.heap.size 4 s := by rw [e2]; exact rb4_new w1 s t2
  have s2 : w2.heap.size = w1.heap.size + 1 := by rw [e2]; simp
  have b2 : Below w1.heap.size w1 w2 := by rw [e2]; exact (Below.refl _ w1).alloc (Nat.le_refl _) _
  rw [← e2]
  obtain ⟨w3, e3⟩ : ∃ w3, w3 = w2.alloc (.cells (t16 D) t3) := ⟨_, rfl⟩
  have h3 : RB w3 w2.heap.size 16 D := by rw [e3]; exact rb16_new w2 D t3
  have s3 : w3.heap.size = w2.heap.size + 1 := by rw [e3]; simp
  have b3 : Below w2.heap.size w2 w3 := by rw [e3]; exact (Below.refl _ w2).alloc (Nat.le_refl _) _
  rw [← e3]
  have h4 := tb_new w3 (fun _ => 0) t4
  have s4 : (w3.alloc (.cells (tk fun _ => 0) t4)).heap.size = w3.heap.size + 1 := by simp
  have h5 := tb_new (w3.alloc (.cells (tk fun _ => 0) t4)) (fun _ => 0) t5
  rw [s4] at h5
  rw [s3, s2, s1] at h5 h4
  rw [s2, s1] at h3
  rw [s1] at h2
  have c1 := b1.trans (b2.mono (by omega))
  have c2 := c1.trans (b3.mono (by omega))
  exact ⟨((Blk.step (Blk.step h1 b2) b3).alloc _).alloc _, ((Blk.step h2 b3).alloc _).alloc _, (Blk.alloc h3 _).alloc _, Blk.alloc h4 _, h5, (c2.alloc (by omega) _).alloc (by simp; omega) _⟩

end Go.Proofs.Ytokfdapocnmafaa
