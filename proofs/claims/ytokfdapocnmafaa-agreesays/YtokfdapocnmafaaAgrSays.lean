/-
  What the law AgreeSays carries: its boxes; how many gainsay.
-/
import Derived.Test.YtokfdapocnmafaaRAgrView
import Derived.Test.YtokfdapocnmafaaAgrEq
namespace Go.Proofs.Ytokfdapocnmafaa
open Go.RowKit
set_option linter.unusedVariables false

/-- whether lane i, being neither j nor k, was told of otherwise -/
def gy (T : Nat → Int) (j k i : Nat) : Bool := !(decide (i = j)) && (!(decide (i = k)) && (!(decide (j = k)) && gs T i j k))
/-- how many of the first q -/
def cn (T : Nat → Int) (j k : Nat) : Nat → Nat
  | 0 => 0
  | q + 1 => cn T j k q + if gy T j k q then 1 else 0
theorem cn_le (T : Nat → Int) (j k q : Nat) : cn T j k q ≤ q := by
  induction q with
  | zero => exact Nat.le_refl _
  | succ q ih =>
    show cn T j k q + (if gy T j k q then 1 else 0) ≤ q + 1
    split <;> omega
theorem cn_no {T : Nat → Int} {j k q : Nat} (h : gy T j k q = false) : cn T j k (q + 1) = cn T j k q := by
  show cn T j k q + (if gy T j k q then 1 else 0) = _
  rw [h]; rfl
theorem cn_yes {T : Nat → Int} {j k q : Nat} (h : gy T j k q = true) : cn T j k (q + 1) = cn T j k q + 1 := by
  show cn T j k q + (if gy T j k q then 1 else 0) = _
  rw [h]; rfl
theorem cn_od (T : Nat → Int) {j k : Nat} (hj : j < 4) (hk : k < 4) : (((cn T j k 4 : Nat) : Int) == 2) = od T k j := by
  have e : ∀ a b c d : Bool, ((((if a then 1 else 0) + (if b then 1 else 0) + (if c then 1 else 0) + (if d then 1 else 0) : Nat) : Int) == 2) = decide (((if a then 1 else 0) + (if b then 1 else 0) + (if c then 1 else 0) + (if d then 1 else 0) : Nat) = 2) := by decide
  have e2 : cn T j k 4 = (if gy T j k 0 then 1 else 0) + (if gy T j k 1 then 1 else 0) + (if gy T j k 2 then 1 else 0) + (if gy T j k 3 then 1 else 0) := by
    show 0 + (if gy T j k 0 then 1 else 0) + (if gy T j k 1 then 1 else 0) + (if gy T j k 2 then 1 else 0) + (if gy T j k 3 then 1 else 0) = _
    rw [Nat.zero_add]
  rw [e2, e]
  unfold od gb gy
  obtain rfl | rfl | rfl | rfl := four hj <;> obtain rfl | rfl | rfl | rfl := four hk
  · rfl
  · show decide (((if false then 1 else 0) + (if false then 1 else 0) + (if gs T 2 0 1 then 1 else 0) + (if gs T 3 0 1 then 1 else 0) : Nat) = 2) = (gs T 2 0 1 && gs T 3 0 1)
    cases gs T 2 0 1 <;> cases gs T 3 0 1 <;> rfl
  · show decide (((if false then 1 else 0) + (if gs T 1 0 2 then 1 else 0) + (if false then 1 else 0) + (if gs T 3 0 2 then 1 else 0) : Nat) = 2) = (gs T 1 0 2 && gs T 3 0 2)
    cases gs T 1 0 2 <;> cases gs T 3 0 2 <;> rfl
  · show decide (((if false then 1 else 0) + (if gs T 1 0 3 then 1 else 0) + (if gs T 2 0 3 then 1 else 0) + (if false then 1 else 0) : Nat) = 2) = (gs T 1 0 3 && gs T 2 0 3)
    cases gs T 1 0 3 <;> cases gs T 2 0 3 <;> rfl
  · show decide (((if false then 1 else 0) + (if false then 1 else 0) + (if gs T 2 1 0 then 1 else 0) + (if gs T 3 1 0 then 1 else 0) : Nat) = 2) = (gs T 2 1 0 && gs T 3 1 0)
    cases gs T 2 1 0 <;> cases gs T 3 1 0 <;> rfl
  · rfl
  · show decide (((if gs T 0 1 2 then 1 else 0) + (if false then 1 else 0) + (if false then 1 else 0) + (if gs T 3 1 2 then 1 else 0) : Nat) = 2) = (gs T 0 1 2 && gs T 3 1 2)
    cases gs T 0 1 2 <;> cases gs T 3 1 2 <;> rfl
  · show decide (((if gs T 0 1 3 then 1 else 0) + (if false then 1 else 0) + (if gs T 2 1 3 then 1 else 0) + (if false then 1 else 0) : Nat) = 2) = (gs T 0 1 3 && gs T 2 1 3)
    cases gs T 0 1 3 <;> cases gs T 2 1 3 <;> rfl
  · show decide (((if false then 1 else 0) + (if gs T 1 2 0 then 1 else 0) + (if false then 1 else 0) + (if gs T 3 2 0 then 1 else 0) : Nat) = 2) = (gs T 1 2 0 && gs T 3 2 0)
    cases gs T 1 2 0 <;> cases gs T 3 2 0 <;> rfl
  · show decide (((if gs T 0 2 1 then 1 else 0) + (if false then 1 else 0) + (if false then 1 else 0) + (if gs T 3 2 1 then 1 else 0) : Nat) = 2) = (gs T 0 2 1 && gs T 3 2 1)
    cases gs T 0 2 1 <;> cases gs T 3 2 1 <;> rfl
  · rfl
  · show decide (((if gs T 0 2 3 then 1 else 0) + (if gs T 1 2 3 then 1 else 0) + (if false then 1 else 0) + (if false then 1 else 0) : Nat) = 2) = (gs T 0 2 3 && gs T 1 2 3)
    cases gs T 0 2 3 <;> cases gs T 1 2 3 <;> rfl
  · show decide (((if false then 1 else 0) + (if gs T 1 3 0 then 1 else 0) + (if gs T 2 3 0 then 1 else 0) + (if false then 1 else 0) : Nat) = 2) = (gs T 1 3 0 && gs T 2 3 0)
    cases gs T 1 3 0 <;> cases gs T 2 3 0 <;> rfl
  · show decide (((if gs T 0 3 1 then 1 else 0) + (if false then 1 else 0) + (if gs T 2 3 1 then 1 else 0) + (if false then 1 else 0) : Nat) = 2) = (gs T 0 3 1 && gs T 2 3 1)
    cases gs T 0 3 1 <;> cases gs T 2 3 1 <;> rfl
  · show decide (((if gs T 0 3 2 then 1 else 0) + (if gs T 1 3 2 then 1 else 0) + (if false then 1 else 0) + (if false then 1 else 0) : Nat) = 2) = (gs T 0 3 2 && gs T 1 3 2)
    cases gs T 0 3 2 <;> cases gs T 1 3 2 <;> rfl
  · rfl

/-- four numbers of a function f, four bools, in a box -/
theorem blk4i (w : World) (f : Nat → Int) (t : TypeId) : Blk (w.alloc (.cells #[.int .i32 (f 0), .int .i32 (f 1), .int .i32 (f 2), .int .i32 (f 3)] t)) w.heap.size 4 (fun i => .int .i32 (f i)) := blk_new w _ _ _ _ fun j hj => by obtain rfl | rfl | rfl | rfl := four hj <;> rfl
theorem blk4b (w : World) (f : Nat → Bool) (t : TypeId) : Blk (w.alloc (.cells #[.bool (f 0), .bool (f 1), .bool (f 2), .bool (f 3)] t)) w.heap.size 4 (fun i => .bool (f i)) := blk_new w _ _ _ _ fun j hj => by obtain rfl | rfl | rfl | rfl := four hj <;> rfl

/-- the law's boxes: the talk, the view, who is odd, the document's view, and who is odd by its words as far as it is made -/
structure Gx (w : World) (T : Nat → Int) (k b5 b9 b11 b14 : Nat) (f : Nat → Value) (wr : World) : Prop where
  tb : TB wr w.heap.size T
  v5 : Blk wr b5 4 (fun i => .int .i32 (vw T k i))
  o9 : Blk wr b9 4 (fun i => .bool (od T k i))
  w11 : Blk wr b11 4 (fun i => .int .i32 (vw T k i))
  d14 : Blk wr b14 4 f
  bel : Below w.heap.size w wr
  ne : w.heap.size < b14 ∧ b5 < b14 ∧ b9 < b14 ∧ b11 < b14
theorem Gx.set {w wr : World} {T : Nat → Int} {k b5 b9 b11 b14 j : Nat} {f g : Nat → Value} {x : Value} (h : Gx w T k b5 b9 b11 b14 f wr) (hj : j < 4) (e : ∀ i, i < 4 → (if i = j then x else f i) = g i) : Gx w T k b5 b9 b11 b14 g (wr.setCell ⟨b14, j, none⟩ x) := by
  obtain ⟨n1, n2, n3, n4⟩ := h.ne
  exact ⟨Blk.other h.tb (by omega) _, h.v5.other (by omega) _, h.o9.other (by omega) _, h.w11.other (by omega) _, (h.d14.set hj x).as e, h.bel.setCell (p := ⟨b14, j, none⟩) (by show _ ≤ b14; omega) _, h.ne⟩
theorem Gx.drewN {w wr : World} {T : Nat → Int} {k b5 b9 b11 b14 : Nat} {f : Nat → Value} (h : Gx w T k b5 b9 b11 b14 f wr) (d : Nat) : Gx w T k b5 b9 b11 b14 f (wr.drewN d) :=
  ⟨Blk.drewN h.tb d, h.v5.drewN d, h.o9.drewN d, h.w11.drewN d, h.d14.drewN d, h.bel.trans ⟨rfl, rfl, rfl, Nat.le_refl _, fun _ _ => rfl⟩, h.ne⟩

end Go.Proofs.Ytokfdapocnmafaa
