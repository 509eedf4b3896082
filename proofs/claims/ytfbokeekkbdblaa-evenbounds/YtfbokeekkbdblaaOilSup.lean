/-
  Contract of oil.Supply: whatever is handed in.
-/
import Derived.Test.YtfbokeekkbdblaaOil
namespace Go.Proofs.Ytfbokeekkbdblaa
open Go.RowKit
set_option linter.unusedVariables false

theorem lay6 (w : World) (a b c d e f : Array Value) (t1 t2 t3 t4 t5 t6 : TypeId) : Lay w [a.toList, b.toList, c.toList, d.toList, e.toList, f.toList] ((((((w.alloc (.cells a t1)).alloc (.cells b t2)).alloc (.cells c t3)).alloc (.cells d t4)).alloc (.cells e t5)).alloc (.cells f t6)) := (lay5 w a b c d e t1 t2 t3 t4 t5).push (by simp) f t6
theorem cases4 {j : Nat} (h : j < 4) : j = 0 ∨ j = 1 ∨ j = 2 ∨ j = 3 := by omega
/-- the first j of some numbers, and nothing behind -/
def upI (j i : Nat) (x : Int) : Int := if i < j then x else 0
/-- the oil of a lane: the pressure of its source, nothing where it has none -/
def supI (a b : Bool) (p q : Int) (k : Nat) : Int := if srcB a b k then (if srcN a b k = 0 then p else q) else 0
/-- lane j has system n's oil, or none -/
def Ol (p q n e s : Int) (h : Bool) : Prop := (e = 0 ∧ h = true ∧ n = 0 ∧ s = p) ∨ (e = 0 ∧ h = true ∧ n = 1 ∧ s = q) ∨ (e = 7 ∧ h = false ∧ s = 0)
theorem ol_any (a b : Bool) (p q : Int) {j : Nat} (h : j < 4) : Ol p q (srcN a b j) (srcE a b j) (supI a b p q j) (srcB a b j) := by
  obtain rfl | rfl | rfl | rfl := cases4 h <;> cases a <;> cases b <;>
    first
    | exact Or.inl ⟨rfl, rfl, rfl, rfl⟩
    | exact Or.inr (Or.inl ⟨rfl, rfl, rfl, rfl⟩)
    | exact Or.inr (Or.inr ⟨rfl, rfl, rfl⟩)

/-- the boxes while the lanes are gone through: the first j have got what they get -/
def OL (w : World) (a b : Bool) (p q : Int) (S : Nat → Int) (H : Nat → Bool) (j : Nat) (W : World) : Prop :=
  Lay w [[.bool a, .bool b], [.int .i32 p, .int .i32 q], [.int .i32 0, .int .i32 0, .int .i32 0, .int .i32 0], [.bool false, .bool false, .bool false, .bool false], [.int .i32 (upI j 0 (S 0)), .int .i32 (upI j 1 (S 1)), .int .i32 (upI j 2 (S 2)), .int .i32 (upI j 3 (S 3))], [.bool (upB j 0 (H 0)), .bool (upB j 1 (H 1)), .bool (upB j 2 (H 2)), .bool (upB j 3 (H 3))]] W
theorem OL.step {w : World} {a b : Bool} {p q : Int} {S : Nat → Int} {H : Nat → Bool} {j : Nat} {W W' : World} (h : OL w a b p q S H j W) (hb : Below W.heap.size W W') : OL w a b p q S H j W' := Lay.step h hb
theorem OL.lay {w : World} {a b : Bool} {p q : Int} {S : Nat → Int} {H : Nat → Bool} {j : Nat} {W : World} (h : OL w a b p q S H j W) : Lay w [[.bool a, .bool b], [.int .i32 p, .int .i32 q], [.int .i32 0, .int .i32 0, .int .i32 0, .int .i32 0], [.bool false, .bool false, .bool false, .bool false], [.int .i32 (upI j 0 (S 0)), .int .i32 (upI j 1 (S 1)), .int .i32 (upI j 2 (S 2)), .int .i32 (upI j 3 (S 3))], [.bool (upB j 0 (H 0)), .bool (upB j 1 (H 1)), .bool (upB j 2 (H 2)), .bool (upB j 3 (H 3))]] W := h
/-- a lane gets its oil -/
theorem OL.store {w : World} {a b : Bool} {p q : Int} {S : Nat → Int} {H : Nat → Bool} {j : Nat} {W : World} (h : OL w a b p q S H j W) (hj : j < 4) {s : Int} (hs : S j = s) (hH : H j = true) :
    OL w a b p q S H (j + 1) ((W.setCell ⟨w.heap.size + 1 + 1 + 1 + 1, j, none⟩ (.int .i32 s)).setCell ⟨w.heap.size + 1 + 1 + 1 + 1 + 1, j, none⟩ (.bool true)) := by
  subst hs
  rw [← hH]
  have h1 := Lay.set h 4 (w.heap.size + 1 + 1 + 1 + 1) j _ (.int .i32 (S j)) rfl rfl (by simpa using hj)
  have h2 := h1.set 5 (w.heap.size + 1 + 1 + 1 + 1 + 1) j _ (.bool (H j)) rfl rfl (by simpa using hj)
  obtain rfl | rfl | rfl | rfl := cases4 hj <;> exact h2
/-- a lane that gets none -/
theorem OL.same {w : World} {a b : Bool} {p q : Int} {S : Nat → Int} {H : Nat → Bool} {j : Nat} {W : World} (h : OL w a b p q S H j W) (hs : S j = 0) (hH : H j = false) : OL w a b p q S H (j + 1) W := by
  have e1 : ∀ i, upI (j + 1) i (S i) = upI j i (S i) := fun i => by
    unfold upI
    by_cases e : i = j
    · subst e
      rw [if_pos (by omega), if_neg (by omega), hs]
    · by_cases z : i < j
      · rw [if_pos (by omega), if_pos z]
      · rw [if_neg (by omega), if_neg z]
  have e2 : ∀ i, upB (j + 1) i (H i) = upB j i (H i) := fun i => by
    unfold upB
    by_cases e : i = j
    · subst e
      rw [if_pos (by omega), if_neg (by omega), hH]
    · by_cases z : i < j
      · rw [if_pos (by omega), if_pos z]
      · rw [if_neg (by omega), if_neg z]
  unfold OL
  rw [e1, e1, e1, e1, e2, e2, e2, e2]
  exact h

end Go.Proofs.Ytfbokeekkbdblaa
