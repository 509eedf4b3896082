/-
  Contracts of package oil: Step and Source, whatever is handed in. Of the memory that was there nothing turns.
-/
import Derived.Test.YtfbokeekkbdblaaFilt
import Derived.Test.YtfbokeekkbdblaaLay
import Derived.Deep.RegionHeld3
import Derived.Deep.DeepCutAuto
import Derived.Deep.LoopGhost
import Derived.BigQuiet
import Derived.Handy
namespace Go.Proofs.Ytfbokeekkbdblaa
open Go.RowKit
set_option linter.unusedVariables false

/-- the bounds are right -/
def OkO (h l : Int) : Prop := 0 ≤ l ∧ l ≤ h
/-- the first j of some bools, and false behind -/
def upB (j i : Nat) (x : Bool) : Bool := if i < j then x else false
theorem Lay.put4 {w : World} {L : List (List Value)} {W : World} (h : Lay w L W) (i b : Nat) {a0 a1 a2 a3 : Value} (v0 v1 v2 v3 : Value) (e : b = w.heap.size + i) (hi : L[i]? = some [a0, a1, a2, a3]) :
    ∃ w3, ((((W.setCell ⟨b, 0, none⟩ v0).setCell ⟨b, 1, none⟩ v1).setCell ⟨b, 2, none⟩ v2).setCell ⟨b, 3, none⟩ v3) = w3 ∧ Lay w (L.set i [v0, v1, v2, v3]) w3 :=
  ⟨_, rfl, (((h.set i b 0 [a0, a1, a2, a3] v0 e hi (by simp)).again (j := 1) v1 e hi (by simp)).again (j := 2) v2 e hi (by simp)).again (j := 3) v3 e hi (by simp)⟩

theorem cases2 {j : Nat} (h : j < 2) : j = 0 ∨ j = 1 := by omega

/-- the source of a lane (0 where it has none); whether it has one; the error that says so -/
def srcN (a b : Bool) (k : Nat) : Int := if k = 0 then 0 else if k = 1 then (if a then 0 else if b then 1 else 0) else if b then 1 else 0
def srcB (a b : Bool) (k : Nat) : Bool := if k = 0 then a else if k = 2 then b else (a || b)
def srcE (a b : Bool) (k : Nat) : Int := if srcB a b k then 0 else 7

end Go.Proofs.Ytfbokeekkbdblaa
