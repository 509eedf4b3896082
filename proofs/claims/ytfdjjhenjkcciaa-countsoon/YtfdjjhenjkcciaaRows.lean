/-
  No cell of these rows narrows 'for every input' (looked for: loops, veiled, ifaces, maps, wideKeys, modest, calm, conditions, laid).
  DERIVED. THE GIVEN ROWS OF THIS SEAT. 3 by the template 'for every input the law returns true; each argument reads behind the call as it read before'; 0 by the template 'total and deterministic' (their statements: YtfdjjhenjkcciaaTotals.lean).
  GIVEN WITH THE SEED: the statements are not yours to turn. If you find one false, say at which input.
  Laid BY PROGRAM, IN A SANDBOX (cutbox-rows.mjs): the forced cells as the released guide's own fill.sh prints them over the translation afe3f19bab472848… (all of the seat's roots in one cut). By AI agents, Wed Nov 11 2026. No macro, syntax, notation, axiom, sorry.
-/
import Derived.Test.YtfdjjhenjkcciaaChecked
import GoSem.Claim
import GoSem.ClaimJoined
import GoSem.ClaimMapViews
import Derived.JoinedTies
import Derived.KernelRfl
namespace Go.Proofs.Ytfdjjhenjkcciaa
/- THE CELL 'sum', in the pinned program and in every row, IS THE sha256 OF THE DUMP (.gsa) THAT YtfdjjhenjkcciaaProg.lean LOADS. Nothing in Lean hashes anything: it is a label: what it is worth is what the hold of that sum in a sandbox is worth. -/
noncomputable def Try.pinned : Pinned := { name := "ytfdjjhenjkcciaa", sum := "afe3f19bab4728483b4459d052a6866564d2d37b8033489d8d42583283d25679", checked := Try.checked }
namespace Rows
def none {H : Type} : Left H := { results := [], args := [] }

/-- 'steadlaw.CountSays': WHATEVER THE INPUT: true; the input reads as it did. -/
def countSaysSpec : ChangeSpec := { name := "countSays", fn := fun _ => fun
  | [d1, d2, d3] => { results := [.lit (.bool true)], args := [d1, d2, d3] }
  | _ => none }
def countSaysRow : OpenClaim := { program := "ytfdjjhenjkcciaa", sum := "afe3f19bab4728483b4459d052a6866564d2d37b8033489d8d42583283d25679", func := "steadyhand/steadlaw.CountSays", spec := "countSays", apart := false }
def CountSaysSaid : Prop := countSaysRow.holds Try.pinned (OpenSpec.ofChange countSaysSpec)

/-- ITS FALSE NEIGHBOUR: 'it returns false'. Refute it at one input. -/
def countSaysWrong : ChangeSpec := { name := "countSays", fn := fun _ => fun
  | [d1, d2, d3] => { results := [.lit (.bool false)], args := [d1, d2, d3] }
  | _ => none }
def CountSaysWrongFalsely : Prop := countSaysRow.holds Try.pinned (OpenSpec.ofChange countSaysWrong)

/-- 'steadkeep.CountSoon': WHATEVER THE INPUT: true; the input reads as it did. -/
def countSoonSpec : ChangeSpec := { name := "countSoon", fn := fun _ => fun
  | [d1, d2] => { results := [.lit (.bool true)], args := [d1, d2] }
  | _ => none }
def countSoonRow : OpenClaim := { program := "ytfdjjhenjkcciaa", sum := "afe3f19bab4728483b4459d052a6866564d2d37b8033489d8d42583283d25679", func := "steadyhand/steadkeep.CountSoon", spec := "countSoon", apart := false }
def CountSoonSaid : Prop := countSoonRow.holds Try.pinned (OpenSpec.ofChange countSoonSpec)

/-- ITS FALSE NEIGHBOUR: 'it returns false'. Refute it at one input. -/
def countSoonWrong : ChangeSpec := { name := "countSoon", fn := fun _ => fun
  | [d1, d2] => { results := [.lit (.bool false)], args := [d1, d2] }
  | _ => none }
def CountSoonWrongFalsely : Prop := countSoonRow.holds Try.pinned (OpenSpec.ofChange countSoonWrong)

/-- 'steadkeep.CountHeld': WHATEVER THE INPUT: true; the input reads as it did. -/
def countHeldSpec : ChangeSpec := { name := "countHeld", fn := fun _ => fun
  | [d1, d2, d3] => { results := [.lit (.bool true)], args := [d1, d2, d3] }
  | _ => none }
def countHeldRow : OpenClaim := { program := "ytfdjjhenjkcciaa", sum := "afe3f19bab4728483b4459d052a6866564d2d37b8033489d8d42583283d25679", func := "steadyhand/steadkeep.CountHeld", spec := "countHeld", apart := false }
def CountHeldSaid : Prop := countHeldRow.holds Try.pinned (OpenSpec.ofChange countHeldSpec)

/-- ITS FALSE NEIGHBOUR: 'it returns false'. Refute it at one input. -/
def countHeldWrong : ChangeSpec := { name := "countHeld", fn := fun _ => fun
  | [d1, d2, d3] => { results := [.lit (.bool false)], args := [d1, d2, d3] }
  | _ => none }
def CountHeldWrongFalsely : Prop := countHeldRow.holds Try.pinned (OpenSpec.ofChange countHeldWrong)

/- THE SECOND FORM. 'bulk': how many values and letters a reading holds, each counted each time it is reached (what is shared counts as often as it is met; a slice's spare places count too). A statement '..UptoSaid' is the law's where the arguments, and the package variables that the reading takes, are together of bulk at most 1048576: NARROWER than '..Said'. Prove '..Said' where nothing that the law and all that it calls make is longer than what came in: it says more and counts as full. Else prove '..UptoSaid'. A law counts once. -/
mutual
def uptoBulk {H : Type} : DataW H → Nat
  | .lit (.string bytes) => bytes.length + 1
  | .lit _ => 1
  | .nil => 1
  | .ptr d => uptoBulk d + 1
  | .slice elems spare => uptoBulkAll elems + uptoBulkAll spare + 1
  | .agg parts => uptoBulkAll parts + 1
  | .iface _ d => uptoBulk d + 1
  | .map entries => uptoBulkEntries entries + 1
  | .held _ => 1
def uptoBulkAll {H : Type} : List (DataW H) → Nat
  | [] => 0
  | d :: r => uptoBulk d + uptoBulkAll r
def uptoBulkEntries {H : Type} : List (Lit × DataW H) → Nat
  | [] => 0
  | x :: r => uptoBulkEntry x + uptoBulkEntries r
def uptoBulkEntry {H : Type} : Lit × DataW H → Nat
  | (.string bytes, d) => bytes.length + uptoBulk d + 1
  | (_, d) => uptoBulk d + 1
 end
def uptoSmall : (H : Type) → List (DataW H) → Bool := fun _ ds => decide (uptoBulkAll ds ≤ 1048576)
def OpenSpec.upto (s : _root_.Go.ChangeSpec) : _root_.Go.OpenSpec := { _root_.Go.OpenSpec.ofChange s with cond := some uptoSmall }

/-- 'steadlaw.CountSays', WHERE WHAT IT READS IS OF BULK AT MOST 1048576: true; the input reads as it did. -/
def countSaysUptoRow : OpenClaim := { program := "ytfdjjhenjkcciaa", sum := "afe3f19bab4728483b4459d052a6866564d2d37b8033489d8d42583283d25679", func := "steadyhand/steadlaw.CountSays", spec := "countSays", apart := false, narrowed := true }
def CountSaysUptoSaid : Prop := countSaysUptoRow.holds Try.pinned (OpenSpec.upto countSaysSpec)

/-- 'steadkeep.CountSoon', WHERE WHAT IT READS IS OF BULK AT MOST 1048576: true; the input reads as it did. -/
def countSoonUptoRow : OpenClaim := { program := "ytfdjjhenjkcciaa", sum := "afe3f19bab4728483b4459d052a6866564d2d37b8033489d8d42583283d25679", func := "steadyhand/steadkeep.CountSoon", spec := "countSoon", apart := false, narrowed := true }
def CountSoonUptoSaid : Prop := countSoonUptoRow.holds Try.pinned (OpenSpec.upto countSoonSpec)

/-- 'steadkeep.CountHeld', WHERE WHAT IT READS IS OF BULK AT MOST 1048576: true; the input reads as it did. -/
def countHeldUptoRow : OpenClaim := { program := "ytfdjjhenjkcciaa", sum := "afe3f19bab4728483b4459d052a6866564d2d37b8033489d8d42583283d25679", func := "steadyhand/steadkeep.CountHeld", spec := "countHeld", apart := false, narrowed := true }
def CountHeldUptoSaid : Prop := countHeldUptoRow.holds Try.pinned (OpenSpec.upto countHeldSpec)

end Rows
end Go.Proofs.Ytfdjjhenjkcciaa
