/-
  No cell of these rows narrows 'for every input' (looked for: loops, veiled, ifaces, maps, wideKeys, modest, calm, conditions, laid).
  DERIVED. THE GIVEN ROWS OF THIS SEAT. 3 by the template 'for every input the law returns true; each argument reads behind the call as it read before'; 0 by the template 'total and deterministic' (their statements: YtbpenfjnfoljoaaTotals.lean).
  GIVEN WITH THE SEED: the statements are not yours to turn. If you find one false, say at which input.
  Laid BY PROGRAM, IN A SANDBOX (cutbox-rows.mjs): the forced cells as the released guide's own fill.sh prints them over the translation 2f02ee5b128c744b… (all of the seat's roots in one cut). By AI agents, Wed Nov 11 2026. No macro, syntax, notation, axiom, sorry.
-/
import Derived.Test.YtbpenfjnfoljoaaChecked
import GoSem.Claim
import GoSem.ClaimJoined
import GoSem.ClaimMapViews
import Derived.JoinedTies
import Derived.KernelRfl
namespace Go.Proofs.Ytbpenfjnfoljoaa
/- THE CELL 'sum', in the pinned program and in every row, IS THE sha256 OF THE DUMP (.gsa) THAT YtbpenfjnfoljoaaProg.lean LOADS. Nothing in Lean hashes anything: it is a label: what it is worth is what the hold of that sum in a sandbox is worth. -/
noncomputable def Try.pinned : Pinned := { name := "ytbpenfjnfoljoaa", sum := "2f02ee5b128c744b217cfd436c4474847f2c4eda9d441ee58dac7f105c085fb8", checked := Try.checked }
namespace Rows
def none {H : Type} : Left H := { results := [], args := [] }

/-- 'steadlaw.ServoSays': WHATEVER THE INPUT: true; the input reads as it did. -/
def servoSaysSpec : ChangeSpec := { name := "servoSays", fn := fun _ => fun
  | [d1, d2, d3, d4, d5, d6, d7] => { results := [.lit (.bool true)], args := [d1, d2, d3, d4, d5, d6, d7] }
  | _ => none }
def servoSaysRow : OpenClaim := { program := "ytbpenfjnfoljoaa", sum := "2f02ee5b128c744b217cfd436c4474847f2c4eda9d441ee58dac7f105c085fb8", func := "steadyhand/steadlaw.ServoSays", spec := "servoSays", apart := false }
def ServoSaysSaid : Prop := servoSaysRow.holds Try.pinned (OpenSpec.ofChange servoSaysSpec)

/-- ITS FALSE NEIGHBOUR: 'it returns false'. Refute it at one input. -/
def servoSaysWrong : ChangeSpec := { name := "servoSays", fn := fun _ => fun
  | [d1, d2, d3, d4, d5, d6, d7] => { results := [.lit (.bool false)], args := [d1, d2, d3, d4, d5, d6, d7] }
  | _ => none }
def ServoSaysWrongFalsely : Prop := servoSaysRow.holds Try.pinned (OpenSpec.ofChange servoSaysWrong)

/-- 'steadkeep.ServoSense': WHATEVER THE INPUT: true; the input reads as it did. -/
def servoSenseSpec : ChangeSpec := { name := "servoSense", fn := fun _ => fun
  | [d1, d2, d3] => { results := [.lit (.bool true)], args := [d1, d2, d3] }
  | _ => none }
def servoSenseRow : OpenClaim := { program := "ytbpenfjnfoljoaa", sum := "2f02ee5b128c744b217cfd436c4474847f2c4eda9d441ee58dac7f105c085fb8", func := "steadyhand/steadkeep.ServoSense", spec := "servoSense", apart := false }
def ServoSenseSaid : Prop := servoSenseRow.holds Try.pinned (OpenSpec.ofChange servoSenseSpec)

/-- ITS FALSE NEIGHBOUR: 'it returns false'. Refute it at one input. -/
def servoSenseWrong : ChangeSpec := { name := "servoSense", fn := fun _ => fun
  | [d1, d2, d3] => { results := [.lit (.bool false)], args := [d1, d2, d3] }
  | _ => none }
def ServoSenseWrongFalsely : Prop := servoSenseRow.holds Try.pinned (OpenSpec.ofChange servoSenseWrong)

/-- 'steadkeep.ServoGoal': WHATEVER THE INPUT: true; the input reads as it did. -/
def servoGoalSpec : ChangeSpec := { name := "servoGoal", fn := fun _ => fun
  | [d1, d2, d3, d4] => { results := [.lit (.bool true)], args := [d1, d2, d3, d4] }
  | _ => none }
def servoGoalRow : OpenClaim := { program := "ytbpenfjnfoljoaa", sum := "2f02ee5b128c744b217cfd436c4474847f2c4eda9d441ee58dac7f105c085fb8", func := "steadyhand/steadkeep.ServoGoal", spec := "servoGoal", apart := false }
def ServoGoalSaid : Prop := servoGoalRow.holds Try.pinned (OpenSpec.ofChange servoGoalSpec)

/-- ITS FALSE NEIGHBOUR: 'it returns false'. Refute it at one input. -/
def servoGoalWrong : ChangeSpec := { name := "servoGoal", fn := fun _ => fun
  | [d1, d2, d3, d4] => { results := [.lit (.bool false)], args := [d1, d2, d3, d4] }
  | _ => none }
def ServoGoalWrongFalsely : Prop := servoGoalRow.holds Try.pinned (OpenSpec.ofChange servoGoalWrong)

/- THE SECOND FORM. 'bulk': how many values and letters a reading holds, each counted each time it is reached (what is shared counts as often as it is met; a slice's spare places count too). A statement '..UptoSaid' is the law's where the arguments, and the package variables that the reading takes, are together of bulk at most 1048576: NARROWER than '..Said'. Prove '..Said' where nothing that the law and all that it calls make is longer than what came in: it says more and counts as full. Else prove '..UptoSaid'. A law counts once. -/
mutual
def uptoBulk {H : Type} : DataW H → Nat
  | .lit (.string bytes) => bytes.length + 1
  | .lit _ => 1
  | .nil => 1
  | .ptr d => uptoBulk d + 1
  | .slice elems spare => uptoBulkAll elems + uptoBulkAll spare + 1
  | .agg parts => uptoBulkAll parts + 1
  | .iface _ d => uptoBulk d + 1
  | .map entries => uptoBulkEntries entries + 1
  | .held _ => 1
def uptoBulkAll {H : Type} : List (DataW H) → Nat
  | [] => 0
  | d :: r => uptoBulk d + uptoBulkAll r
def uptoBulkEntries {H : Type} : List (Lit × DataW H) → Nat
  | [] => 0
  | x :: r => uptoBulkEntry x + uptoBulkEntries r
def uptoBulkEntry {H : Type} : Lit × DataW H → Nat
  | (.string bytes, d) => bytes.length + uptoBulk d + 1
  | (_, d) => uptoBulk d + 1
 end
def uptoSmall : (H : Type) → List (DataW H) → Bool := fun _ ds => decide (uptoBulkAll ds ≤ 1048576)
def OpenSpec.upto (s : _root_.Go.ChangeSpec) : _root_.Go.OpenSpec := { _root_.Go.OpenSpec.ofChange s with cond := some uptoSmall }

/-- 'steadlaw.ServoSays', WHERE WHAT IT READS IS OF BULK AT MOST 1048576: true; the input reads as it did. -/
def servoSaysUptoRow : OpenClaim := { program := "ytbpenfjnfoljoaa", sum := "2f02ee5b128c744b217cfd436c4474847f2c4eda9d441ee58dac7f105c085fb8", func := "steadyhand/steadlaw.ServoSays", spec := "servoSays", apart := false, narrowed := true }
def ServoSaysUptoSaid : Prop := servoSaysUptoRow.holds Try.pinned (OpenSpec.upto servoSaysSpec)

/-- 'steadkeep.ServoSense', WHERE WHAT IT READS IS OF BULK AT MOST 1048576: true; the input reads as it did. -/
def servoSenseUptoRow : OpenClaim := { program := "ytbpenfjnfoljoaa", sum := "2f02ee5b128c744b217cfd436c4474847f2c4eda9d441ee58dac7f105c085fb8", func := "steadyhand/steadkeep.ServoSense", spec := "servoSense", apart := false, narrowed := true }
def ServoSenseUptoSaid : Prop := servoSenseUptoRow.holds Try.pinned (OpenSpec.upto servoSenseSpec)

/-- 'steadkeep.ServoGoal', WHERE WHAT IT READS IS OF BULK AT MOST 1048576: true; the input reads as it did. -/
def servoGoalUptoRow : OpenClaim := { program := "ytbpenfjnfoljoaa", sum := "2f02ee5b128c744b217cfd436c4474847f2c4eda9d441ee58dac7f105c085fb8", func := "steadyhand/steadkeep.ServoGoal", spec := "servoGoal", apart := false, narrowed := true }
def ServoGoalUptoSaid : Prop := servoGoalUptoRow.holds Try.pinned (OpenSpec.upto servoGoalSpec)

end Rows
end Go.Proofs.Ytbpenfjnfoljoaa
