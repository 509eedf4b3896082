/-
  No cell of these rows narrows 'for every input' (looked for: loops, veiled, ifaces, maps, wideKeys, modest, calm, conditions, laid).
  DERIVED. THE GIVEN ROWS OF THIS SEAT. 4 by the template 'for every input the law returns true; each argument reads behind the call as it read before'; 0 by the template 'total and deterministic' (their statements: YtnomceopmjlbhaaTotals.lean).
  GIVEN WITH THE SEED: the statements are not yours to turn. If you find one false, say at which input.
  Laid BY PROGRAM, IN A SANDBOX (cutbox-rows.mjs): the forced cells as the released guide's own fill.sh prints them over the translation 3c4c29be268c0c69… (all of the seat's roots in one cut). By AI agents, Wed Nov 11 2026. No macro, syntax, notation, axiom, sorry.
-/
import Derived.Test.YtnomceopmjlbhaaChecked
import GoSem.Claim
import GoSem.ClaimJoined
import GoSem.ClaimMapViews
import Derived.JoinedTies
import Derived.KernelRfl
namespace Go.Proofs.Ytnomceopmjlbhaa
/- THE CELL 'sum', in the pinned program and in every row, IS THE sha256 OF THE DUMP (.gsa) THAT YtnomceopmjlbhaaProg.lean LOADS. Nothing in Lean hashes anything: it is a label: what it is worth is what the hold of that sum in a sandbox is worth. -/
noncomputable def Try.pinned : Pinned := { name := "ytnomceopmjlbhaa", sum := "3c4c29be268c0c69bb6af6f9397ba52ef2aec846ece59e3841517907d3ad3fe4", checked := Try.checked }
namespace Rows
def none {H : Type} : Left H := { results := [], args := [] }

/-- 'steadlaw.RedSays': WHATEVER THE INPUT: true; the input reads as it did. -/
def redSaysSpec : ChangeSpec := { name := "redSays", fn := fun _ => fun
  | [d1, d2, d3, d4, d5] => { results := [.lit (.bool true)], args := [d1, d2, d3, d4, d5] }
  | _ => none }
def redSaysRow : OpenClaim := { program := "ytnomceopmjlbhaa", sum := "3c4c29be268c0c69bb6af6f9397ba52ef2aec846ece59e3841517907d3ad3fe4", func := "steadyhand/steadlaw.RedSays", spec := "redSays", plainKeys := false, apart := false }
def RedSaysSaid : Prop := redSaysRow.holds Try.pinned (OpenSpec.ofChange redSaysSpec)

/-- ITS FALSE NEIGHBOUR: 'it returns false'. Refute it at one input. -/
def redSaysWrong : ChangeSpec := { name := "redSays", fn := fun _ => fun
  | [d1, d2, d3, d4, d5] => { results := [.lit (.bool false)], args := [d1, d2, d3, d4, d5] }
  | _ => none }
def RedSaysWrongFalsely : Prop := redSaysRow.holds Try.pinned (OpenSpec.ofChange redSaysWrong)

/-- 'steadkeep.RedSafe': WHATEVER THE INPUT: true; the input reads as it did. -/
def redSafeSpec : ChangeSpec := { name := "redSafe", fn := fun _ => fun
  | [d1, d2, d3] => { results := [.lit (.bool true)], args := [d1, d2, d3] }
  | _ => none }
def redSafeRow : OpenClaim := { program := "ytnomceopmjlbhaa", sum := "3c4c29be268c0c69bb6af6f9397ba52ef2aec846ece59e3841517907d3ad3fe4", func := "steadyhand/steadkeep.RedSafe", spec := "redSafe", plainKeys := false, apart := false }
def RedSafeSaid : Prop := redSafeRow.holds Try.pinned (OpenSpec.ofChange redSafeSpec)

/-- ITS FALSE NEIGHBOUR: 'it returns false'. Refute it at one input. -/
def redSafeWrong : ChangeSpec := { name := "redSafe", fn := fun _ => fun
  | [d1, d2, d3] => { results := [.lit (.bool false)], args := [d1, d2, d3] }
  | _ => none }
def RedSafeWrongFalsely : Prop := redSafeRow.holds Try.pinned (OpenSpec.ofChange redSafeWrong)

/-- 'steadkeep.RedStays': WHATEVER THE INPUT: true; the input reads as it did. -/
def redStaysSpec : ChangeSpec := { name := "redStays", fn := fun _ => fun
  | [d1, d2, d3] => { results := [.lit (.bool true)], args := [d1, d2, d3] }
  | _ => none }
def redStaysRow : OpenClaim := { program := "ytnomceopmjlbhaa", sum := "3c4c29be268c0c69bb6af6f9397ba52ef2aec846ece59e3841517907d3ad3fe4", func := "steadyhand/steadkeep.RedStays", spec := "redStays", plainKeys := false, apart := false }
def RedStaysSaid : Prop := redStaysRow.holds Try.pinned (OpenSpec.ofChange redStaysSpec)

/-- ITS FALSE NEIGHBOUR: 'it returns false'. Refute it at one input. -/
def redStaysWrong : ChangeSpec := { name := "redStays", fn := fun _ => fun
  | [d1, d2, d3] => { results := [.lit (.bool false)], args := [d1, d2, d3] }
  | _ => none }
def RedStaysWrongFalsely : Prop := redStaysRow.holds Try.pinned (OpenSpec.ofChange redStaysWrong)

/-- 'steadkeep.RedLowest': WHATEVER THE INPUT: true; the input reads as it did. -/
def redLowestSpec : ChangeSpec := { name := "redLowest", fn := fun _ => fun
  | [d1, d2, d3] => { results := [.lit (.bool true)], args := [d1, d2, d3] }
  | _ => none }
def redLowestRow : OpenClaim := { program := "ytnomceopmjlbhaa", sum := "3c4c29be268c0c69bb6af6f9397ba52ef2aec846ece59e3841517907d3ad3fe4", func := "steadyhand/steadkeep.RedLowest", spec := "redLowest", plainKeys := false, apart := false }
def RedLowestSaid : Prop := redLowestRow.holds Try.pinned (OpenSpec.ofChange redLowestSpec)

/-- ITS FALSE NEIGHBOUR: 'it returns false'. Refute it at one input. -/
def redLowestWrong : ChangeSpec := { name := "redLowest", fn := fun _ => fun
  | [d1, d2, d3] => { results := [.lit (.bool false)], args := [d1, d2, d3] }
  | _ => none }
def RedLowestWrongFalsely : Prop := redLowestRow.holds Try.pinned (OpenSpec.ofChange redLowestWrong)

/- THE SECOND FORM. 'bulk': how many values and letters a reading holds, each counted each time it is reached (what is shared counts as often as it is met; a slice's spare places count too). A statement '..UptoSaid' is the law's where the arguments, and the package variables that the reading takes, are together of bulk at most 1048576: NARROWER than '..Said'. Prove '..Said' where nothing that the law and all that it calls make is longer than what came in: it says more and counts as full. Else prove '..UptoSaid'. A law counts once. -/
mutual
def uptoBulk {H : Type} : DataW H → Nat
  | .lit (.string bytes) => bytes.length + 1
  | .lit _ => 1
  | .nil => 1
  | .ptr d => uptoBulk d + 1
  | .slice elems spare => uptoBulkAll elems + uptoBulkAll spare + 1
  | .agg parts => uptoBulkAll parts + 1
  | .iface _ d => uptoBulk d + 1
  | .map entries => uptoBulkEntries entries + 1
  | .held _ => 1
def uptoBulkAll {H : Type} : List (DataW H) → Nat
  | [] => 0
  | d :: r => uptoBulk d + uptoBulkAll r
def uptoBulkEntries {H : Type} : List (Lit × DataW H) → Nat
  | [] => 0
  | x :: r => uptoBulkEntry x + uptoBulkEntries r
def uptoBulkEntry {H : Type} : Lit × DataW H → Nat
  | (.string bytes, d) => bytes.length + uptoBulk d + 1
  | (_, d) => uptoBulk d + 1
 end
def uptoSmall : (H : Type) → List (DataW H) → Bool := fun _ ds => decide (uptoBulkAll ds ≤ 1048576)
def OpenSpec.upto (s : _root_.Go.ChangeSpec) : _root_.Go.OpenSpec := { _root_.Go.OpenSpec.ofChange s with cond := some uptoSmall }

/-- 'steadlaw.RedSays', WHERE WHAT IT READS IS OF BULK AT MOST 1048576: true; the input reads as it did. -/
def redSaysUptoRow : OpenClaim := { program := "ytnomceopmjlbhaa", sum := "3c4c29be268c0c69bb6af6f9397ba52ef2aec846ece59e3841517907d3ad3fe4", func := "steadyhand/steadlaw.RedSays", spec := "redSays", plainKeys := false, apart := false, narrowed := true }
def RedSaysUptoSaid : Prop := redSaysUptoRow.holds Try.pinned (OpenSpec.upto redSaysSpec)

/-- 'steadkeep.RedSafe', WHERE WHAT IT READS IS OF BULK AT MOST 1048576: true; the input reads as it did. -/
def redSafeUptoRow : OpenClaim := { program := "ytnomceopmjlbhaa", sum := "3c4c29be268c0c69bb6af6f9397ba52ef2aec846ece59e3841517907d3ad3fe4", func := "steadyhand/steadkeep.RedSafe", spec := "redSafe", plainKeys := false, apart := false, narrowed := true }
def RedSafeUptoSaid : Prop := redSafeUptoRow.holds Try.pinned (OpenSpec.upto redSafeSpec)

/-- 'steadkeep.RedStays', WHERE WHAT IT READS IS OF BULK AT MOST 1048576: true; the input reads as it did. -/
def redStaysUptoRow : OpenClaim := { program := "ytnomceopmjlbhaa", sum := "3c4c29be268c0c69bb6af6f9397ba52ef2aec846ece59e3841517907d3ad3fe4", func := "steadyhand/steadkeep.RedStays", spec := "redStays", plainKeys := false, apart := false, narrowed := true }
def RedStaysUptoSaid : Prop := redStaysUptoRow.holds Try.pinned (OpenSpec.upto redStaysSpec)

/-- 'steadkeep.RedLowest', WHERE WHAT IT READS IS OF BULK AT MOST 1048576: true; the input reads as it did. -/
def redLowestUptoRow : OpenClaim := { program := "ytnomceopmjlbhaa", sum := "3c4c29be268c0c69bb6af6f9397ba52ef2aec846ece59e3841517907d3ad3fe4", func := "steadyhand/steadkeep.RedLowest", spec := "redLowest", plainKeys := false, apart := false, narrowed := true }
def RedLowestUptoSaid : Prop := redLowestUptoRow.holds Try.pinned (OpenSpec.upto redLowestSpec)

end Rows
end Go.Proofs.Ytnomceopmjlbhaa
