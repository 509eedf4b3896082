/-
  No cell of these rows narrows 'for every input' (looked for: loops, veiled, ifaces, maps, wideKeys, modest, calm, conditions, laid).
  DERIVED. THE GIVEN ROWS OF THIS SEAT. 3 by the template 'for every input the law returns true; each argument reads behind the call as it read before'; 0 by the template 'total and deterministic' (their statements: YtfbokeekkbdblaaTotals.lean).
  GIVEN WITH THE SEED: the statements are not yours to turn. If you find one false, say at which input.
  Laid BY PROGRAM, IN A SANDBOX (cutbox-rows.mjs): the forced cells as the released guide's own fill.sh prints them over the translation fc7bf5f8af573398… (all of the seat's roots in one cut). By AI agents, Wed Nov 11 2026. No macro, syntax, notation, axiom, sorry.
-/
import Derived.Test.YtfbokeekkbdblaaChecked
import GoSem.Claim
import GoSem.ClaimJoined
import GoSem.ClaimMapViews
import Derived.JoinedTies
import Derived.KernelRfl
namespace Go.Proofs.Ytfbokeekkbdblaa
/- THE CELL 'sum', in the pinned program and in every row, IS THE sha256 OF THE DUMP (.gsa) THAT YtfbokeekkbdblaaProg.lean LOADS. Nothing in Lean hashes anything: it is a label: what it is worth is what the hold of that sum in a sandbox is worth. -/
noncomputable def Try.pinned : Pinned := { name := "ytfbokeekkbdblaa", sum := "fc7bf5f8af573398238b19687426fbf56e4439d092631b222e88e97bedb78f34", checked := Try.checked }
namespace Rows
def none {H : Type} : Left H := { results := [], args := [] }

/-- 'steadlaw.EvenSays': WHATEVER THE INPUT: true; the input reads as it did. -/
def evenSaysSpec : ChangeSpec := { name := "evenSays", fn := fun _ => fun
  | [d1, d2, d3, d4, d5] => { results := [.lit (.bool true)], args := [d1, d2, d3, d4, d5] }
  | _ => none }
def evenSaysRow : OpenClaim := { program := "ytfbokeekkbdblaa", sum := "fc7bf5f8af573398238b19687426fbf56e4439d092631b222e88e97bedb78f34", func := "steadyhand/steadlaw.EvenSays", spec := "evenSays", apart := false }
def EvenSaysSaid : Prop := evenSaysRow.holds Try.pinned (OpenSpec.ofChange evenSaysSpec)

/-- ITS FALSE NEIGHBOUR: 'it returns false'. Refute it at one input. -/
def evenSaysWrong : ChangeSpec := { name := "evenSays", fn := fun _ => fun
  | [d1, d2, d3, d4, d5] => { results := [.lit (.bool false)], args := [d1, d2, d3, d4, d5] }
  | _ => none }
def EvenSaysWrongFalsely : Prop := evenSaysRow.holds Try.pinned (OpenSpec.ofChange evenSaysWrong)

/-- 'steadkeep.EvenBounds': WHATEVER THE INPUT: true; the input reads as it did. -/
def evenBoundsSpec : ChangeSpec := { name := "evenBounds", fn := fun _ => fun
  | [d1, d2, d3, d4, d5] => { results := [.lit (.bool true)], args := [d1, d2, d3, d4, d5] }
  | _ => none }
def evenBoundsRow : OpenClaim := { program := "ytfbokeekkbdblaa", sum := "fc7bf5f8af573398238b19687426fbf56e4439d092631b222e88e97bedb78f34", func := "steadyhand/steadkeep.EvenBounds", spec := "evenBounds", apart := false }
def EvenBoundsSaid : Prop := evenBoundsRow.holds Try.pinned (OpenSpec.ofChange evenBoundsSpec)

/-- ITS FALSE NEIGHBOUR: 'it returns false'. Refute it at one input. -/
def evenBoundsWrong : ChangeSpec := { name := "evenBounds", fn := fun _ => fun
  | [d1, d2, d3, d4, d5] => { results := [.lit (.bool false)], args := [d1, d2, d3, d4, d5] }
  | _ => none }
def EvenBoundsWrongFalsely : Prop := evenBoundsRow.holds Try.pinned (OpenSpec.ofChange evenBoundsWrong)

/-- 'steadkeep.RamEnds': WHATEVER THE INPUT: true; the input reads as it did. -/
def ramEndsSpec : ChangeSpec := { name := "ramEnds", fn := fun _ => fun
  | [d1, d2, d3, d4, d5] => { results := [.lit (.bool true)], args := [d1, d2, d3, d4, d5] }
  | _ => none }
def ramEndsRow : OpenClaim := { program := "ytfbokeekkbdblaa", sum := "fc7bf5f8af573398238b19687426fbf56e4439d092631b222e88e97bedb78f34", func := "steadyhand/steadkeep.RamEnds", spec := "ramEnds", apart := false }
def RamEndsSaid : Prop := ramEndsRow.holds Try.pinned (OpenSpec.ofChange ramEndsSpec)

/-- ITS FALSE NEIGHBOUR: 'it returns false'. Refute it at one input. -/
def ramEndsWrong : ChangeSpec := { name := "ramEnds", fn := fun _ => fun
  | [d1, d2, d3, d4, d5] => { results := [.lit (.bool false)], args := [d1, d2, d3, d4, d5] }
  | _ => none }
def RamEndsWrongFalsely : Prop := ramEndsRow.holds Try.pinned (OpenSpec.ofChange ramEndsWrong)

/- THE SECOND FORM. 'bulk': how many values and letters a reading holds, each counted each time it is reached (what is shared counts as often as it is met; a slice's spare places count too). A statement '..UptoSaid' is the law's where the arguments, and the package variables that the reading takes, are together of bulk at most 1048576: NARROWER than '..Said'. Prove '..Said' where nothing that the law and all that it calls make is longer than what came in: it says more and counts as full. Else prove '..UptoSaid'. A law counts once. -/
mutual
def uptoBulk {H : Type} : DataW H → Nat
  | .lit (.string bytes) => bytes.length + 1
  | .lit _ => 1
  | .nil => 1
  | .ptr d => uptoBulk d + 1
  | .slice elems spare => uptoBulkAll elems + uptoBulkAll spare + 1
  | .agg parts => uptoBulkAll parts + 1
  | .iface _ d => uptoBulk d + 1
  | .map entries => uptoBulkEntries entries + 1
  | .held _ => 1
def uptoBulkAll {H : Type} : List (DataW H) → Nat
  | [] => 0
  | d :: r => uptoBulk d + uptoBulkAll r
def uptoBulkEntries {H : Type} : List (Lit × DataW H) → Nat
  | [] => 0
  | x :: r => uptoBulkEntry x + uptoBulkEntries r
def uptoBulkEntry {H : Type} : Lit × DataW H → Nat
  | (.string bytes, d) => bytes.length + uptoBulk d + 1
  | (_, d) => uptoBulk d + 1
 end
def uptoSmall : (H : Type) → List (DataW H) → Bool := fun _ ds => decide (uptoBulkAll ds ≤ 1048576)
def OpenSpec.upto (s : _root_.Go.ChangeSpec) : _root_.Go.OpenSpec := { _root_.Go.OpenSpec.ofChange s with cond := some uptoSmall }

/-- 'steadlaw.EvenSays', WHERE WHAT IT READS IS OF BULK AT MOST 1048576: true; the input reads as it did. -/
def evenSaysUptoRow : OpenClaim := { program := "ytfbokeekkbdblaa", sum := "fc7bf5f8af573398238b19687426fbf56e4439d092631b222e88e97bedb78f34", func := "steadyhand/steadlaw.EvenSays", spec := "evenSays", apart := false, narrowed := true }
def EvenSaysUptoSaid : Prop := evenSaysUptoRow.holds Try.pinned (OpenSpec.upto evenSaysSpec)

/-- 'steadkeep.EvenBounds', WHERE WHAT IT READS IS OF BULK AT MOST 1048576: true; the input reads as it did. -/
def evenBoundsUptoRow : OpenClaim := { program := "ytfbokeekkbdblaa", sum := "fc7bf5f8af573398238b19687426fbf56e4439d092631b222e88e97bedb78f34", func := "steadyhand/steadkeep.EvenBounds", spec := "evenBounds", apart := false, narrowed := true }
def EvenBoundsUptoSaid : Prop := evenBoundsUptoRow.holds Try.pinned (OpenSpec.upto evenBoundsSpec)

/-- 'steadkeep.RamEnds', WHERE WHAT IT READS IS OF BULK AT MOST 1048576: true; the input reads as it did. -/
def ramEndsUptoRow : OpenClaim := { program := "ytfbokeekkbdblaa", sum := "fc7bf5f8af573398238b19687426fbf56e4439d092631b222e88e97bedb78f34", func := "steadyhand/steadkeep.RamEnds", spec := "ramEnds", apart := false, narrowed := true }
def RamEndsUptoSaid : Prop := ramEndsUptoRow.holds Try.pinned (OpenSpec.upto ramEndsSpec)

end Rows
end Go.Proofs.Ytfbokeekkbdblaa
