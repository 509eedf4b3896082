/-
  No cell of these rows narrows 'for every input' (looked for: loops, veiled, ifaces, maps, wideKeys, modest, calm, conditions, laid).
  DERIVED. THE GIVEN ROWS OF THIS SEAT. 3 by the template 'for every input the law returns true; each argument reads behind the call as it read before'; 0 by the template 'total and deterministic' (their statements: YtokfdapocnmafaaTotals.lean).
  GIVEN WITH THE SEED: the statements are not yours to turn. If you find one false, say at which input.
  Laid BY PROGRAM, IN A SANDBOX (cutbox-rows.mjs): the forced cells as the released guide's own fill.sh prints them over the translation a84603f10ba3bdc9… (all of the seat's roots in one cut). By AI agents, Wed Nov 11 2026. No macro, syntax, notation, axiom, sorry.
-/
import Derived.Test.YtokfdapocnmafaaChecked
import GoSem.Claim
import GoSem.ClaimJoined
import GoSem.ClaimMapViews
import Derived.JoinedTies
import Derived.KernelRfl
namespace Go.Proofs.Ytokfdapocnmafaa
/- THE CELL 'sum', in the pinned program and in every row, IS THE sha256 OF THE DUMP (.gsa) THAT YtokfdapocnmafaaProg.lean LOADS. Nothing in Lean hashes anything: it is a label: what it is worth is what the hold of that sum in a sandbox is worth. -/
noncomputable def Try.pinned : Pinned := { name := "ytokfdapocnmafaa", sum := "a84603f10ba3bdc93530b2c46fc9a31408342d4df7c30b2c2bb580c3465cbaa4", checked := Try.checked }
namespace Rows
def none {H : Type} : Left H := { results := [], args := [] }

/-- 'steadlaw.AgreeSays': WHATEVER THE INPUT: true; the input reads as it did. -/
def agreeSaysSpec : ChangeSpec := { name := "agreeSays", fn := fun _ => fun
  | [d1, d2] => { results := [.lit (.bool true)], args := [d1, d2] }
  | _ => none }
def agreeSaysRow : OpenClaim := { program := "ytokfdapocnmafaa", sum := "a84603f10ba3bdc93530b2c46fc9a31408342d4df7c30b2c2bb580c3465cbaa4", func := "steadyhand/steadlaw.AgreeSays", spec := "agreeSays", recurses := true, apart := false }
def AgreeSaysSaid : Prop := agreeSaysRow.holds Try.pinned (OpenSpec.ofChange agreeSaysSpec)

/-- ITS FALSE NEIGHBOUR: 'it returns false'. Refute it at one input. -/
def agreeSaysWrong : ChangeSpec := { name := "agreeSays", fn := fun _ => fun
  | [d1, d2] => { results := [.lit (.bool false)], args := [d1, d2] }
  | _ => none }
def AgreeSaysWrongFalsely : Prop := agreeSaysRow.holds Try.pinned (OpenSpec.ofChange agreeSaysWrong)

/-- 'steadkeep.AgreeSame': WHATEVER THE INPUT: true; the input reads as it did. -/
def agreeSameSpec : ChangeSpec := { name := "agreeSame", fn := fun _ => fun
  | [d1, d2, d3, d4] => { results := [.lit (.bool true)], args := [d1, d2, d3, d4] }
  | _ => none }
def agreeSameRow : OpenClaim := { program := "ytokfdapocnmafaa", sum := "a84603f10ba3bdc93530b2c46fc9a31408342d4df7c30b2c2bb580c3465cbaa4", func := "steadyhand/steadkeep.AgreeSame", spec := "agreeSame", recurses := true, apart := false }
def AgreeSameSaid : Prop := agreeSameRow.holds Try.pinned (OpenSpec.ofChange agreeSameSpec)

/-- ITS FALSE NEIGHBOUR: 'it returns false'. Refute it at one input. -/
def agreeSameWrong : ChangeSpec := { name := "agreeSame", fn := fun _ => fun
  | [d1, d2, d3, d4] => { results := [.lit (.bool false)], args := [d1, d2, d3, d4] }
  | _ => none }
def AgreeSameWrongFalsely : Prop := agreeSameRow.holds Try.pinned (OpenSpec.ofChange agreeSameWrong)

/-- 'steadkeep.AgreeFair': WHATEVER THE INPUT: true; the input reads as it did. -/
def agreeFairSpec : ChangeSpec := { name := "agreeFair", fn := fun _ => fun
  | [d1, d2, d3, d4] => { results := [.lit (.bool true)], args := [d1, d2, d3, d4] }
  | _ => none }
def agreeFairRow : OpenClaim := { program := "ytokfdapocnmafaa", sum := "a84603f10ba3bdc93530b2c46fc9a31408342d4df7c30b2c2bb580c3465cbaa4", func := "steadyhand/steadkeep.AgreeFair", spec := "agreeFair", apart := false }
def AgreeFairSaid : Prop := agreeFairRow.holds Try.pinned (OpenSpec.ofChange agreeFairSpec)

/-- ITS FALSE NEIGHBOUR: 'it returns false'. Refute it at one input. -/
def agreeFairWrong : ChangeSpec := { name := "agreeFair", fn := fun _ => fun
  | [d1, d2, d3, d4] => { results := [.lit (.bool false)], args := [d1, d2, d3, d4] }
  | _ => none }
def AgreeFairWrongFalsely : Prop := agreeFairRow.holds Try.pinned (OpenSpec.ofChange agreeFairWrong)

/- THE SECOND FORM. 'bulk': how many values and letters a reading holds, each counted each time it is reached (what is shared counts as often as it is met; a slice's spare places count too). A statement '..UptoSaid' is the law's where the arguments, and the package variables that the reading takes, are together of bulk at most 1048576: NARROWER than '..Said'. Prove '..Said' where nothing that the law and all that it calls make is longer than what came in: it says more and counts as full. Else prove '..UptoSaid'. A law counts once. -/
mutual
def uptoBulk {H : Type} : DataW H → Nat
  | .lit (.string bytes) => bytes.length + 1
  | .lit _ => 1
  | .nil => 1
  | .ptr d => uptoBulk d + 1
  | .slice elems spare => uptoBulkAll elems + uptoBulkAll spare + 1
  | .agg parts => uptoBulkAll parts + 1
  | .iface _ d => uptoBulk d + 1
  | .map entries => uptoBulkEntries entries + 1
  | .held _ => 1
def uptoBulkAll {H : Type} : List (DataW H) → Nat
  | [] => 0
  | d :: r => uptoBulk d + uptoBulkAll r
def uptoBulkEntries {H : Type} : List (Lit × DataW H) → Nat
  | [] => 0
  | x :: r => uptoBulkEntry x + uptoBulkEntries r
def uptoBulkEntry {H : Type} : Lit × DataW H → Nat
  | (.string bytes, d) => bytes.length + uptoBulk d + 1
  | (_, d) => uptoBulk d + 1
 end
def uptoSmall : (H : Type) → List (DataW H) → Bool := fun _ ds => decide (uptoBulkAll ds ≤ 1048576)
def OpenSpec.upto (s : _root_.Go.ChangeSpec) : _root_.Go.OpenSpec := { _root_.Go.OpenSpec.ofChange s with cond := some uptoSmall }

/-- 'steadlaw.AgreeSays', WHERE WHAT IT READS IS OF BULK AT MOST 1048576: true; the input reads as it did. -/
def agreeSaysUptoRow : OpenClaim := { program := "ytokfdapocnmafaa", sum := "a84603f10ba3bdc93530b2c46fc9a31408342d4df7c30b2c2bb580c3465cbaa4", func := "steadyhand/steadlaw.AgreeSays", spec := "agreeSays", recurses := true, apart := false, narrowed := true }
def AgreeSaysUptoSaid : Prop := agreeSaysUptoRow.holds Try.pinned (OpenSpec.upto agreeSaysSpec)

/-- 'steadkeep.AgreeSame', WHERE WHAT IT READS IS OF BULK AT MOST 1048576: true; the input reads as it did. -/
def agreeSameUptoRow : OpenClaim := { program := "ytokfdapocnmafaa", sum := "a84603f10ba3bdc93530b2c46fc9a31408342d4df7c30b2c2bb580c3465cbaa4", func := "steadyhand/steadkeep.AgreeSame", spec := "agreeSame", recurses := true, apart := false, narrowed := true }
def AgreeSameUptoSaid : Prop := agreeSameUptoRow.holds Try.pinned (OpenSpec.upto agreeSameSpec)

/-- 'steadkeep.AgreeFair', WHERE WHAT IT READS IS OF BULK AT MOST 1048576: true; the input reads as it did. -/
def agreeFairUptoRow : OpenClaim := { program := "ytokfdapocnmafaa", sum := "a84603f10ba3bdc93530b2c46fc9a31408342d4df7c30b2c2bb580c3465cbaa4", func := "steadyhand/steadkeep.AgreeFair", spec := "agreeFair", apart := false, narrowed := true }
def AgreeFairUptoSaid : Prop := agreeFairUptoRow.holds Try.pinned (OpenSpec.upto agreeFairSpec)

end Rows
end Go.Proofs.Ytokfdapocnmafaa
