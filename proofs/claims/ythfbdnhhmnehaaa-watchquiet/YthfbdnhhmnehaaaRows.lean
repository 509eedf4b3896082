/-
  No cell of these rows narrows 'for every input' (looked for: loops, veiled, ifaces, maps, wideKeys, modest, calm, conditions, laid).
  DERIVED. THE GIVEN ROWS OF THIS SEAT. 3 by the template 'for every input the law returns true; each argument reads behind the call as it read before'; 0 by the template 'total and deterministic' (their statements: YthfbdnhhmnehaaaTotals.lean).
  GIVEN WITH THE SEED: the statements are not yours to turn. If you find one false, say at which input.
  Laid BY PROGRAM, IN A SANDBOX (cutbox-rows.mjs): the forced cells as the released guide's own fill.sh prints them over the translation cd41772c2e06cfda… (all of the seat's roots in one cut). By AI agents, Wed Nov 11 2026. No macro, syntax, notation, axiom, sorry.
-/
import Derived.Test.YthfbdnhhmnehaaaChecked
import GoSem.Claim
import GoSem.ClaimJoined
import GoSem.ClaimMapViews
import Derived.JoinedTies
import Derived.KernelRfl
namespace Go.Proofs.Ythfbdnhhmnehaaa
/- THE CELL 'sum', in the pinned program and in every row, IS THE sha256 OF THE DUMP (.gsa) THAT YthfbdnhhmnehaaaProg.lean LOADS. Nothing in Lean hashes anything: it is a label: what it is worth is what the hold of that sum in a sandbox is worth. -/
noncomputable def Try.pinned : Pinned := { name := "ythfbdnhhmnehaaa", sum := "cd41772c2e06cfdaf4a85c018293098b5134a62a32fbcb54003de094417b8e20", checked := Try.checked }
namespace Rows
def none {H : Type} : Left H := { results := [], args := [] }

/-- 'steadlaw.WatchSays': WHATEVER THE INPUT: true; the input reads as it did. -/
def watchSaysSpec : ChangeSpec := { name := "watchSays", fn := fun _ => fun
  | [d1, d2, d3] => { results := [.lit (.bool true)], args := [d1, d2, d3] }
  | _ => none }
def watchSaysRow : OpenClaim := { program := "ythfbdnhhmnehaaa", sum := "cd41772c2e06cfdaf4a85c018293098b5134a62a32fbcb54003de094417b8e20", func := "steadyhand/steadlaw.WatchSays", spec := "watchSays", apart := false }
def WatchSaysSaid : Prop := watchSaysRow.holds Try.pinned (OpenSpec.ofChange watchSaysSpec)

/-- ITS FALSE NEIGHBOUR: 'it returns false'. Refute it at one input. -/
def watchSaysWrong : ChangeSpec := { name := "watchSays", fn := fun _ => fun
  | [d1, d2, d3] => { results := [.lit (.bool false)], args := [d1, d2, d3] }
  | _ => none }
def WatchSaysWrongFalsely : Prop := watchSaysRow.holds Try.pinned (OpenSpec.ofChange watchSaysWrong)

/-- 'steadkeep.WatchQuiet': WHATEVER THE INPUT: true; the input reads as it did. -/
def watchQuietSpec : ChangeSpec := { name := "watchQuiet", fn := fun _ => fun
  | [d1, d2, d3] => { results := [.lit (.bool true)], args := [d1, d2, d3] }
  | _ => none }
def watchQuietRow : OpenClaim := { program := "ythfbdnhhmnehaaa", sum := "cd41772c2e06cfdaf4a85c018293098b5134a62a32fbcb54003de094417b8e20", func := "steadyhand/steadkeep.WatchQuiet", spec := "watchQuiet", apart := false }
def WatchQuietSaid : Prop := watchQuietRow.holds Try.pinned (OpenSpec.ofChange watchQuietSpec)

/-- ITS FALSE NEIGHBOUR: 'it returns false'. Refute it at one input. -/
def watchQuietWrong : ChangeSpec := { name := "watchQuiet", fn := fun _ => fun
  | [d1, d2, d3] => { results := [.lit (.bool false)], args := [d1, d2, d3] }
  | _ => none }
def WatchQuietWrongFalsely : Prop := watchQuietRow.holds Try.pinned (OpenSpec.ofChange watchQuietWrong)

/-- 'steadkeep.WatchBounds': WHATEVER THE INPUT: true; the input reads as it did. -/
def watchBoundsSpec : ChangeSpec := { name := "watchBounds", fn := fun _ => fun
  | [d1, d2, d3] => { results := [.lit (.bool true)], args := [d1, d2, d3] }
  | _ => none }
def watchBoundsRow : OpenClaim := { program := "ythfbdnhhmnehaaa", sum := "cd41772c2e06cfdaf4a85c018293098b5134a62a32fbcb54003de094417b8e20", func := "steadyhand/steadkeep.WatchBounds", spec := "watchBounds", apart := false }
def WatchBoundsSaid : Prop := watchBoundsRow.holds Try.pinned (OpenSpec.ofChange watchBoundsSpec)

/-- ITS FALSE NEIGHBOUR: 'it returns false'. Refute it at one input. -/
def watchBoundsWrong : ChangeSpec := { name := "watchBounds", fn := fun _ => fun
  | [d1, d2, d3] => { results := [.lit (.bool false)], args := [d1, d2, d3] }
  | _ => none }
def WatchBoundsWrongFalsely : Prop := watchBoundsRow.holds Try.pinned (OpenSpec.ofChange watchBoundsWrong)

/- THE SECOND FORM. 'bulk': how many values and letters a reading holds, each counted each time it is reached (what is shared counts as often as it is met; a slice's spare places count too). A statement '..UptoSaid' is the law's where the arguments, and the package variables that the reading takes, are together of bulk at most 1048576: NARROWER than '..Said'. Prove '..Said' where nothing that the law and all that it calls make is longer than what came in: it says more and counts as full. Else prove '..UptoSaid'. A law counts once. -/
mutual
def uptoBulk {H : Type} : DataW H → Nat
  | .lit (.string bytes) => bytes.length + 1
  | .lit _ => 1
  | .nil => 1
  | .ptr d => uptoBulk d + 1
  | .slice elems spare => uptoBulkAll elems + uptoBulkAll spare + 1
  | .agg parts => uptoBulkAll parts + 1
  | .iface _ d => uptoBulk d + 1
  | .map entries => uptoBulkEntries entries + 1
  | .held _ => 1
def uptoBulkAll {H : Type} : List (DataW H) → Nat
  | [] => 0
  | d :: r => uptoBulk d + uptoBulkAll r
def uptoBulkEntries {H : Type} : List (Lit × DataW H) → Nat
  | [] => 0
  | x :: r => uptoBulkEntry x + uptoBulkEntries r
def uptoBulkEntry {H : Type} : Lit × DataW H → Nat
  | (.string bytes, d) => bytes.length + uptoBulk d + 1
  | (_, d) => uptoBulk d + 1
 end
def uptoSmall : (H : Type) → List (DataW H) → Bool := fun _ ds => decide (uptoBulkAll ds ≤ 1048576)
def OpenSpec.upto (s : _root_.Go.ChangeSpec) : _root_.Go.OpenSpec := { _root_.Go.OpenSpec.ofChange s with cond := some uptoSmall }

/-- 'steadlaw.WatchSays', WHERE WHAT IT READS IS OF BULK AT MOST 1048576: true; the input reads as it did. -/
def watchSaysUptoRow : OpenClaim := { program := "ythfbdnhhmnehaaa", sum := "cd41772c2e06cfdaf4a85c018293098b5134a62a32fbcb54003de094417b8e20", func := "steadyhand/steadlaw.WatchSays", spec := "watchSays", apart := false, narrowed := true }
def WatchSaysUptoSaid : Prop := watchSaysUptoRow.holds Try.pinned (OpenSpec.upto watchSaysSpec)

/-- 'steadkeep.WatchQuiet', WHERE WHAT IT READS IS OF BULK AT MOST 1048576: true; the input reads as it did. -/
def watchQuietUptoRow : OpenClaim := { program := "ythfbdnhhmnehaaa", sum := "cd41772c2e06cfdaf4a85c018293098b5134a62a32fbcb54003de094417b8e20", func := "steadyhand/steadkeep.WatchQuiet", spec := "watchQuiet", apart := false, narrowed := true }
def WatchQuietUptoSaid : Prop := watchQuietUptoRow.holds Try.pinned (OpenSpec.upto watchQuietSpec)

/-- 'steadkeep.WatchBounds', WHERE WHAT IT READS IS OF BULK AT MOST 1048576: true; the input reads as it did. -/
def watchBoundsUptoRow : OpenClaim := { program := "ythfbdnhhmnehaaa", sum := "cd41772c2e06cfdaf4a85c018293098b5134a62a32fbcb54003de094417b8e20", func := "steadyhand/steadkeep.WatchBounds", spec := "watchBounds", apart := false, narrowed := true }
def WatchBoundsUptoSaid : Prop := watchBoundsUptoRow.holds Try.pinned (OpenSpec.upto watchBoundsSpec)

end Rows
end Go.Proofs.Ythfbdnhhmnehaaa
