/-
  No cell of these rows narrows 'for every input' (looked for: loops, veiled, ifaces, maps, wideKeys, modest, calm, conditions, laid).
  DERIVED. THE GIVEN ROWS OF THIS SEAT. 4 by the template 'for every input the law returns true; each argument reads behind the call as it read before'; 0 by the template 'total and deterministic' (their statements: YtdnjipikggehmaaTotals.lean).
  GIVEN WITH THE SEED: the statements are not yours to turn. If you find one false, say at which input.
  Laid BY PROGRAM, IN A SANDBOX (cutbox-rows.mjs): the forced cells as the released guide's own fill.sh prints them over the translation f9ecbfd5699a3f9a… (all of the seat's roots in one cut). By AI agents, Wed Nov 11 2026. No macro, syntax, notation, axiom, sorry.
-/
import Derived.Test.YtdnjipikggehmaaChecked
import GoSem.Claim
import GoSem.ClaimJoined
import GoSem.ClaimMapViews
import Derived.JoinedTies
import Derived.KernelRfl
namespace Go.Proofs.Ytdnjipikggehmaa
/- THE CELL 'sum', in the pinned program and in every row, IS THE sha256 OF THE DUMP (.gsa) THAT YtdnjipikggehmaaProg.lean LOADS. Nothing in Lean hashes anything: it is a label: what it is worth is what the hold of that sum in a sandbox is worth. -/
noncomputable def Try.pinned : Pinned := { name := "ytdnjipikggehmaa", sum := "f9ecbfd5699a3f9a01c6f12ce5da7ab1b10cbac623d65871169d6e2ccf8df52e", checked := Try.checked }
namespace Rows
def none {H : Type} : Left H := { results := [], args := [] }

/-- 'steadlaw.TickSays': WHATEVER THE INPUT: true; the input reads as it did. -/
def tickSaysSpec : ChangeSpec := { name := "tickSays", fn := fun _ => fun
  | [d1, d2, d3] => { results := [.lit (.bool true)], args := [d1, d2, d3] }
  | _ => none }
def tickSaysRow : OpenClaim := { program := "ytdnjipikggehmaa", sum := "f9ecbfd5699a3f9a01c6f12ce5da7ab1b10cbac623d65871169d6e2ccf8df52e", func := "steadyhand/steadlaw.TickSays", spec := "tickSays", recurses := true, apart := false }
def TickSaysSaid : Prop := tickSaysRow.holds Try.pinned (OpenSpec.ofChange tickSaysSpec)

/-- ITS FALSE NEIGHBOUR: 'it returns false'. Refute it at one input. -/
def tickSaysWrong : ChangeSpec := { name := "tickSays", fn := fun _ => fun
  | [d1, d2, d3] => { results := [.lit (.bool false)], args := [d1, d2, d3] }
  | _ => none }
def TickSaysWrongFalsely : Prop := tickSaysRow.holds Try.pinned (OpenSpec.ofChange tickSaysWrong)

/-- 'steadkeep.TickWithin': WHATEVER THE INPUT: true; the input reads as it did. -/
def tickWithinSpec : ChangeSpec := { name := "tickWithin", fn := fun _ => fun
  | [d1, d2, d3, d4] => { results := [.lit (.bool true)], args := [d1, d2, d3, d4] }
  | _ => none }
def tickWithinRow : OpenClaim := { program := "ytdnjipikggehmaa", sum := "f9ecbfd5699a3f9a01c6f12ce5da7ab1b10cbac623d65871169d6e2ccf8df52e", func := "steadyhand/steadkeep.TickWithin", spec := "tickWithin", recurses := true, apart := false }
def TickWithinSaid : Prop := tickWithinRow.holds Try.pinned (OpenSpec.ofChange tickWithinSpec)

/-- ITS FALSE NEIGHBOUR: 'it returns false'. Refute it at one input. -/
def tickWithinWrong : ChangeSpec := { name := "tickWithin", fn := fun _ => fun
  | [d1, d2, d3, d4] => { results := [.lit (.bool false)], args := [d1, d2, d3, d4] }
  | _ => none }
def TickWithinWrongFalsely : Prop := tickWithinRow.holds Try.pinned (OpenSpec.ofChange tickWithinWrong)

/-- 'steadkeep.TickHalf': WHATEVER THE INPUT: true; the input reads as it did. -/
def tickHalfSpec : ChangeSpec := { name := "tickHalf", fn := fun _ => fun
  | [d1, d2, d3] => { results := [.lit (.bool true)], args := [d1, d2, d3] }
  | _ => none }
def tickHalfRow : OpenClaim := { program := "ytdnjipikggehmaa", sum := "f9ecbfd5699a3f9a01c6f12ce5da7ab1b10cbac623d65871169d6e2ccf8df52e", func := "steadyhand/steadkeep.TickHalf", spec := "tickHalf", recurses := true, apart := false }
def TickHalfSaid : Prop := tickHalfRow.holds Try.pinned (OpenSpec.ofChange tickHalfSpec)

/-- ITS FALSE NEIGHBOUR: 'it returns false'. Refute it at one input. -/
def tickHalfWrong : ChangeSpec := { name := "tickHalf", fn := fun _ => fun
  | [d1, d2, d3] => { results := [.lit (.bool false)], args := [d1, d2, d3] }
  | _ => none }
def TickHalfWrongFalsely : Prop := tickHalfRow.holds Try.pinned (OpenSpec.ofChange tickHalfWrong)

/-- 'steadkeep.TickAdjusts': WHATEVER THE INPUT: true; the input reads as it did. -/
def tickAdjustsSpec : ChangeSpec := { name := "tickAdjusts", fn := fun _ => fun
  | [d1, d2, d3] => { results := [.lit (.bool true)], args := [d1, d2, d3] }
  | _ => none }
def tickAdjustsRow : OpenClaim := { program := "ytdnjipikggehmaa", sum := "f9ecbfd5699a3f9a01c6f12ce5da7ab1b10cbac623d65871169d6e2ccf8df52e", func := "steadyhand/steadkeep.TickAdjusts", spec := "tickAdjusts", recurses := true, apart := false }
def TickAdjustsSaid : Prop := tickAdjustsRow.holds Try.pinned (OpenSpec.ofChange tickAdjustsSpec)

/-- ITS FALSE NEIGHBOUR: 'it returns false'. Refute it at one input. -/
def tickAdjustsWrong : ChangeSpec := { name := "tickAdjusts", fn := fun _ => fun
  | [d1, d2, d3] => { results := [.lit (.bool false)], args := [d1, d2, d3] }
  | _ => none }
def TickAdjustsWrongFalsely : Prop := tickAdjustsRow.holds Try.pinned (OpenSpec.ofChange tickAdjustsWrong)

/- THE SECOND FORM. 'bulk': how many values and letters a reading holds, each counted each time it is reached (what is shared counts as often as it is met; a slice's spare places count too). A statement '..UptoSaid' is the law's where the arguments, and the package variables that the reading takes, are together of bulk at most 1048576: NARROWER than '..Said'. Prove '..Said' where nothing that the law and all that it calls make is longer than what came in: it says more and counts as full. Else prove '..UptoSaid'. A law counts once. -/
mutual
def uptoBulk {H : Type} : DataW H → Nat
  | .lit (.string bytes) => bytes.length + 1
  | .lit _ => 1
  | .nil => 1
  | .ptr d => uptoBulk d + 1
  | .slice elems spare => uptoBulkAll elems + uptoBulkAll spare + 1
  | .agg parts => uptoBulkAll parts + 1
  | .iface _ d => uptoBulk d + 1
  | .map entries => uptoBulkEntries entries + 1
  | .held _ => 1
def uptoBulkAll {H : Type} : List (DataW H) → Nat
  | [] => 0
  | d :: r => uptoBulk d + uptoBulkAll r
def uptoBulkEntries {H : Type} : List (Lit × DataW H) → Nat
  | [] => 0
  | x :: r => uptoBulkEntry x + uptoBulkEntries r
def uptoBulkEntry {H : Type} : Lit × DataW H → Nat
  | (.string bytes, d) => bytes.length + uptoBulk d + 1
  | (_, d) => uptoBulk d + 1
 end
def uptoSmall : (H : Type) → List (DataW H) → Bool := fun _ ds => decide (uptoBulkAll ds ≤ 1048576)
def OpenSpec.upto (s : _root_.Go.ChangeSpec) : _root_.Go.OpenSpec := { _root_.Go.OpenSpec.ofChange s with cond := some uptoSmall }

/-- 'steadlaw.TickSays', WHERE WHAT IT READS IS OF BULK AT MOST 1048576: true; the input reads as it did. -/
def tickSaysUptoRow : OpenClaim := { program := "ytdnjipikggehmaa", sum := "f9ecbfd5699a3f9a01c6f12ce5da7ab1b10cbac623d65871169d6e2ccf8df52e", func := "steadyhand/steadlaw.TickSays", spec := "tickSays", recurses := true, apart := false, narrowed := true }
def TickSaysUptoSaid : Prop := tickSaysUptoRow.holds Try.pinned (OpenSpec.upto tickSaysSpec)

/-- 'steadkeep.TickWithin', WHERE WHAT IT READS IS OF BULK AT MOST 1048576: true; the input reads as it did. -/
def tickWithinUptoRow : OpenClaim := { program := "ytdnjipikggehmaa", sum := "f9ecbfd5699a3f9a01c6f12ce5da7ab1b10cbac623d65871169d6e2ccf8df52e", func := "steadyhand/steadkeep.TickWithin", spec := "tickWithin", recurses := true, apart := false, narrowed := true }
def TickWithinUptoSaid : Prop := tickWithinUptoRow.holds Try.pinned (OpenSpec.upto tickWithinSpec)

/-- 'steadkeep.TickHalf', WHERE WHAT IT READS IS OF BULK AT MOST 1048576: true; the input reads as it did. -/
def tickHalfUptoRow : OpenClaim := { program := "ytdnjipikggehmaa", sum := "f9ecbfd5699a3f9a01c6f12ce5da7ab1b10cbac623d65871169d6e2ccf8df52e", func := "steadyhand/steadkeep.TickHalf", spec := "tickHalf", recurses := true, apart := false, narrowed := true }
def TickHalfUptoSaid : Prop := tickHalfUptoRow.holds Try.pinned (OpenSpec.upto tickHalfSpec)

/-- 'steadkeep.TickAdjusts', WHERE WHAT IT READS IS OF BULK AT MOST 1048576: true; the input reads as it did. -/
def tickAdjustsUptoRow : OpenClaim := { program := "ytdnjipikggehmaa", sum := "f9ecbfd5699a3f9a01c6f12ce5da7ab1b10cbac623d65871169d6e2ccf8df52e", func := "steadyhand/steadkeep.TickAdjusts", spec := "tickAdjusts", recurses := true, apart := false, narrowed := true }
def TickAdjustsUptoSaid : Prop := tickAdjustsUptoRow.holds Try.pinned (OpenSpec.upto tickAdjustsSpec)

end Rows
end Go.Proofs.Ytdnjipikggehmaa
