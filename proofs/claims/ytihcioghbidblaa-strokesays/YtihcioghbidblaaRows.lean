/-
  No cell of these rows narrows 'for every input' (looked for: loops, veiled, ifaces, maps, wideKeys, modest, calm, conditions, laid).
  DERIVED. THE GIVEN ROWS OF THIS SEAT. 3 by the template 'for every input the law returns true; each argument reads behind the call as it read before'; 0 by the template 'total and deterministic' (their statements: YtihcioghbidblaaTotals.lean).
  GIVEN WITH THE SEED: the statements are not yours to turn. If you find one false, say at which input.
  Laid BY PROGRAM, IN A SANDBOX (cutbox-rows.mjs): the forced cells as the released guide's own fill.sh prints them over the translation 504e27a6c7cfcb14… (all of the seat's roots in one cut). By AI agents, Wed Nov 11 2026. No macro, syntax, notation, axiom, sorry.
-/
import Derived.Test.YtihcioghbidblaaChecked
import GoSem.Claim
import GoSem.ClaimJoined
import GoSem.ClaimMapViews
import Derived.JoinedTies
import Derived.KernelRfl
namespace Go.Proofs.Ytihcioghbidblaa
/- THE CELL 'sum', in the pinned program and in every row, IS THE sha256 OF THE DUMP (.gsa) THAT YtihcioghbidblaaProg.lean LOADS. Nothing in Lean hashes anything: it is a label: what it is worth is what the hold of that sum in a sandbox is worth. -/
noncomputable def Try.pinned : Pinned := { name := "ytihcioghbidblaa", sum := "504e27a6c7cfcb148385c8a49f6e042c2bcaf08677e826844cc8b3ff097e8739", checked := Try.checked }
namespace Rows
def none {H : Type} : Left H := { results := [], args := [] }

/-- 'steadlaw.StrokeSays': WHATEVER THE INPUT: true; the input reads as it did. -/
def strokeSaysSpec : ChangeSpec := { name := "strokeSays", fn := fun _ => fun
  | [d1, d2] => { results := [.lit (.bool true)], args := [d1, d2] }
  | _ => none }
def strokeSaysRow : OpenClaim := { program := "ytihcioghbidblaa", sum := "504e27a6c7cfcb148385c8a49f6e042c2bcaf08677e826844cc8b3ff097e8739", func := "steadyhand/steadlaw.StrokeSays", spec := "strokeSays", apart := false }
def StrokeSaysSaid : Prop := strokeSaysRow.holds Try.pinned (OpenSpec.ofChange strokeSaysSpec)

/-- ITS FALSE NEIGHBOUR: 'it returns false'. Refute it at one input. -/
def strokeSaysWrong : ChangeSpec := { name := "strokeSays", fn := fun _ => fun
  | [d1, d2] => { results := [.lit (.bool false)], args := [d1, d2] }
  | _ => none }
def StrokeSaysWrongFalsely : Prop := strokeSaysRow.holds Try.pinned (OpenSpec.ofChange strokeSaysWrong)

/-- 'steadkeep.StrokeStuck': WHATEVER THE INPUT: true; the input reads as it did. -/
def strokeStuckSpec : ChangeSpec := { name := "strokeStuck", fn := fun _ => fun
  | [d1, d2] => { results := [.lit (.bool true)], args := [d1, d2] }
  | _ => none }
def strokeStuckRow : OpenClaim := { program := "ytihcioghbidblaa", sum := "504e27a6c7cfcb148385c8a49f6e042c2bcaf08677e826844cc8b3ff097e8739", func := "steadyhand/steadkeep.StrokeStuck", spec := "strokeStuck", unfollowed := true, recurses := true, apart := false }
def StrokeStuckSaid : Prop := strokeStuckRow.holds Try.pinned (OpenSpec.ofChange strokeStuckSpec)

/-- ITS FALSE NEIGHBOUR: 'it returns false'. Refute it at one input. -/
def strokeStuckWrong : ChangeSpec := { name := "strokeStuck", fn := fun _ => fun
  | [d1, d2] => { results := [.lit (.bool false)], args := [d1, d2] }
  | _ => none }
def StrokeStuckWrongFalsely : Prop := strokeStuckRow.holds Try.pinned (OpenSpec.ofChange strokeStuckWrong)

/-- 'steadkeep.StrokeFront': WHATEVER THE INPUT: true; the input reads as it did. -/
def strokeFrontSpec : ChangeSpec := { name := "strokeFront", fn := fun _ => fun
  | [d1, d2, d3] => { results := [.lit (.bool true)], args := [d1, d2, d3] }
  | _ => none }
def strokeFrontRow : OpenClaim := { program := "ytihcioghbidblaa", sum := "504e27a6c7cfcb148385c8a49f6e042c2bcaf08677e826844cc8b3ff097e8739", func := "steadyhand/steadkeep.StrokeFront", spec := "strokeFront", apart := false }
def StrokeFrontSaid : Prop := strokeFrontRow.holds Try.pinned (OpenSpec.ofChange strokeFrontSpec)

/-- ITS FALSE NEIGHBOUR: 'it returns false'. Refute it at one input. -/
def strokeFrontWrong : ChangeSpec := { name := "strokeFront", fn := fun _ => fun
  | [d1, d2, d3] => { results := [.lit (.bool false)], args := [d1, d2, d3] }
  | _ => none }
def StrokeFrontWrongFalsely : Prop := strokeFrontRow.holds Try.pinned (OpenSpec.ofChange strokeFrontWrong)

/- THE SECOND FORM. 'bulk': how many values and letters a reading holds, each counted each time it is reached (what is shared counts as often as it is met; a slice's spare places count too). A statement '..UptoSaid' is the law's where the arguments, and the package variables that the reading takes, are together of bulk at most 1048576: NARROWER than '..Said'. Prove '..Said' where nothing that the law and all that it calls make is longer than what came in: it says more and counts as full. Else prove '..UptoSaid'. A law counts once. -/
mutual
def uptoBulk {H : Type} : DataW H → Nat
  | .lit (.string bytes) => bytes.length + 1
  | .lit _ => 1
  | .nil => 1
  | .ptr d => uptoBulk d + 1
  | .slice elems spare => uptoBulkAll elems + uptoBulkAll spare + 1
  | .agg parts => uptoBulkAll parts + 1
  | .iface _ d => uptoBulk d + 1
  | .map entries => uptoBulkEntries entries + 1
  | .held _ => 1
def uptoBulkAll {H : Type} : List (DataW H) → Nat
  | [] => 0
  | d :: r => uptoBulk d + uptoBulkAll r
def uptoBulkEntries {H : Type} : List (Lit × DataW H) → Nat
  | [] => 0
  | x :: r => uptoBulkEntry x + uptoBulkEntries r
def uptoBulkEntry {H : Type} : Lit × DataW H → Nat
  | (.string bytes, d) => bytes.length + uptoBulk d + 1
  | (_, d) => uptoBulk d + 1
 end
def uptoSmall : (H : Type) → List (DataW H) → Bool := fun _ ds => decide (uptoBulkAll ds ≤ 1048576)
def OpenSpec.upto (s : _root_.Go.ChangeSpec) : _root_.Go.OpenSpec := { _root_.Go.OpenSpec.ofChange s with cond := some uptoSmall }

/-- 'steadlaw.StrokeSays', WHERE WHAT IT READS IS OF BULK AT MOST 1048576: true; the input reads as it did. -/
def strokeSaysUptoRow : OpenClaim := { program := "ytihcioghbidblaa", sum := "504e27a6c7cfcb148385c8a49f6e042c2bcaf08677e826844cc8b3ff097e8739", func := "steadyhand/steadlaw.StrokeSays", spec := "strokeSays", apart := false, narrowed := true }
def StrokeSaysUptoSaid : Prop := strokeSaysUptoRow.holds Try.pinned (OpenSpec.upto strokeSaysSpec)

/-- 'steadkeep.StrokeStuck', WHERE WHAT IT READS IS OF BULK AT MOST 1048576: true; the input reads as it did. -/
def strokeStuckUptoRow : OpenClaim := { program := "ytihcioghbidblaa", sum := "504e27a6c7cfcb148385c8a49f6e042c2bcaf08677e826844cc8b3ff097e8739", func := "steadyhand/steadkeep.StrokeStuck", spec := "strokeStuck", unfollowed := true, recurses := true, apart := false, narrowed := true }
def StrokeStuckUptoSaid : Prop := strokeStuckUptoRow.holds Try.pinned (OpenSpec.upto strokeStuckSpec)

/-- 'steadkeep.StrokeFront', WHERE WHAT IT READS IS OF BULK AT MOST 1048576: true; the input reads as it did. -/
def strokeFrontUptoRow : OpenClaim := { program := "ytihcioghbidblaa", sum := "504e27a6c7cfcb148385c8a49f6e042c2bcaf08677e826844cc8b3ff097e8739", func := "steadyhand/steadkeep.StrokeFront", spec := "strokeFront", apart := false, narrowed := true }
def StrokeFrontUptoSaid : Prop := strokeFrontUptoRow.holds Try.pinned (OpenSpec.upto strokeFrontSpec)

end Rows
end Go.Proofs.Ytihcioghbidblaa
