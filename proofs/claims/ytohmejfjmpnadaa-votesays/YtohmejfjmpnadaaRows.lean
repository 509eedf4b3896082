/-
  No cell of these rows narrows 'for every input' (looked for: loops, veiled, ifaces, maps, wideKeys, modest, calm, conditions, laid).
  DERIVED. THE GIVEN ROWS OF THIS SEAT. 4 by the template 'for every input the law returns true; each argument reads behind the call as it read before'; 0 by the template 'total and deterministic' (their statements: YtohmejfjmpnadaaTotals.lean).
  GIVEN WITH THE SEED: the statements are not yours to turn. If you find one false, say at which input.
  Laid BY PROGRAM, IN A SANDBOX (cutbox-rows.mjs): the forced cells as the released guide's own fill.sh prints them over the translation c4027f40d4364440… (all of the seat's roots in one cut). By AI agents, Wed Nov 11 2026. No macro, syntax, notation, axiom, sorry.
-/
import Derived.Test.YtohmejfjmpnadaaChecked
import GoSem.Claim
import GoSem.ClaimJoined
import GoSem.ClaimMapViews
import Derived.JoinedTies
import Derived.KernelRfl
namespace Go.Proofs.Ytohmejfjmpnadaa
/- THE CELL 'sum', in the pinned program and in every row, IS THE sha256 OF THE DUMP (.gsa) THAT YtohmejfjmpnadaaProg.lean LOADS. Nothing in Lean hashes anything: it is a label: what it is worth is what the hold of that sum in a sandbox is worth. -/
noncomputable def Try.pinned : Pinned := { name := "ytohmejfjmpnadaa", sum := "c4027f40d4364440908ae17eb37977a2ab85d2c50d873dbb69d60a63d74ee41a", checked := Try.checked }
namespace Rows
def none {H : Type} : Left H := { results := [], args := [] }

/-- 'steadlaw.VoteSays': WHATEVER THE INPUT: true; the input reads as it did. -/
def voteSaysSpec : ChangeSpec := { name := "voteSays", fn := fun _ => fun
  | [d1, d2, d3] => { results := [.lit (.bool true)], args := [d1, d2, d3] }
  | _ => none }
def voteSaysRow : OpenClaim := { program := "ytohmejfjmpnadaa", sum := "c4027f40d4364440908ae17eb37977a2ab85d2c50d873dbb69d60a63d74ee41a", func := "steadyhand/steadlaw.VoteSays", spec := "voteSays", recurses := true, apart := false }
def VoteSaysSaid : Prop := voteSaysRow.holds Try.pinned (OpenSpec.ofChange voteSaysSpec)

/-- ITS FALSE NEIGHBOUR: 'it returns false'. Refute it at one input. -/
def voteSaysWrong : ChangeSpec := { name := "voteSays", fn := fun _ => fun
  | [d1, d2, d3] => { results := [.lit (.bool false)], args := [d1, d2, d3] }
  | _ => none }
def VoteSaysWrongFalsely : Prop := voteSaysRow.holds Try.pinned (OpenSpec.ofChange voteSaysWrong)

/-- 'steadkeep.VoteWithin': WHATEVER THE INPUT: true; the input reads as it did. -/
def voteWithinSpec : ChangeSpec := { name := "voteWithin", fn := fun _ => fun
  | [d1, d2, d3, d4] => { results := [.lit (.bool true)], args := [d1, d2, d3, d4] }
  | _ => none }
def voteWithinRow : OpenClaim := { program := "ytohmejfjmpnadaa", sum := "c4027f40d4364440908ae17eb37977a2ab85d2c50d873dbb69d60a63d74ee41a", func := "steadyhand/steadkeep.VoteWithin", spec := "voteWithin", recurses := true, apart := false }
def VoteWithinSaid : Prop := voteWithinRow.holds Try.pinned (OpenSpec.ofChange voteWithinSpec)

/-- ITS FALSE NEIGHBOUR: 'it returns false'. Refute it at one input. -/
def voteWithinWrong : ChangeSpec := { name := "voteWithin", fn := fun _ => fun
  | [d1, d2, d3, d4] => { results := [.lit (.bool false)], args := [d1, d2, d3, d4] }
  | _ => none }
def VoteWithinWrongFalsely : Prop := voteWithinRow.holds Try.pinned (OpenSpec.ofChange voteWithinWrong)

/-- 'steadkeep.VoteMost': WHATEVER THE INPUT: true; the input reads as it did. -/
def voteMostSpec : ChangeSpec := { name := "voteMost", fn := fun _ => fun
  | [d1, d2] => { results := [.lit (.bool true)], args := [d1, d2] }
  | _ => none }
def voteMostRow : OpenClaim := { program := "ytohmejfjmpnadaa", sum := "c4027f40d4364440908ae17eb37977a2ab85d2c50d873dbb69d60a63d74ee41a", func := "steadyhand/steadkeep.VoteMost", spec := "voteMost", unfollowed := true, recurses := true, apart := false }
def VoteMostSaid : Prop := voteMostRow.holds Try.pinned (OpenSpec.ofChange voteMostSpec)

/-- ITS FALSE NEIGHBOUR: 'it returns false'. Refute it at one input. -/
def voteMostWrong : ChangeSpec := { name := "voteMost", fn := fun _ => fun
  | [d1, d2] => { results := [.lit (.bool false)], args := [d1, d2] }
  | _ => none }
def VoteMostWrongFalsely : Prop := voteMostRow.holds Try.pinned (OpenSpec.ofChange voteMostWrong)

/-- 'steadkeep.VoteFar': WHATEVER THE INPUT: true; the input reads as it did. -/
def voteFarSpec : ChangeSpec := { name := "voteFar", fn := fun _ => fun
  | [d1, d2, d3] => { results := [.lit (.bool true)], args := [d1, d2, d3] }
  | _ => none }
def voteFarRow : OpenClaim := { program := "ytohmejfjmpnadaa", sum := "c4027f40d4364440908ae17eb37977a2ab85d2c50d873dbb69d60a63d74ee41a", func := "steadyhand/steadkeep.VoteFar", spec := "voteFar", recurses := true, apart := false }
def VoteFarSaid : Prop := voteFarRow.holds Try.pinned (OpenSpec.ofChange voteFarSpec)

/-- ITS FALSE NEIGHBOUR: 'it returns false'. Refute it at one input. -/
def voteFarWrong : ChangeSpec := { name := "voteFar", fn := fun _ => fun
  | [d1, d2, d3] => { results := [.lit (.bool false)], args := [d1, d2, d3] }
  | _ => none }
def VoteFarWrongFalsely : Prop := voteFarRow.holds Try.pinned (OpenSpec.ofChange voteFarWrong)

/- THE SECOND FORM. 'bulk': how many values and letters a reading holds, each counted each time it is reached (what is shared counts as often as it is met; a slice's spare places count too). A statement '..UptoSaid' is the law's where the arguments, and the package variables that the reading takes, are together of bulk at most 1048576: NARROWER than '..Said'. Prove '..Said' where nothing that the law and all that it calls make is longer than what came in: it says more and counts as full. Else prove '..UptoSaid'. A law counts once. -/
mutual
def uptoBulk {H : Type} : DataW H → Nat
  | .lit (.string bytes) => bytes.length + 1
  | .lit _ => 1
  | .nil => 1
  | .ptr d => uptoBulk d + 1
  | .slice elems spare => uptoBulkAll elems + uptoBulkAll spare + 1
  | .agg parts => uptoBulkAll parts + 1
  | .iface _ d => uptoBulk d + 1
  | .map entries => uptoBulkEntries entries + 1
  | .held _ => 1
def uptoBulkAll {H : Type} : List (DataW H) → Nat
  | [] => 0
  | d :: r => uptoBulk d + uptoBulkAll r
def uptoBulkEntries {H : Type} : List (Lit × DataW H) → Nat
  | [] => 0
  | x :: r => uptoBulkEntry x + uptoBulkEntries r
def uptoBulkEntry {H : Type} : Lit × DataW H → Nat
  | (.string bytes, d) => bytes.length + uptoBulk d + 1
  | (_, d) => uptoBulk d + 1
 end
def uptoSmall : (H : Type) → List (DataW H) → Bool := fun _ ds => decide (uptoBulkAll ds ≤ 1048576)
def OpenSpec.upto (s : _root_.Go.ChangeSpec) : _root_.Go.OpenSpec := { _root_.Go.OpenSpec.ofChange s with cond := some uptoSmall }

/-- 'steadlaw.VoteSays', WHERE WHAT IT READS IS OF BULK AT MOST 1048576: true; the input reads as it did. -/
def voteSaysUptoRow : OpenClaim := { program := "ytohmejfjmpnadaa", sum := "c4027f40d4364440908ae17eb37977a2ab85d2c50d873dbb69d60a63d74ee41a", func := "steadyhand/steadlaw.VoteSays", spec := "voteSays", recurses := true, apart := false, narrowed := true }
def VoteSaysUptoSaid : Prop := voteSaysUptoRow.holds Try.pinned (OpenSpec.upto voteSaysSpec)

/-- 'steadkeep.VoteWithin', WHERE WHAT IT READS IS OF BULK AT MOST 1048576: true; the input reads as it did. -/
def voteWithinUptoRow : OpenClaim := { program := "ytohmejfjmpnadaa", sum := "c4027f40d4364440908ae17eb37977a2ab85d2c50d873dbb69d60a63d74ee41a", func := "steadyhand/steadkeep.VoteWithin", spec := "voteWithin", recurses := true, apart := false, narrowed := true }
def VoteWithinUptoSaid : Prop := voteWithinUptoRow.holds Try.pinned (OpenSpec.upto voteWithinSpec)

/-- 'steadkeep.VoteMost', WHERE WHAT IT READS IS OF BULK AT MOST 1048576: true; the input reads as it did. -/
def voteMostUptoRow : OpenClaim := { program := "ytohmejfjmpnadaa", sum := "c4027f40d4364440908ae17eb37977a2ab85d2c50d873dbb69d60a63d74ee41a", func := "steadyhand/steadkeep.VoteMost", spec := "voteMost", unfollowed := true, recurses := true, apart := false, narrowed := true }
def VoteMostUptoSaid : Prop := voteMostUptoRow.holds Try.pinned (OpenSpec.upto voteMostSpec)

/-- 'steadkeep.VoteFar', WHERE WHAT IT READS IS OF BULK AT MOST 1048576: true; the input reads as it did. -/
def voteFarUptoRow : OpenClaim := { program := "ytohmejfjmpnadaa", sum := "c4027f40d4364440908ae17eb37977a2ab85d2c50d873dbb69d60a63d74ee41a", func := "steadyhand/steadkeep.VoteFar", spec := "voteFar", recurses := true, apart := false, narrowed := true }
def VoteFarUptoSaid : Prop := voteFarUptoRow.holds Try.pinned (OpenSpec.upto voteFarSpec)

end Rows
end Go.Proofs.Ytohmejfjmpnadaa
