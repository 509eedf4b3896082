/-
  No cell of these rows narrows 'for every input' (looked for: loops, veiled, ifaces, maps, wideKeys, modest, calm, conditions, laid).
  DERIVED. THE GIVEN ROWS OF THIS SEAT. 6 by the template 'for every input the law returns true; each argument reads behind the call as it read before'; 0 by the template 'total and deterministic' (their statements: YtdfpbdocbdapbaaTotals.lean).
  GIVEN WITH THE SEED: the statements are not yours to turn. If you find one false, say at which input.
  Laid BY PROGRAM, IN A SANDBOX (cutbox-rows.mjs): the forced cells as the released guide's own fill.sh prints them over the translation 08856d9dfe4f5349… (all of the seat's roots in one cut). By AI agents, Wed Nov 11 2026. No macro, syntax, notation, axiom, sorry.
-/
import Derived.Test.YtdfpbdocbdapbaaChecked
import GoSem.Claim
import GoSem.ClaimJoined
import GoSem.ClaimMapViews
import Derived.JoinedTies
import Derived.KernelRfl
namespace Go.Proofs.Ytdfpbdocbdapbaa
/- THE CELL 'sum', in the pinned program and in every row, IS THE sha256 OF THE DUMP (.gsa) THAT YtdfpbdocbdapbaaProg.lean LOADS. Nothing in Lean hashes anything: it is a label: what it is worth is what the hold of that sum in a sandbox is worth. -/
noncomputable def Try.pinned : Pinned := { name := "ytdfpbdocbdapbaa", sum := "08856d9dfe4f53496f6396ca9aaf259065f930f27d43326db7c8b13000a49852", checked := Try.checked }
namespace Rows
def none {H : Type} : Left H := { results := [], args := [] }

/-- 'steadlaw.FiltSays': WHATEVER THE INPUT: true; the input reads as it did. -/
def filtSaysSpec : ChangeSpec := { name := "filtSays", fn := fun _ => fun
  | [d1, d2, d3, d4, d5, d6] => { results := [.lit (.bool true)], args := [d1, d2, d3, d4, d5, d6] }
  | _ => none }
def filtSaysRow : OpenClaim := { program := "ytdfpbdocbdapbaa", sum := "08856d9dfe4f53496f6396ca9aaf259065f930f27d43326db7c8b13000a49852", func := "steadyhand/steadlaw.FiltSays", spec := "filtSays", recurses := true, apart := false }
def FiltSaysSaid : Prop := filtSaysRow.holds Try.pinned (OpenSpec.ofChange filtSaysSpec)

/-- ITS FALSE NEIGHBOUR: 'it returns false'. Refute it at one input. -/
def filtSaysWrong : ChangeSpec := { name := "filtSays", fn := fun _ => fun
  | [d1, d2, d3, d4, d5, d6] => { results := [.lit (.bool false)], args := [d1, d2, d3, d4, d5, d6] }
  | _ => none }
def FiltSaysWrongFalsely : Prop := filtSaysRow.holds Try.pinned (OpenSpec.ofChange filtSaysWrong)

/-- 'steadkeep.FiltNears': WHATEVER THE INPUT: true; the input reads as it did. -/
def filtNearsSpec : ChangeSpec := { name := "filtNears", fn := fun _ => fun
  | [d1, d2, d3] => { results := [.lit (.bool true)], args := [d1, d2, d3] }
  | _ => none }
def filtNearsRow : OpenClaim := { program := "ytdfpbdocbdapbaa", sum := "08856d9dfe4f53496f6396ca9aaf259065f930f27d43326db7c8b13000a49852", func := "steadyhand/steadkeep.FiltNears", spec := "filtNears", apart := false }
def FiltNearsSaid : Prop := filtNearsRow.holds Try.pinned (OpenSpec.ofChange filtNearsSpec)

/-- ITS FALSE NEIGHBOUR: 'it returns false'. Refute it at one input. -/
def filtNearsWrong : ChangeSpec := { name := "filtNears", fn := fun _ => fun
  | [d1, d2, d3] => { results := [.lit (.bool false)], args := [d1, d2, d3] }
  | _ => none }
def FiltNearsWrongFalsely : Prop := filtNearsRow.holds Try.pinned (OpenSpec.ofChange filtNearsWrong)

/-- 'steadkeep.FiltSame': WHATEVER THE INPUT: true; the input reads as it did. -/
def filtSameSpec : ChangeSpec := { name := "filtSame", fn := fun _ => fun
  | [d1, d2, d3, d4] => { results := [.lit (.bool true)], args := [d1, d2, d3, d4] }
  | _ => none }
def filtSameRow : OpenClaim := { program := "ytdfpbdocbdapbaa", sum := "08856d9dfe4f53496f6396ca9aaf259065f930f27d43326db7c8b13000a49852", func := "steadyhand/steadkeep.FiltSame", spec := "filtSame", apart := false }
def FiltSameSaid : Prop := filtSameRow.holds Try.pinned (OpenSpec.ofChange filtSameSpec)

/-- ITS FALSE NEIGHBOUR: 'it returns false'. Refute it at one input. -/
def filtSameWrong : ChangeSpec := { name := "filtSame", fn := fun _ => fun
  | [d1, d2, d3, d4] => { results := [.lit (.bool false)], args := [d1, d2, d3, d4] }
  | _ => none }
def FiltSameWrongFalsely : Prop := filtSameRow.holds Try.pinned (OpenSpec.ofChange filtSameWrong)

/-- 'steadkeep.FiltRate': WHATEVER THE INPUT: true; the input reads as it did. -/
def filtRateSpec : ChangeSpec := { name := "filtRate", fn := fun _ => fun
  | [d1, d2, d3, d4] => { results := [.lit (.bool true)], args := [d1, d2, d3, d4] }
  | _ => none }
def filtRateRow : OpenClaim := { program := "ytdfpbdocbdapbaa", sum := "08856d9dfe4f53496f6396ca9aaf259065f930f27d43326db7c8b13000a49852", func := "steadyhand/steadkeep.FiltRate", spec := "filtRate", apart := false }
def FiltRateSaid : Prop := filtRateRow.holds Try.pinned (OpenSpec.ofChange filtRateSpec)

/-- ITS FALSE NEIGHBOUR: 'it returns false'. Refute it at one input. -/
def filtRateWrong : ChangeSpec := { name := "filtRate", fn := fun _ => fun
  | [d1, d2, d3, d4] => { results := [.lit (.bool false)], args := [d1, d2, d3, d4] }
  | _ => none }
def FiltRateWrongFalsely : Prop := filtRateRow.holds Try.pinned (OpenSpec.ofChange filtRateWrong)

/-- 'steadkeep.FiltTrip': WHATEVER THE INPUT: true; the input reads as it did. -/
def filtTripSpec : ChangeSpec := { name := "filtTrip", fn := fun _ => fun
  | [d1, d2, d3, d4] => { results := [.lit (.bool true)], args := [d1, d2, d3, d4] }
  | _ => none }
def filtTripRow : OpenClaim := { program := "ytdfpbdocbdapbaa", sum := "08856d9dfe4f53496f6396ca9aaf259065f930f27d43326db7c8b13000a49852", func := "steadyhand/steadkeep.FiltTrip", spec := "filtTrip", apart := false }
def FiltTripSaid : Prop := filtTripRow.holds Try.pinned (OpenSpec.ofChange filtTripSpec)

/-- ITS FALSE NEIGHBOUR: 'it returns false'. Refute it at one input. -/
def filtTripWrong : ChangeSpec := { name := "filtTrip", fn := fun _ => fun
  | [d1, d2, d3, d4] => { results := [.lit (.bool false)], args := [d1, d2, d3, d4] }
  | _ => none }
def FiltTripWrongFalsely : Prop := filtTripRow.holds Try.pinned (OpenSpec.ofChange filtTripWrong)

/-- 'steadkeep.FiltMiddle': WHATEVER THE INPUT: true; the input reads as it did. -/
def filtMiddleSpec : ChangeSpec := { name := "filtMiddle", fn := fun _ => fun
  | [d1, d2] => { results := [.lit (.bool true)], args := [d1, d2] }
  | _ => none }
def filtMiddleRow : OpenClaim := { program := "ytdfpbdocbdapbaa", sum := "08856d9dfe4f53496f6396ca9aaf259065f930f27d43326db7c8b13000a49852", func := "steadyhand/steadkeep.FiltMiddle", spec := "filtMiddle", recurses := true, apart := false }
def FiltMiddleSaid : Prop := filtMiddleRow.holds Try.pinned (OpenSpec.ofChange filtMiddleSpec)

/-- ITS FALSE NEIGHBOUR: 'it returns false'. Refute it at one input. -/
def filtMiddleWrong : ChangeSpec := { name := "filtMiddle", fn := fun _ => fun
  | [d1, d2] => { results := [.lit (.bool false)], args := [d1, d2] }
  | _ => none }
def FiltMiddleWrongFalsely : Prop := filtMiddleRow.holds Try.pinned (OpenSpec.ofChange filtMiddleWrong)

/- THE SECOND FORM. 'bulk': how many values and letters a reading holds, each counted each time it is reached (what is shared counts as often as it is met; a slice's spare places count too). A statement '..UptoSaid' is the law's where the arguments, and the package variables that the reading takes, are together of bulk at most 1048576: NARROWER than '..Said'. Prove '..Said' where nothing that the law and all that it calls make is longer than what came in: it says more and counts as full. Else prove '..UptoSaid'. A law counts once. -/
mutual
def uptoBulk {H : Type} : DataW H → Nat
  | .lit (.string bytes) => bytes.length + 1
  | .lit _ => 1
  | .nil => 1
  | .ptr d => uptoBulk d + 1
  | .slice elems spare => uptoBulkAll elems + uptoBulkAll spare + 1
  | .agg parts => uptoBulkAll parts + 1
  | .iface _ d => uptoBulk d + 1
  | .map entries => uptoBulkEntries entries + 1
  | .held _ => 1
def uptoBulkAll {H : Type} : List (DataW H) → Nat
  | [] => 0
  | d :: r => uptoBulk d + uptoBulkAll r
def uptoBulkEntries {H : Type} : List (Lit × DataW H) → Nat
  | [] => 0
  | x :: r => uptoBulkEntry x + uptoBulkEntries r
def uptoBulkEntry {H : Type} : Lit × DataW H → Nat
  | (.string bytes, d) => bytes.length + uptoBulk d + 1
  | (_, d) => uptoBulk d + 1
 end
def uptoSmall : (H : Type) → List (DataW H) → Bool := fun _ ds => decide (uptoBulkAll ds ≤ 1048576)
def OpenSpec.upto (s : _root_.Go.ChangeSpec) : _root_.Go.OpenSpec := { _root_.Go.OpenSpec.ofChange s with cond := some uptoSmall }

/-- 'steadlaw.FiltSays', WHERE WHAT IT READS IS OF BULK AT MOST 1048576: true; the input reads as it did. -/
def filtSaysUptoRow : OpenClaim := { program := "ytdfpbdocbdapbaa", sum := "08856d9dfe4f53496f6396ca9aaf259065f930f27d43326db7c8b13000a49852", func := "steadyhand/steadlaw.FiltSays", spec := "filtSays", recurses := true, apart := false, narrowed := true }
def FiltSaysUptoSaid : Prop := filtSaysUptoRow.holds Try.pinned (OpenSpec.upto filtSaysSpec)

/-- 'steadkeep.FiltNears', WHERE WHAT IT READS IS OF BULK AT MOST 1048576: true; the input reads as it did. -/
def filtNearsUptoRow : OpenClaim := { program := "ytdfpbdocbdapbaa", sum := "08856d9dfe4f53496f6396ca9aaf259065f930f27d43326db7c8b13000a49852", func := "steadyhand/steadkeep.FiltNears", spec := "filtNears", apart := false, narrowed := true }
def FiltNearsUptoSaid : Prop := filtNearsUptoRow.holds Try.pinned (OpenSpec.upto filtNearsSpec)

/-- 'steadkeep.FiltSame', WHERE WHAT IT READS IS OF BULK AT MOST 1048576: true; the input reads as it did. -/
def filtSameUptoRow : OpenClaim := { program := "ytdfpbdocbdapbaa", sum := "08856d9dfe4f53496f6396ca9aaf259065f930f27d43326db7c8b13000a49852", func := "steadyhand/steadkeep.FiltSame", spec := "filtSame", apart := false, narrowed := true }
def FiltSameUptoSaid : Prop := filtSameUptoRow.holds Try.pinned (OpenSpec.upto filtSameSpec)

/-- 'steadkeep.FiltRate', WHERE WHAT IT READS IS OF BULK AT MOST 1048576: true; the input reads as it did. -/
def filtRateUptoRow : OpenClaim := { program := "ytdfpbdocbdapbaa", sum := "08856d9dfe4f53496f6396ca9aaf259065f930f27d43326db7c8b13000a49852", func := "steadyhand/steadkeep.FiltRate", spec := "filtRate", apart := false, narrowed := true }
def FiltRateUptoSaid : Prop := filtRateUptoRow.holds Try.pinned (OpenSpec.upto filtRateSpec)

/-- 'steadkeep.FiltTrip', WHERE WHAT IT READS IS OF BULK AT MOST 1048576: true; the input reads as it did. -/
def filtTripUptoRow : OpenClaim := { program := "ytdfpbdocbdapbaa", sum := "08856d9dfe4f53496f6396ca9aaf259065f930f27d43326db7c8b13000a49852", func := "steadyhand/steadkeep.FiltTrip", spec := "filtTrip", apart := false, narrowed := true }
def FiltTripUptoSaid : Prop := filtTripUptoRow.holds Try.pinned (OpenSpec.upto filtTripSpec)

/-- 'steadkeep.FiltMiddle', WHERE WHAT IT READS IS OF BULK AT MOST 1048576: true; the input reads as it did. -/
def filtMiddleUptoRow : OpenClaim := { program := "ytdfpbdocbdapbaa", sum := "08856d9dfe4f53496f6396ca9aaf259065f930f27d43326db7c8b13000a49852", func := "steadyhand/steadkeep.FiltMiddle", spec := "filtMiddle", recurses := true, apart := false, narrowed := true }
def FiltMiddleUptoSaid : Prop := filtMiddleUptoRow.holds Try.pinned (OpenSpec.upto filtMiddleSpec)

end Rows
end Go.Proofs.Ytdfpbdocbdapbaa
