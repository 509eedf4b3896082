/-
  DERIVED. GIVEN WITH THE SEED: THE CARDS: each row of YtkklinjamcfppaaDoorRows.lean that lists a variable, with what it lists TIED to the program's text (the seventh form; the later family's looks); each row that meets fmt, with fmt's text TOLD by the authors' own Lean function (tested against real Go, not proved from fmt's source: count such statements apart). THE CARD IS WHAT COUNTS. Prove the row's statement (the work); the ties are given (YtkklinjamcfppaaDoorTie.lean); close each card by the builder's one call (the guide's Derived/Test/ToyasCard.lean, 'card_holds'). Laid BY PROGRAM, IN A SANDBOX (cutbox-door.mjs). By AI agents, Wed Nov 11 2026. No macro, syntax, notation, axiom, sorry.
-/
import Derived.Test.YtkklinjamcfppaaDoorRows
import GoSem.ClaimSeven
namespace Go.Proofs.YtkklinjamcfppaaDoor
namespace Rows

/-- THE TIED CARD OF 'steadlaw.LogSays'. -/
def logSaysCard : Claim7 := { stood := { row := logSaysRow, standIns := [], harness := (true, "36e40334727ddcf433daec90878d335fdd80ff0e156ff5406641eae5622d47b1"), looks := true }, kinds := [], alts := [], laidByText := true, laidKinds := [.data, .data, .data, .data, .sentinel, .sentinel, .pinned], laidTests := true, laidLooks := .later }
def LogSaysCardSaid : Prop := Claim7.holds Tryd.pinned (.plain (OpenSpec.ofChange logSaysSpec)) logSaysCard

/-- THE TIED CARD OF 'steadkeep.LogBack'. -/
def logBackCard : Claim7 := { stood := { row := logBackRow, standIns := [], harness := (true, "36e40334727ddcf433daec90878d335fdd80ff0e156ff5406641eae5622d47b1"), looks := true }, kinds := [], alts := [], laidByText := true, laidKinds := [.data, .data, .data, .sentinel, .sentinel], laidTests := true, laidLooks := .later }
def LogBackCardSaid : Prop := Claim7.holds Tryd.pinned (.plain (OpenSpec.ofChange logBackSpec)) logBackCard

/-- THE TIED CARD OF 'steadkeep.LogOwn'. -/
def logOwnCard : Claim7 := { stood := { row := logOwnRow, standIns := [], harness := (true, "36e40334727ddcf433daec90878d335fdd80ff0e156ff5406641eae5622d47b1"), looks := true }, kinds := [], alts := [], laidByText := true, laidKinds := [.data, .data, .data], laidTests := true, laidLooks := .later }
def LogOwnCardSaid : Prop := Claim7.holds Tryd.pinned (.plain (OpenSpec.ofChange logOwnSpec)) logOwnCard

/-- THE SECOND FORM's CARD OF 'steadlaw.LogSays'. -/
def logSaysUptoCard : Claim7 := { stood := { row := logSaysUptoRow, standIns := [], harness := (true, "36e40334727ddcf433daec90878d335fdd80ff0e156ff5406641eae5622d47b1"), looks := true }, kinds := [], alts := [], laidByText := true, laidKinds := [.data, .data, .data, .data, .sentinel, .sentinel, .pinned], laidTests := true, laidLooks := .later }
def LogSaysUptoCardSaid : Prop := Claim7.holds Tryd.pinned (.plain (OpenSpec.upto logSaysSpec)) logSaysUptoCard

/-- THE SECOND FORM's CARD OF 'steadkeep.LogBack'. -/
def logBackUptoCard : Claim7 := { stood := { row := logBackUptoRow, standIns := [], harness := (true, "36e40334727ddcf433daec90878d335fdd80ff0e156ff5406641eae5622d47b1"), looks := true }, kinds := [], alts := [], laidByText := true, laidKinds := [.data, .data, .data, .sentinel, .sentinel], laidTests := true, laidLooks := .later }
def LogBackUptoCardSaid : Prop := Claim7.holds Tryd.pinned (.plain (OpenSpec.upto logBackSpec)) logBackUptoCard

/-- THE SECOND FORM's CARD OF 'steadkeep.LogOwn'. -/
def logOwnUptoCard : Claim7 := { stood := { row := logOwnUptoRow, standIns := [], harness := (true, "36e40334727ddcf433daec90878d335fdd80ff0e156ff5406641eae5622d47b1"), looks := true }, kinds := [], alts := [], laidByText := true, laidKinds := [.data, .data, .data], laidTests := true, laidLooks := .later }
def LogOwnUptoCardSaid : Prop := Claim7.holds Tryd.pinned (.plain (OpenSpec.upto logOwnSpec)) logOwnUptoCard
end Rows
end Go.Proofs.YtkklinjamcfppaaDoor
