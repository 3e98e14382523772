/-
  DERIVED. GIVEN WITH THE SEED: THE CARDS: each row of YtfnfliooimkddaaDoorRows.lean that lists a variable, with what it lists TIED to the program's text (the seventh form; the later family's looks); each row that meets fmt, with fmt's text TOLD by the authors' own Lean function (tested against real Go, not proved from fmt's source: count such statements apart). THE CARD IS WHAT COUNTS. Prove the row's statement (the work); the ties are given (YtfnfliooimkddaaDoorTie.lean); close each card by the builder's one call (the guide's Derived/Test/ToyasCard.lean, 'card_holds'). Laid BY PROGRAM, IN A SANDBOX (cutbox-door.mjs). By AI agents, Wed Nov 11 2026. No macro, syntax, notation, axiom, sorry.
-/
import Derived.Test.YtfnfliooimkddaaDoorRows
import GoSem.ClaimSeven
namespace Go.Proofs.YtfnfliooimkddaaDoor
namespace Rows

/-- THE TIED CARD OF 'bosketlaw02.BytesetTells'. -/
def bytesetTellsCard : Claim7 := { stood := { row := bytesetTellsRow, standIns := [], harness := (true, "6e5c83ed73f901dcddadb2171b9c463b7c6fdd560486531ca57f6fb51a5b9789"), looks := false }, kinds := [], alts := [], laidByText := true, laidKinds := [.data], laidTests := true, laidLooks := .later }
def BytesetTellsCardSaid : Prop := Claim7.holds Tryd.pinned (.plain (OpenSpec.ofChange bytesetTellsSpec)) bytesetTellsCard

/-- THE SECOND FORM's CARD OF 'bosketlaw02.BytesetTells'. -/
def bytesetTellsUptoCard : Claim7 := { stood := { row := bytesetTellsUptoRow, standIns := [], harness := (true, "6e5c83ed73f901dcddadb2171b9c463b7c6fdd560486531ca57f6fb51a5b9789"), looks := false }, kinds := [], alts := [], laidByText := true, laidKinds := [.data], laidTests := true, laidLooks := .later }
def BytesetTellsUptoCardSaid : Prop := Claim7.holds Tryd.pinned (.plain (OpenSpec.upto bytesetTellsSpec)) bytesetTellsUptoCard
end Rows
end Go.Proofs.YtfnfliooimkddaaDoor
