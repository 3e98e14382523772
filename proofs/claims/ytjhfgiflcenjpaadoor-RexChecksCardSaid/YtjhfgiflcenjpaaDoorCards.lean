/-
  DERIVED. GIVEN WITH THE SEED: THE CARDS: each row of YtjhfgiflcenjpaaDoorRows.lean that lists a variable, with what it lists TIED to the program's text (the seventh form; the later family's looks); each row that meets fmt, with fmt's text TOLD by the authors' own Lean function (tested against real Go, not proved from fmt's source: count such statements apart). THE CARD IS WHAT COUNTS. Prove the row's statement (the work); the ties are given (YtjhfgiflcenjpaaDoorTie.lean); close each card by the builder's one call (the guide's Derived/Test/ToyasCard.lean, 'card_holds'). Laid BY PROGRAM, IN A SANDBOX (cutbox-door.mjs). By AI agents, Wed Nov 11 2026. No macro, syntax, notation, axiom, sorry.
-/
import Derived.Test.YtjhfgiflcenjpaaDoorRows
import GoSem.ClaimSeven
namespace Go.Proofs.YtjhfgiflcenjpaaDoor
namespace Rows

/-- THE TIED CARD OF 'bosketlaw04.RexChecks'. -/
def rexChecksCard : Claim7 := { stood := { row := rexChecksRow, standIns := [], harness := (true, "1a197fa2067d285aa6f942afbf97aba745f075e257406bd2967a5bd5eca22f6e"), looks := false }, kinds := [], alts := [], laidByText := true, laidKinds := [.data], laidTests := true, laidLooks := .later }
def RexChecksCardSaid : Prop := Claim7.holds Tryd.pinned (.plain (OpenSpec.ofChange rexChecksSpec)) rexChecksCard

/-- THE TIED CARD OF 'bosketlaw04.RexShows'. -/
def rexShowsCard : Claim7 := { stood := { row := rexShowsRow, standIns := [], harness := (true, "1a197fa2067d285aa6f942afbf97aba745f075e257406bd2967a5bd5eca22f6e"), looks := false }, kinds := [], alts := [], laidByText := true, laidKinds := [.data], laidTests := true, laidLooks := .later }
def RexShowsCardSaid : Prop := Claim7.holds Tryd.pinned (.plain (OpenSpec.ofChange rexShowsSpec)) rexShowsCard

/-- THE SECOND FORM's CARD OF 'bosketlaw04.RexChecks'. -/
def rexChecksUptoCard : Claim7 := { stood := { row := rexChecksUptoRow, standIns := [], harness := (true, "1a197fa2067d285aa6f942afbf97aba745f075e257406bd2967a5bd5eca22f6e"), looks := false }, kinds := [], alts := [], laidByText := true, laidKinds := [.data], laidTests := true, laidLooks := .later }
def RexChecksUptoCardSaid : Prop := Claim7.holds Tryd.pinned (.plain (OpenSpec.upto rexChecksSpec)) rexChecksUptoCard

/-- THE SECOND FORM's CARD OF 'bosketlaw04.RexShows'. -/
def rexShowsUptoCard : Claim7 := { stood := { row := rexShowsUptoRow, standIns := [], harness := (true, "1a197fa2067d285aa6f942afbf97aba745f075e257406bd2967a5bd5eca22f6e"), looks := false }, kinds := [], alts := [], laidByText := true, laidKinds := [.data], laidTests := true, laidLooks := .later }
def RexShowsUptoCardSaid : Prop := Claim7.holds Tryd.pinned (.plain (OpenSpec.upto rexShowsSpec)) rexShowsUptoCard
end Rows
end Go.Proofs.YtjhfgiflcenjpaaDoor
