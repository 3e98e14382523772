/-
  DERIVED. GIVEN WITH THE SEED: THE CARDS: each row of YtbacgnhkapancaaDoorRows.lean that lists a variable, with what it lists TIED to the program's text (the seventh form; the later family's looks); each row that meets fmt, with fmt's text TOLD by the authors' own Lean function (tested against real Go, not proved from fmt's source: count such statements apart). THE CARD IS WHAT COUNTS. Prove the row's statement (the work); the ties are given (YtbacgnhkapancaaDoorTie.lean); close each card by the builder's one call (the guide's Derived/Test/ToyasCard.lean, 'card_holds'). Laid BY PROGRAM, IN A SANDBOX (cutbox-door.mjs). By AI agents, Wed Nov 11 2026. No macro, syntax, notation, axiom, sorry.
-/
import Derived.Test.YtbacgnhkapancaaDoorRows
import GoSem.ClaimSeven
namespace Go.Proofs.YtbacgnhkapancaaDoor
namespace Rows

/-- THE TIED CARD OF 'bosketlaw13.SpotPlaces'. -/
def spotPlacesCard : Claim7 := { stood := { row := spotPlacesRow, standIns := [], harness := (true, "eb178f2dbf8d2b434f52c29922604fb5c758e03489b1c238d9701704108b9666"), looks := true }, kinds := [], alts := [], laidByText := true, laidKinds := [.data, .data, .data], laidTests := true, laidLooks := .later }
def SpotPlacesCardSaid : Prop := Claim7.holds Tryd.pinned (.plain (OpenSpec.ofChange spotPlacesSpec)) spotPlacesCard

/-- THE TIED CARD OF 'bosketlaw13.SpotLines'. -/
def spotLinesCard : Claim7 := { stood := { row := spotLinesRow, standIns := [], harness := (true, "eb178f2dbf8d2b434f52c29922604fb5c758e03489b1c238d9701704108b9666"), looks := true }, kinds := [], alts := [], laidByText := true, laidKinds := [.data, .data, .data], laidTests := true, laidLooks := .later }
def SpotLinesCardSaid : Prop := Claim7.holds Tryd.pinned (.plain (OpenSpec.ofChange spotLinesSpec)) spotLinesCard

/-- THE TIED CARD OF 'bosketlaw13.SpotNumbers'. -/
def spotNumbersCard : Claim7 := { stood := { row := spotNumbersRow, standIns := [], harness := (true, "eb178f2dbf8d2b434f52c29922604fb5c758e03489b1c238d9701704108b9666"), looks := true }, kinds := [], alts := [], laidByText := true, laidKinds := [.data, .data, .data, .sentinel, .sentinel], laidTests := true, laidLooks := .later }
def SpotNumbersCardSaid : Prop := Claim7.holds Tryd.pinned (.plain (OpenSpec.ofChange spotNumbersSpec)) spotNumbersCard

/-- THE SECOND FORM's CARD OF 'bosketlaw13.SpotPlaces'. -/
def spotPlacesUptoCard : Claim7 := { stood := { row := spotPlacesUptoRow, standIns := [], harness := (true, "eb178f2dbf8d2b434f52c29922604fb5c758e03489b1c238d9701704108b9666"), looks := true }, kinds := [], alts := [], laidByText := true, laidKinds := [.data, .data, .data], laidTests := true, laidLooks := .later }
def SpotPlacesUptoCardSaid : Prop := Claim7.holds Tryd.pinned (.plain (OpenSpec.upto spotPlacesSpec)) spotPlacesUptoCard

/-- THE SECOND FORM's CARD OF 'bosketlaw13.SpotLines'. -/
def spotLinesUptoCard : Claim7 := { stood := { row := spotLinesUptoRow, standIns := [], harness := (true, "eb178f2dbf8d2b434f52c29922604fb5c758e03489b1c238d9701704108b9666"), looks := true }, kinds := [], alts := [], laidByText := true, laidKinds := [.data, .data, .data], laidTests := true, laidLooks := .later }
def SpotLinesUptoCardSaid : Prop := Claim7.holds Tryd.pinned (.plain (OpenSpec.upto spotLinesSpec)) spotLinesUptoCard

/-- THE SECOND FORM's CARD OF 'bosketlaw13.SpotNumbers'. -/
def spotNumbersUptoCard : Claim7 := { stood := { row := spotNumbersUptoRow, standIns := [], harness := (true, "eb178f2dbf8d2b434f52c29922604fb5c758e03489b1c238d9701704108b9666"), looks := true }, kinds := [], alts := [], laidByText := true, laidKinds := [.data, .data, .data, .sentinel, .sentinel], laidTests := true, laidLooks := .later }
def SpotNumbersUptoCardSaid : Prop := Claim7.holds Tryd.pinned (.plain (OpenSpec.upto spotNumbersSpec)) spotNumbersUptoCard
end Rows
end Go.Proofs.YtbacgnhkapancaaDoor
