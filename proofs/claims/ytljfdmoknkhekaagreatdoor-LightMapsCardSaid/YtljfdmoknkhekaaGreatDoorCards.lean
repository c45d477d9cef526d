/-
  DERIVED. GIVEN WITH THE SEED: THE CARDS: each row of YtljfdmoknkhekaaGreatDoorRows.lean that lists a variable, with what it lists TIED to the program's text (the seventh form; the later family's looks); each row that meets fmt, with fmt's text TOLD by the authors' own Lean function (tested against real Go, not proved from fmt's source: count such statements apart). THE CARD IS WHAT COUNTS. Prove the row's statement (the work); the ties are given (YtljfdmoknkhekaaGreatDoorTie.lean); close each card by the builder's one call (the guide's Derived/Test/ToyasCard.lean, 'card_holds'). Laid BY PROGRAM, IN A SANDBOX (cutbox-door.mjs). By AI agents, Wed Nov 11 2026. No macro, syntax, notation, axiom, sorry.
-/
import Derived.Test.YtljfdmoknkhekaaGreatDoorRows
import GoSem.ClaimSeven
namespace Go.Proofs.YtljfdmoknkhekaaGreatDoor
namespace Rows

/-- THE TIED CARD OF 'spillagelaw01.LightMaps'. -/
def lightMapsCard : Claim7 := { stood := { row := lightMapsRow, standIns := [], harness := (true, "52791da42dce5ae38b237cc0a28f0c82a62d9fdcc5e63f3c77b657a410feda7f"), looks := false }, kinds := [], alts := [], laidByText := true, laidKinds := [.data, .data, .data], laidTests := true, laidLooks := .later }
def LightMapsCardSaid : Prop := Claim7.holds Tryz.pinned (.plain (OpenSpec.ofChange lightMapsSpec)) lightMapsCard

/-- THE TIED CARD OF 'spillagelaw01.LightParts'. -/
def lightPartsCard : Claim7 := { stood := { row := lightPartsRow, standIns := [], harness := (true, "52791da42dce5ae38b237cc0a28f0c82a62d9fdcc5e63f3c77b657a410feda7f"), looks := false }, kinds := [], alts := [], laidByText := true, laidKinds := [.data, .data, .data], laidTests := true, laidLooks := .later }
def LightPartsCardSaid : Prop := Claim7.holds Tryz.pinned (.plain (OpenSpec.ofChange lightPartsSpec)) lightPartsCard

/-- THE TIED CARD OF 'spillagelaw01.LightTurns'. -/
def lightTurnsCard : Claim7 := { stood := { row := lightTurnsRow, standIns := [], harness := (true, "52791da42dce5ae38b237cc0a28f0c82a62d9fdcc5e63f3c77b657a410feda7f"), looks := false }, kinds := [], alts := [], laidByText := true, laidKinds := [.data, .data, .data], laidTests := true, laidLooks := .later }
def LightTurnsCardSaid : Prop := Claim7.holds Tryz.pinned (.plain (OpenSpec.ofChange lightTurnsSpec)) lightTurnsCard

/-- THE TIED CARD OF 'spillagelaw01.LightSpreads'. -/
def lightSpreadsCard : Claim7 := { stood := { row := lightSpreadsRow, standIns := [], harness := (true, "52791da42dce5ae38b237cc0a28f0c82a62d9fdcc5e63f3c77b657a410feda7f"), looks := false }, kinds := [], alts := [], laidByText := true, laidKinds := [.data, .data, .data], laidTests := true, laidLooks := .later }
def LightSpreadsCardSaid : Prop := Claim7.holds Tryz.pinned (.plain (OpenSpec.ofChange lightSpreadsSpec)) lightSpreadsCard

/-- THE TIED CARD OF 'spillagelaw01.LightCut'. -/
def lightCutCard : Claim7 := { stood := { row := lightCutRow, standIns := [], harness := (true, "52791da42dce5ae38b237cc0a28f0c82a62d9fdcc5e63f3c77b657a410feda7f"), looks := false }, kinds := [], alts := [], laidByText := true, laidKinds := [.data, .data, .data], laidTests := true, laidLooks := .later }
def LightCutCardSaid : Prop := Claim7.holds Tryz.pinned (.plain (OpenSpec.ofChange lightCutSpec)) lightCutCard

/-- THE TIED CARD OF 'spillagelaw01.LightKept'. -/
def lightKeptCard : Claim7 := { stood := { row := lightKeptRow, standIns := [], harness := (true, "52791da42dce5ae38b237cc0a28f0c82a62d9fdcc5e63f3c77b657a410feda7f"), looks := false }, kinds := [], alts := [], laidByText := true, laidKinds := [.data, .data, .data], laidTests := true, laidLooks := .later }
def LightKeptCardSaid : Prop := Claim7.holds Tryz.pinned (.plain (OpenSpec.ofChange lightKeptSpec)) lightKeptCard

/-- THE SECOND FORM's CARD OF 'spillagelaw01.LightMaps'. -/
def lightMapsUptoCard : Claim7 := { stood := { row := lightMapsUptoRow, standIns := [], harness := (true, "52791da42dce5ae38b237cc0a28f0c82a62d9fdcc5e63f3c77b657a410feda7f"), looks := false }, kinds := [], alts := [], laidByText := true, laidKinds := [.data, .data, .data], laidTests := true, laidLooks := .later }
def LightMapsUptoCardSaid : Prop := Claim7.holds Tryz.pinned (.plain (OpenSpec.upto lightMapsSpec)) lightMapsUptoCard

/-- THE SECOND FORM's CARD OF 'spillagelaw01.LightParts'. -/
def lightPartsUptoCard : Claim7 := { stood := { row := lightPartsUptoRow, standIns := [], harness := (true, "52791da42dce5ae38b237cc0a28f0c82a62d9fdcc5e63f3c77b657a410feda7f"), looks := false }, kinds := [], alts := [], laidByText := true, laidKinds := [.data, .data, .data], laidTests := true, laidLooks := .later }
def LightPartsUptoCardSaid : Prop := Claim7.holds Tryz.pinned (.plain (OpenSpec.upto lightPartsSpec)) lightPartsUptoCard

/-- THE SECOND FORM's CARD OF 'spillagelaw01.LightTurns'. -/
def lightTurnsUptoCard : Claim7 := { stood := { row := lightTurnsUptoRow, standIns := [], harness := (true, "52791da42dce5ae38b237cc0a28f0c82a62d9fdcc5e63f3c77b657a410feda7f"), looks := false }, kinds := [], alts := [], laidByText := true, laidKinds := [.data, .data, .data], laidTests := true, laidLooks := .later }
def LightTurnsUptoCardSaid : Prop := Claim7.holds Tryz.pinned (.plain (OpenSpec.upto lightTurnsSpec)) lightTurnsUptoCard

/-- THE SECOND FORM's CARD OF 'spillagelaw01.LightSpreads'. -/
def lightSpreadsUptoCard : Claim7 := { stood := { row := lightSpreadsUptoRow, standIns := [], harness := (true, "52791da42dce5ae38b237cc0a28f0c82a62d9fdcc5e63f3c77b657a410feda7f"), looks := false }, kinds := [], alts := [], laidByText := true, laidKinds := [.data, .data, .data], laidTests := true, laidLooks := .later }
def LightSpreadsUptoCardSaid : Prop := Claim7.holds Tryz.pinned (.plain (OpenSpec.upto lightSpreadsSpec)) lightSpreadsUptoCard

/-- THE SECOND FORM's CARD OF 'spillagelaw01.LightCut'. -/
def lightCutUptoCard : Claim7 := { stood := { row := lightCutUptoRow, standIns := [], harness := (true, "52791da42dce5ae38b237cc0a28f0c82a62d9fdcc5e63f3c77b657a410feda7f"), looks := false }, kinds := [], alts := [], laidByText := true, laidKinds := [.data, .data, .data], laidTests := true, laidLooks := .later }
def LightCutUptoCardSaid : Prop := Claim7.holds Tryz.pinned (.plain (OpenSpec.upto lightCutSpec)) lightCutUptoCard

/-- THE SECOND FORM's CARD OF 'spillagelaw01.LightKept'. -/
def lightKeptUptoCard : Claim7 := { stood := { row := lightKeptUptoRow, standIns := [], harness := (true, "52791da42dce5ae38b237cc0a28f0c82a62d9fdcc5e63f3c77b657a410feda7f"), looks := false }, kinds := [], alts := [], laidByText := true, laidKinds := [.data, .data, .data], laidTests := true, laidLooks := .later }
def LightKeptUptoCardSaid : Prop := Claim7.holds Tryz.pinned (.plain (OpenSpec.upto lightKeptSpec)) lightKeptUptoCard
end Rows
end Go.Proofs.YtljfdmoknkhekaaGreatDoor
