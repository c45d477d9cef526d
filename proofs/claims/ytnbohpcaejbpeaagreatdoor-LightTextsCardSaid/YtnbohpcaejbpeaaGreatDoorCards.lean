/-
  DERIVED. GIVEN WITH THE SEED: THE CARDS: each row of YtnbohpcaejbpeaaGreatDoorRows.lean that lists a variable, with what it lists TIED to the program's text (the seventh form; the later family's looks); each row that meets fmt, with fmt's text TOLD by the authors' own Lean function (tested against real Go, not proved from fmt's source: count such statements apart). THE CARD IS WHAT COUNTS. Prove the row's statement (the work); the ties are given (YtnbohpcaejbpeaaGreatDoorTie.lean); close each card by the builder's one call (the guide's Derived/Test/ToyasCard.lean, 'card_holds'). Laid BY PROGRAM, IN A SANDBOX (cutbox-door.mjs). By AI agents, Wed Nov 11 2026. No macro, syntax, notation, axiom, sorry.
-/
import Derived.Test.YtnbohpcaejbpeaaGreatDoorRows
import GoSem.ClaimSeven
namespace Go.Proofs.YtnbohpcaejbpeaaGreatDoor
namespace Rows

/-- THE TIED CARD OF 'spillagelaw01.LightTexts'. -/
def lightTextsCard : Claim7 := { stood := { row := lightTextsRow, standIns := [], harness := (true, "69a959d0105de1021131664908b107e6f4d4f9069a0c3331654feab38de2e1c4"), looks := true }, kinds := [], alts := [], laidByText := true, laidKinds := [.data, .data, .data, .data, .sentinel, .sentinel, .pinned], laidTests := true, laidLooks := .later }
def LightTextsCardSaid : Prop := Claim7.holds Tryz.pinned (.plain (OpenSpec.ofChange lightTextsSpec)) lightTextsCard

/-- THE TIED CARD OF 'spillagelaw01.LightBack'. -/
def lightBackCard : Claim7 := { stood := { row := lightBackRow, standIns := [], harness := (true, "69a959d0105de1021131664908b107e6f4d4f9069a0c3331654feab38de2e1c4"), looks := true }, kinds := [], alts := [], laidByText := true, laidKinds := [.data, .data, .data, .data, .sentinel, .sentinel, .pinned], laidTests := true, laidLooks := .later }
def LightBackCardSaid : Prop := Claim7.holds Tryz.pinned (.plain (OpenSpec.ofChange lightBackSpec)) lightBackCard

/-- THE SECOND FORM's CARD OF 'spillagelaw01.LightTexts'. -/
def lightTextsUptoCard : Claim7 := { stood := { row := lightTextsUptoRow, standIns := [], harness := (true, "69a959d0105de1021131664908b107e6f4d4f9069a0c3331654feab38de2e1c4"), looks := true }, kinds := [], alts := [], laidByText := true, laidKinds := [.data, .data, .data, .data, .sentinel, .sentinel, .pinned], laidTests := true, laidLooks := .later }
def LightTextsUptoCardSaid : Prop := Claim7.holds Tryz.pinned (.plain (OpenSpec.upto lightTextsSpec)) lightTextsUptoCard

/-- THE SECOND FORM's CARD OF 'spillagelaw01.LightBack'. -/
def lightBackUptoCard : Claim7 := { stood := { row := lightBackUptoRow, standIns := [], harness := (true, "69a959d0105de1021131664908b107e6f4d4f9069a0c3331654feab38de2e1c4"), looks := true }, kinds := [], alts := [], laidByText := true, laidKinds := [.data, .data, .data, .data, .sentinel, .sentinel, .pinned], laidTests := true, laidLooks := .later }
def LightBackUptoCardSaid : Prop := Claim7.holds Tryz.pinned (.plain (OpenSpec.upto lightBackSpec)) lightBackUptoCard
end Rows
end Go.Proofs.YtnbohpcaejbpeaaGreatDoor
