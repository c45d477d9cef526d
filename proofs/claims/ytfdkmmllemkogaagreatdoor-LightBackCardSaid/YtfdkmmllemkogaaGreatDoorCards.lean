/-
  DERIVED. GIVEN WITH THE SEED: THE CARDS: each row of YtfdkmmllemkogaaGreatDoorRows.lean that lists a variable, with what it lists TIED to the program's text (the seventh form; the later family's looks); each row that meets fmt, with fmt's text TOLD by the authors' own Lean function (tested against real Go, not proved from fmt's source: count such statements apart). THE CARD IS WHAT COUNTS. Prove the row's statement (the work); the ties are given (YtfdkmmllemkogaaGreatDoorTie.lean); close each card by the builder's one call (the guide's Derived/Test/ToyasCard.lean, 'card_holds'). Laid BY PROGRAM, IN A SANDBOX (cutbox-door.mjs). By AI agents, Wed Nov 11 2026. No macro, syntax, notation, axiom, sorry.
-/
import Derived.Test.YtfdkmmllemkogaaGreatDoorRows
import GoSem.ClaimSeven
namespace Go.Proofs.YtfdkmmllemkogaaGreatDoor
namespace Rows

/-- THE TIED CARD OF 'spillagelaw01.LightNames'. -/
def lightNamesCard : Claim7 := { stood := { row := lightNamesRow, standIns := [], harness := (true, "5625aad97335e0f510cec3ae1c916a619752a4016c2fabde92a9ce3b370e67f0"), looks := true }, kinds := [], alts := [], laidByText := true, laidKinds := [.data, .data, .data], laidTests := true, laidLooks := .later }
def LightNamesCardSaid : Prop := Claim7.holds Tryz.pinned (.plain (OpenSpec.ofChange lightNamesSpec)) lightNamesCard

/-- THE TIED CARD OF 'spillagelaw01.LightMaps'. -/
def lightMapsCard : Claim7 := { stood := { row := lightMapsRow, standIns := [], harness := (true, "5625aad97335e0f510cec3ae1c916a619752a4016c2fabde92a9ce3b370e67f0"), looks := true }, kinds := [], alts := [], laidByText := true, laidKinds := [.data, .data, .data], laidTests := true, laidLooks := .later }
def LightMapsCardSaid : Prop := Claim7.holds Tryz.pinned (.plain (OpenSpec.ofChange lightMapsSpec)) lightMapsCard

/-- THE TIED CARD OF 'spillagelaw01.LightParts'. -/
def lightPartsCard : Claim7 := { stood := { row := lightPartsRow, standIns := [], harness := (true, "5625aad97335e0f510cec3ae1c916a619752a4016c2fabde92a9ce3b370e67f0"), looks := true }, kinds := [], alts := [], laidByText := true, laidKinds := [.data, .data, .data], laidTests := true, laidLooks := .later }
def LightPartsCardSaid : Prop := Claim7.holds Tryz.pinned (.plain (OpenSpec.ofChange lightPartsSpec)) lightPartsCard

/-- THE TIED CARD OF 'spillagelaw01.LightTurns'. -/
def lightTurnsCard : Claim7 := { stood := { row := lightTurnsRow, standIns := [], harness := (true, "5625aad97335e0f510cec3ae1c916a619752a4016c2fabde92a9ce3b370e67f0"), looks := true }, kinds := [], alts := [], laidByText := true, laidKinds := [.data, .data, .data], laidTests := true, laidLooks := .later }
def LightTurnsCardSaid : Prop := Claim7.holds Tryz.pinned (.plain (OpenSpec.ofChange lightTurnsSpec)) lightTurnsCard

/-- THE TIED CARD OF 'spillagelaw01.LightSpreads'. -/
def lightSpreadsCard : Claim7 := { stood := { row := lightSpreadsRow, standIns := [], harness := (true, "5625aad97335e0f510cec3ae1c916a619752a4016c2fabde92a9ce3b370e67f0"), looks := true }, kinds := [], alts := [], laidByText := true, laidKinds := [.data, .data, .data], laidTests := true, laidLooks := .later }
def LightSpreadsCardSaid : Prop := Claim7.holds Tryz.pinned (.plain (OpenSpec.ofChange lightSpreadsSpec)) lightSpreadsCard

/-- THE TIED CARD OF 'spillagelaw01.LightWaves'. -/
def lightWavesCard : Claim7 := { stood := { row := lightWavesRow, standIns := [], harness := (true, "5625aad97335e0f510cec3ae1c916a619752a4016c2fabde92a9ce3b370e67f0"), looks := true }, kinds := [], alts := [], laidByText := true, laidKinds := [.data, .data, .data], laidTests := true, laidLooks := .later }
def LightWavesCardSaid : Prop := Claim7.holds Tryz.pinned (.plain (OpenSpec.ofChange lightWavesSpec)) lightWavesCard

/-- THE TIED CARD OF 'spillagelaw01.LightTelegrams'. -/
def lightTelegramsCard : Claim7 := { stood := { row := lightTelegramsRow, standIns := [], harness := (true, "5625aad97335e0f510cec3ae1c916a619752a4016c2fabde92a9ce3b370e67f0"), looks := true }, kinds := [], alts := [], laidByText := true, laidKinds := [.data, .data, .data], laidTests := true, laidLooks := .later }
def LightTelegramsCardSaid : Prop := Claim7.holds Tryz.pinned (.plain (OpenSpec.ofChange lightTelegramsSpec)) lightTelegramsCard

/-- THE TIED CARD OF 'spillagelaw01.LightLosses'. -/
def lightLossesCard : Claim7 := { stood := { row := lightLossesRow, standIns := [], harness := (true, "5625aad97335e0f510cec3ae1c916a619752a4016c2fabde92a9ce3b370e67f0"), looks := true }, kinds := [], alts := [], laidByText := true, laidKinds := [.data, .data, .data], laidTests := true, laidLooks := .later }
def LightLossesCardSaid : Prop := Claim7.holds Tryz.pinned (.plain (OpenSpec.ofChange lightLossesSpec)) lightLossesCard

/-- THE TIED CARD OF 'spillagelaw01.LightStreams'. -/
def lightStreamsCard : Claim7 := { stood := { row := lightStreamsRow, standIns := [], harness := (true, "5625aad97335e0f510cec3ae1c916a619752a4016c2fabde92a9ce3b370e67f0"), looks := true }, kinds := [], alts := [], laidByText := true, laidKinds := [.data, .data, .data], laidTests := true, laidLooks := .later }
def LightStreamsCardSaid : Prop := Claim7.holds Tryz.pinned (.plain (OpenSpec.ofChange lightStreamsSpec)) lightStreamsCard

/-- THE TIED CARD OF 'spillagelaw01.LightTexts'. -/
def lightTextsCard : Claim7 := { stood := { row := lightTextsRow, standIns := [], harness := (true, "5625aad97335e0f510cec3ae1c916a619752a4016c2fabde92a9ce3b370e67f0"), looks := true }, kinds := [], alts := [], laidByText := true, laidKinds := [.data, .data, .data, .data, .sentinel, .sentinel, .pinned], laidTests := true, laidLooks := .later }
def LightTextsCardSaid : Prop := Claim7.holds Tryz.pinned (.plain (OpenSpec.ofChange lightTextsSpec)) lightTextsCard

/-- THE TIED CARD OF 'spillagelaw01.LightCut'. -/
def lightCutCard : Claim7 := { stood := { row := lightCutRow, standIns := [], harness := (true, "5625aad97335e0f510cec3ae1c916a619752a4016c2fabde92a9ce3b370e67f0"), looks := true }, kinds := [], alts := [], laidByText := true, laidKinds := [.data, .data, .data], laidTests := true, laidLooks := .later }
def LightCutCardSaid : Prop := Claim7.holds Tryz.pinned (.plain (OpenSpec.ofChange lightCutSpec)) lightCutCard

/-- THE TIED CARD OF 'spillagelaw01.LightKept'. -/
def lightKeptCard : Claim7 := { stood := { row := lightKeptRow, standIns := [], harness := (true, "5625aad97335e0f510cec3ae1c916a619752a4016c2fabde92a9ce3b370e67f0"), looks := true }, kinds := [], alts := [], laidByText := true, laidKinds := [.data, .data, .data], laidTests := true, laidLooks := .later }
def LightKeptCardSaid : Prop := Claim7.holds Tryz.pinned (.plain (OpenSpec.ofChange lightKeptSpec)) lightKeptCard

/-- THE TIED CARD OF 'spillagelaw01.LightBins'. -/
def lightBinsCard : Claim7 := { stood := { row := lightBinsRow, standIns := [], harness := (true, "5625aad97335e0f510cec3ae1c916a619752a4016c2fabde92a9ce3b370e67f0"), looks := true }, kinds := [], alts := [], laidByText := true, laidKinds := [.data, .data, .data], laidTests := true, laidLooks := .later }
def LightBinsCardSaid : Prop := Claim7.holds Tryz.pinned (.plain (OpenSpec.ofChange lightBinsSpec)) lightBinsCard

/-- THE TIED CARD OF 'spillagelaw01.LightFound'. -/
def lightFoundCard : Claim7 := { stood := { row := lightFoundRow, standIns := [], harness := (true, "5625aad97335e0f510cec3ae1c916a619752a4016c2fabde92a9ce3b370e67f0"), looks := true }, kinds := [], alts := [], laidByText := true, laidKinds := [.data, .data, .data], laidTests := true, laidLooks := .later }
def LightFoundCardSaid : Prop := Claim7.holds Tryz.pinned (.plain (OpenSpec.ofChange lightFoundSpec)) lightFoundCard

/-- THE TIED CARD OF 'spillagelaw01.LightBack'. -/
def lightBackCard : Claim7 := { stood := { row := lightBackRow, standIns := [], harness := (true, "5625aad97335e0f510cec3ae1c916a619752a4016c2fabde92a9ce3b370e67f0"), looks := true }, kinds := [], alts := [], laidByText := true, laidKinds := [.data, .data, .data, .data, .sentinel, .sentinel, .pinned], laidTests := true, laidLooks := .later }
def LightBackCardSaid : Prop := Claim7.holds Tryz.pinned (.plain (OpenSpec.ofChange lightBackSpec)) lightBackCard

/-- THE TIED CARD OF 'spillagetop.TopEmberRing'. -/
def topEmberRingCard : Claim7 := { stood := { row := topEmberRingRow, standIns := [], harness := (true, "5625aad97335e0f510cec3ae1c916a619752a4016c2fabde92a9ce3b370e67f0"), looks := true }, kinds := [], alts := [], laidByText := true, laidKinds := [.data, .data, .data, .data, .sentinel, .sentinel, .pinned], laidTests := true, laidLooks := .later }
def TopEmberRingCardSaid : Prop := Claim7.holds Tryz.pinned (.plain (OpenSpec.ofChange topEmberRingSpec)) topEmberRingCard

/-- THE SECOND FORM's CARD OF 'spillagelaw01.LightNames'. -/
def lightNamesUptoCard : Claim7 := { stood := { row := lightNamesUptoRow, standIns := [], harness := (true, "5625aad97335e0f510cec3ae1c916a619752a4016c2fabde92a9ce3b370e67f0"), looks := true }, kinds := [], alts := [], laidByText := true, laidKinds := [.data, .data, .data], laidTests := true, laidLooks := .later }
def LightNamesUptoCardSaid : Prop := Claim7.holds Tryz.pinned (.plain (OpenSpec.upto lightNamesSpec)) lightNamesUptoCard

/-- THE SECOND FORM's CARD OF 'spillagelaw01.LightMaps'. -/
def lightMapsUptoCard : Claim7 := { stood := { row := lightMapsUptoRow, standIns := [], harness := (true, "5625aad97335e0f510cec3ae1c916a619752a4016c2fabde92a9ce3b370e67f0"), looks := true }, kinds := [], alts := [], laidByText := true, laidKinds := [.data, .data, .data], laidTests := true, laidLooks := .later }
def LightMapsUptoCardSaid : Prop := Claim7.holds Tryz.pinned (.plain (OpenSpec.upto lightMapsSpec)) lightMapsUptoCard

/-- THE SECOND FORM's CARD OF 'spillagelaw01.LightParts'. -/
def lightPartsUptoCard : Claim7 := { stood := { row := lightPartsUptoRow, standIns := [], harness := (true, "5625aad97335e0f510cec3ae1c916a619752a4016c2fabde92a9ce3b370e67f0"), looks := true }, kinds := [], alts := [], laidByText := true, laidKinds := [.data, .data, .data], laidTests := true, laidLooks := .later }
def LightPartsUptoCardSaid : Prop := Claim7.holds Tryz.pinned (.plain (OpenSpec.upto lightPartsSpec)) lightPartsUptoCard

/-- THE SECOND FORM's CARD OF 'spillagelaw01.LightTurns'. -/
def lightTurnsUptoCard : Claim7 := { stood := { row := lightTurnsUptoRow, standIns := [], harness := (true, "5625aad97335e0f510cec3ae1c916a619752a4016c2fabde92a9ce3b370e67f0"), looks := true }, kinds := [], alts := [], laidByText := true, laidKinds := [.data, .data, .data], laidTests := true, laidLooks := .later }
def LightTurnsUptoCardSaid : Prop := Claim7.holds Tryz.pinned (.plain (OpenSpec.upto lightTurnsSpec)) lightTurnsUptoCard

/-- THE SECOND FORM's CARD OF 'spillagelaw01.LightSpreads'. -/
def lightSpreadsUptoCard : Claim7 := { stood := { row := lightSpreadsUptoRow, standIns := [], harness := (true, "5625aad97335e0f510cec3ae1c916a619752a4016c2fabde92a9ce3b370e67f0"), looks := true }, kinds := [], alts := [], laidByText := true, laidKinds := [.data, .data, .data], laidTests := true, laidLooks := .later }
def LightSpreadsUptoCardSaid : Prop := Claim7.holds Tryz.pinned (.plain (OpenSpec.upto lightSpreadsSpec)) lightSpreadsUptoCard

/-- THE SECOND FORM's CARD OF 'spillagelaw01.LightWaves'. -/
def lightWavesUptoCard : Claim7 := { stood := { row := lightWavesUptoRow, standIns := [], harness := (true, "5625aad97335e0f510cec3ae1c916a619752a4016c2fabde92a9ce3b370e67f0"), looks := true }, kinds := [], alts := [], laidByText := true, laidKinds := [.data, .data, .data], laidTests := true, laidLooks := .later }
def LightWavesUptoCardSaid : Prop := Claim7.holds Tryz.pinned (.plain (OpenSpec.upto lightWavesSpec)) lightWavesUptoCard

/-- THE SECOND FORM's CARD OF 'spillagelaw01.LightTelegrams'. -/
def lightTelegramsUptoCard : Claim7 := { stood := { row := lightTelegramsUptoRow, standIns := [], harness := (true, "5625aad97335e0f510cec3ae1c916a619752a4016c2fabde92a9ce3b370e67f0"), looks := true }, kinds := [], alts := [], laidByText := true, laidKinds := [.data, .data, .data], laidTests := true, laidLooks := .later }
def LightTelegramsUptoCardSaid : Prop := Claim7.holds Tryz.pinned (.plain (OpenSpec.upto lightTelegramsSpec)) lightTelegramsUptoCard

/-- THE SECOND FORM's CARD OF 'spillagelaw01.LightLosses'. -/
def lightLossesUptoCard : Claim7 := { stood := { row := lightLossesUptoRow, standIns := [], harness := (true, "5625aad97335e0f510cec3ae1c916a619752a4016c2fabde92a9ce3b370e67f0"), looks := true }, kinds := [], alts := [], laidByText := true, laidKinds := [.data, .data, .data], laidTests := true, laidLooks := .later }
def LightLossesUptoCardSaid : Prop := Claim7.holds Tryz.pinned (.plain (OpenSpec.upto lightLossesSpec)) lightLossesUptoCard

/-- THE SECOND FORM's CARD OF 'spillagelaw01.LightStreams'. -/
def lightStreamsUptoCard : Claim7 := { stood := { row := lightStreamsUptoRow, standIns := [], harness := (true, "5625aad97335e0f510cec3ae1c916a619752a4016c2fabde92a9ce3b370e67f0"), looks := true }, kinds := [], alts := [], laidByText := true, laidKinds := [.data, .data, .data], laidTests := true, laidLooks := .later }
def LightStreamsUptoCardSaid : Prop := Claim7.holds Tryz.pinned (.plain (OpenSpec.upto lightStreamsSpec)) lightStreamsUptoCard

/-- THE SECOND FORM's CARD OF 'spillagelaw01.LightTexts'. -/
def lightTextsUptoCard : Claim7 := { stood := { row := lightTextsUptoRow, standIns := [], harness := (true, "5625aad97335e0f510cec3ae1c916a619752a4016c2fabde92a9ce3b370e67f0"), looks := true }, kinds := [], alts := [], laidByText := true, laidKinds := [.data, .data, .data, .data, .sentinel, .sentinel, .pinned], laidTests := true, laidLooks := .later }
def LightTextsUptoCardSaid : Prop := Claim7.holds Tryz.pinned (.plain (OpenSpec.upto lightTextsSpec)) lightTextsUptoCard

/-- THE SECOND FORM's CARD OF 'spillagelaw01.LightCut'. -/
def lightCutUptoCard : Claim7 := { stood := { row := lightCutUptoRow, standIns := [], harness := (true, "5625aad97335e0f510cec3ae1c916a619752a4016c2fabde92a9ce3b370e67f0"), looks := true }, kinds := [], alts := [], laidByText := true, laidKinds := [.data, .data, .data], laidTests := true, laidLooks := .later }
def LightCutUptoCardSaid : Prop := Claim7.holds Tryz.pinned (.plain (OpenSpec.upto lightCutSpec)) lightCutUptoCard

/-- THE SECOND FORM's CARD OF 'spillagelaw01.LightKept'. -/
def lightKeptUptoCard : Claim7 := { stood := { row := lightKeptUptoRow, standIns := [], harness := (true, "5625aad97335e0f510cec3ae1c916a619752a4016c2fabde92a9ce3b370e67f0"), looks := true }, kinds := [], alts := [], laidByText := true, laidKinds := [.data, .data, .data], laidTests := true, laidLooks := .later }
def LightKeptUptoCardSaid : Prop := Claim7.holds Tryz.pinned (.plain (OpenSpec.upto lightKeptSpec)) lightKeptUptoCard

/-- THE SECOND FORM's CARD OF 'spillagelaw01.LightBins'. -/
def lightBinsUptoCard : Claim7 := { stood := { row := lightBinsUptoRow, standIns := [], harness := (true, "5625aad97335e0f510cec3ae1c916a619752a4016c2fabde92a9ce3b370e67f0"), looks := true }, kinds := [], alts := [], laidByText := true, laidKinds := [.data, .data, .data], laidTests := true, laidLooks := .later }
def LightBinsUptoCardSaid : Prop := Claim7.holds Tryz.pinned (.plain (OpenSpec.upto lightBinsSpec)) lightBinsUptoCard

/-- THE SECOND FORM's CARD OF 'spillagelaw01.LightFound'. -/
def lightFoundUptoCard : Claim7 := { stood := { row := lightFoundUptoRow, standIns := [], harness := (true, "5625aad97335e0f510cec3ae1c916a619752a4016c2fabde92a9ce3b370e67f0"), looks := true }, kinds := [], alts := [], laidByText := true, laidKinds := [.data, .data, .data], laidTests := true, laidLooks := .later }
def LightFoundUptoCardSaid : Prop := Claim7.holds Tryz.pinned (.plain (OpenSpec.upto lightFoundSpec)) lightFoundUptoCard

/-- THE SECOND FORM's CARD OF 'spillagelaw01.LightBack'. -/
def lightBackUptoCard : Claim7 := { stood := { row := lightBackUptoRow, standIns := [], harness := (true, "5625aad97335e0f510cec3ae1c916a619752a4016c2fabde92a9ce3b370e67f0"), looks := true }, kinds := [], alts := [], laidByText := true, laidKinds := [.data, .data, .data, .data, .sentinel, .sentinel, .pinned], laidTests := true, laidLooks := .later }
def LightBackUptoCardSaid : Prop := Claim7.holds Tryz.pinned (.plain (OpenSpec.upto lightBackSpec)) lightBackUptoCard

/-- THE SECOND FORM's CARD OF 'spillagetop.TopEmberRing'. -/
def topEmberRingUptoCard : Claim7 := { stood := { row := topEmberRingUptoRow, standIns := [], harness := (true, "5625aad97335e0f510cec3ae1c916a619752a4016c2fabde92a9ce3b370e67f0"), looks := true }, kinds := [], alts := [], laidByText := true, laidKinds := [.data, .data, .data, .data, .sentinel, .sentinel, .pinned], laidTests := true, laidLooks := .later }
def TopEmberRingUptoCardSaid : Prop := Claim7.holds Tryz.pinned (.plain (OpenSpec.upto topEmberRingSpec)) topEmberRingUptoCard
end Rows
end Go.Proofs.YtfdkmmllemkogaaGreatDoor
