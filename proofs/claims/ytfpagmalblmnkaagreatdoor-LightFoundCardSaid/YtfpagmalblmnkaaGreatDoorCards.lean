/-
  DERIVED. GIVEN WITH THE SEED: THE CARDS: each row of YtfpagmalblmnkaaGreatDoorRows.lean that lists a variable, with what it lists TIED to the program's text (the seventh form; the later family's looks); each row that meets fmt, with fmt's text TOLD by the authors' own Lean function (tested against real Go, not proved from fmt's source: count such statements apart). THE CARD IS WHAT COUNTS. Prove the row's statement (the work); the ties are given (YtfpagmalblmnkaaGreatDoorTie.lean); close each card by the builder's one call (the guide's Derived/Test/ToyasCard.lean, 'card_holds'). Laid BY PROGRAM, IN A SANDBOX (cutbox-door.mjs). By AI agents, Wed Nov 11 2026. No macro, syntax, notation, axiom, sorry.
-/
import Derived.Test.YtfpagmalblmnkaaGreatDoorRows
import GoSem.ClaimSeven
namespace Go.Proofs.YtfpagmalblmnkaaGreatDoor
namespace Rows

/-- THE TIED CARD OF 'spillagelaw01.LightWaves'. -/
def lightWavesCard : Claim7 := { stood := { row := lightWavesRow, standIns := [], harness := (true, "0e79c88b87feb6a9039ef7870094cf2169af4a3d40c36312a72a1b23deb1e338"), looks := true }, kinds := [], alts := [], laidByText := true, laidKinds := [.data, .data, .data], laidTests := true, laidLooks := .later }
def LightWavesCardSaid : Prop := Claim7.holds Tryz.pinned (.plain (OpenSpec.ofChange lightWavesSpec)) lightWavesCard

/-- THE TIED CARD OF 'spillagelaw01.LightTexts'. -/
def lightTextsCard : Claim7 := { stood := { row := lightTextsRow, standIns := [], harness := (true, "0e79c88b87feb6a9039ef7870094cf2169af4a3d40c36312a72a1b23deb1e338"), looks := true }, kinds := [], alts := [], laidByText := true, laidKinds := [.data, .data, .data, .data, .sentinel, .sentinel, .pinned], laidTests := true, laidLooks := .later }
def LightTextsCardSaid : Prop := Claim7.holds Tryz.pinned (.plain (OpenSpec.ofChange lightTextsSpec)) lightTextsCard

/-- THE TIED CARD OF 'spillagelaw01.LightBins'. -/
def lightBinsCard : Claim7 := { stood := { row := lightBinsRow, standIns := [], harness := (true, "0e79c88b87feb6a9039ef7870094cf2169af4a3d40c36312a72a1b23deb1e338"), looks := true }, kinds := [], alts := [], laidByText := true, laidKinds := [.data, .data, .data], laidTests := true, laidLooks := .later }
def LightBinsCardSaid : Prop := Claim7.holds Tryz.pinned (.plain (OpenSpec.ofChange lightBinsSpec)) lightBinsCard

/-- THE TIED CARD OF 'spillagelaw01.LightFound'. -/
def lightFoundCard : Claim7 := { stood := { row := lightFoundRow, standIns := [], harness := (true, "0e79c88b87feb6a9039ef7870094cf2169af4a3d40c36312a72a1b23deb1e338"), looks := true }, kinds := [], alts := [], laidByText := true, laidKinds := [.data, .data, .data], laidTests := true, laidLooks := .later }
def LightFoundCardSaid : Prop := Claim7.holds Tryz.pinned (.plain (OpenSpec.ofChange lightFoundSpec)) lightFoundCard

/-- THE TIED CARD OF 'spillagelaw01.LightBack'. -/
def lightBackCard : Claim7 := { stood := { row := lightBackRow, standIns := [], harness := (true, "0e79c88b87feb6a9039ef7870094cf2169af4a3d40c36312a72a1b23deb1e338"), looks := true }, kinds := [], alts := [], laidByText := true, laidKinds := [.data, .data, .data, .data, .sentinel, .sentinel, .pinned], laidTests := true, laidLooks := .later }
def LightBackCardSaid : Prop := Claim7.holds Tryz.pinned (.plain (OpenSpec.ofChange lightBackSpec)) lightBackCard

/-- THE SECOND FORM's CARD OF 'spillagelaw01.LightWaves'. -/
def lightWavesUptoCard : Claim7 := { stood := { row := lightWavesUptoRow, standIns := [], harness := (true, "0e79c88b87feb6a9039ef7870094cf2169af4a3d40c36312a72a1b23deb1e338"), looks := true }, kinds := [], alts := [], laidByText := true, laidKinds := [.data, .data, .data], laidTests := true, laidLooks := .later }
def LightWavesUptoCardSaid : Prop := Claim7.holds Tryz.pinned (.plain (OpenSpec.upto lightWavesSpec)) lightWavesUptoCard

/-- THE SECOND FORM's CARD OF 'spillagelaw01.LightTexts'. -/
def lightTextsUptoCard : Claim7 := { stood := { row := lightTextsUptoRow, standIns := [], harness := (true, "0e79c88b87feb6a9039ef7870094cf2169af4a3d40c36312a72a1b23deb1e338"), looks := true }, kinds := [], alts := [], laidByText := true, laidKinds := [.data, .data, .data, .data, .sentinel, .sentinel, .pinned], laidTests := true, laidLooks := .later }
def LightTextsUptoCardSaid : Prop := Claim7.holds Tryz.pinned (.plain (OpenSpec.upto lightTextsSpec)) lightTextsUptoCard

/-- THE SECOND FORM's CARD OF 'spillagelaw01.LightBins'. -/
def lightBinsUptoCard : Claim7 := { stood := { row := lightBinsUptoRow, standIns := [], harness := (true, "0e79c88b87feb6a9039ef7870094cf2169af4a3d40c36312a72a1b23deb1e338"), looks := true }, kinds := [], alts := [], laidByText := true, laidKinds := [.data, .data, .data], laidTests := true, laidLooks := .later }
def LightBinsUptoCardSaid : Prop := Claim7.holds Tryz.pinned (.plain (OpenSpec.upto lightBinsSpec)) lightBinsUptoCard

/-- THE SECOND FORM's CARD OF 'spillagelaw01.LightFound'. -/
def lightFoundUptoCard : Claim7 := { stood := { row := lightFoundUptoRow, standIns := [], harness := (true, "0e79c88b87feb6a9039ef7870094cf2169af4a3d40c36312a72a1b23deb1e338"), looks := true }, kinds := [], alts := [], laidByText := true, laidKinds := [.data, .data, .data], laidTests := true, laidLooks := .later }
def LightFoundUptoCardSaid : Prop := Claim7.holds Tryz.pinned (.plain (OpenSpec.upto lightFoundSpec)) lightFoundUptoCard

/-- THE SECOND FORM's CARD OF 'spillagelaw01.LightBack'. -/
def lightBackUptoCard : Claim7 := { stood := { row := lightBackUptoRow, standIns := [], harness := (true, "0e79c88b87feb6a9039ef7870094cf2169af4a3d40c36312a72a1b23deb1e338"), looks := true }, kinds := [], alts := [], laidByText := true, laidKinds := [.data, .data, .data, .data, .sentinel, .sentinel, .pinned], laidTests := true, laidLooks := .later }
def LightBackUptoCardSaid : Prop := Claim7.holds Tryz.pinned (.plain (OpenSpec.upto lightBackSpec)) lightBackUptoCard
end Rows
end Go.Proofs.YtfpagmalblmnkaaGreatDoor
