/-
  DERIVED. GIVEN WITH THE SEED: THE CARDS: each row of YtggffhmdgceljaaGreatDoorRows.lean that lists a variable, with what it lists TIED to the program's text (the seventh form; the later family's looks); each row that meets fmt, with fmt's text TOLD by the authors' own Lean function (tested against real Go, not proved from fmt's source: count such statements apart). THE CARD IS WHAT COUNTS. Prove the row's statement (the work); the ties are given (YtggffhmdgceljaaGreatDoorTie.lean); close each card by the builder's one call (the guide's Derived/Test/ToyasCard.lean, 'card_holds'). Laid BY PROGRAM, IN A SANDBOX (cutbox-door.mjs). By AI agents, Wed Nov 11 2026. No macro, syntax, notation, axiom, sorry.
-/
import Derived.Test.YtggffhmdgceljaaGreatDoorRows
import GoSem.ClaimSeven
namespace Go.Proofs.YtggffhmdgceljaaGreatDoor
namespace Rows

/-- THE TIED CARD OF 'spillagelaw02.SunCones'. -/
def sunConesCard : Claim7 := { stood := { row := sunConesRow, standIns := [], harness := (true, "1a5767a88b6c0496ce137933e8fb2625de22de2f4f1e9acef84a06b5dc2cc2f2"), looks := false }, kinds := [], alts := [], laidByText := true, laidKinds := [.data, .data, .data, .wider], laidTests := true, laidLooks := .later }
def SunConesCardSaid : Prop := Claim7.holds Tryz.pinned (.plain (OpenSpec.ofChange sunConesSpec)) sunConesCard

/-- THE TIED CARD OF 'spillagelaw02.SunBisects'. -/
def sunBisectsCard : Claim7 := { stood := { row := sunBisectsRow, standIns := [], harness := (true, "1a5767a88b6c0496ce137933e8fb2625de22de2f4f1e9acef84a06b5dc2cc2f2"), looks := false }, kinds := [], alts := [], laidByText := true, laidKinds := [.data, .data, .data, .wider], laidTests := true, laidLooks := .later }
def SunBisectsCardSaid : Prop := Claim7.holds Tryz.pinned (.plain (OpenSpec.ofChange sunBisectsSpec)) sunBisectsCard

/-- THE TIED CARD OF 'spillagelaw02.SunWays'. -/
def sunWaysCard : Claim7 := { stood := { row := sunWaysRow, standIns := [], harness := (true, "1a5767a88b6c0496ce137933e8fb2625de22de2f4f1e9acef84a06b5dc2cc2f2"), looks := false }, kinds := [], alts := [], laidByText := true, laidKinds := [.data, .data, .data, .wider], laidTests := true, laidLooks := .later }
def SunWaysCardSaid : Prop := Claim7.holds Tryz.pinned (.plain (OpenSpec.ofChange sunWaysSpec)) sunWaysCard

/-- THE TIED CARD OF 'spillagelaw02.SunDays'. -/
def sunDaysCard : Claim7 := { stood := { row := sunDaysRow, standIns := [], harness := (true, "1a5767a88b6c0496ce137933e8fb2625de22de2f4f1e9acef84a06b5dc2cc2f2"), looks := false }, kinds := [], alts := [], laidByText := true, laidKinds := [.data, .data, .data, .wider], laidTests := true, laidLooks := .later }
def SunDaysCardSaid : Prop := Claim7.holds Tryz.pinned (.plain (OpenSpec.ofChange sunDaysSpec)) sunDaysCard

/-- THE SECOND FORM's CARD OF 'spillagelaw02.SunCones'. -/
def sunConesUptoCard : Claim7 := { stood := { row := sunConesUptoRow, standIns := [], harness := (true, "1a5767a88b6c0496ce137933e8fb2625de22de2f4f1e9acef84a06b5dc2cc2f2"), looks := false }, kinds := [], alts := [], laidByText := true, laidKinds := [.data, .data, .data, .wider], laidTests := true, laidLooks := .later }
def SunConesUptoCardSaid : Prop := Claim7.holds Tryz.pinned (.plain (OpenSpec.upto sunConesSpec)) sunConesUptoCard

/-- THE SECOND FORM's CARD OF 'spillagelaw02.SunBisects'. -/
def sunBisectsUptoCard : Claim7 := { stood := { row := sunBisectsUptoRow, standIns := [], harness := (true, "1a5767a88b6c0496ce137933e8fb2625de22de2f4f1e9acef84a06b5dc2cc2f2"), looks := false }, kinds := [], alts := [], laidByText := true, laidKinds := [.data, .data, .data, .wider], laidTests := true, laidLooks := .later }
def SunBisectsUptoCardSaid : Prop := Claim7.holds Tryz.pinned (.plain (OpenSpec.upto sunBisectsSpec)) sunBisectsUptoCard

/-- THE SECOND FORM's CARD OF 'spillagelaw02.SunWays'. -/
def sunWaysUptoCard : Claim7 := { stood := { row := sunWaysUptoRow, standIns := [], harness := (true, "1a5767a88b6c0496ce137933e8fb2625de22de2f4f1e9acef84a06b5dc2cc2f2"), looks := false }, kinds := [], alts := [], laidByText := true, laidKinds := [.data, .data, .data, .wider], laidTests := true, laidLooks := .later }
def SunWaysUptoCardSaid : Prop := Claim7.holds Tryz.pinned (.plain (OpenSpec.upto sunWaysSpec)) sunWaysUptoCard

/-- THE SECOND FORM's CARD OF 'spillagelaw02.SunDays'. -/
def sunDaysUptoCard : Claim7 := { stood := { row := sunDaysUptoRow, standIns := [], harness := (true, "1a5767a88b6c0496ce137933e8fb2625de22de2f4f1e9acef84a06b5dc2cc2f2"), looks := false }, kinds := [], alts := [], laidByText := true, laidKinds := [.data, .data, .data, .wider], laidTests := true, laidLooks := .later }
def SunDaysUptoCardSaid : Prop := Claim7.holds Tryz.pinned (.plain (OpenSpec.upto sunDaysSpec)) sunDaysUptoCard
end Rows
end Go.Proofs.YtggffhmdgceljaaGreatDoor
