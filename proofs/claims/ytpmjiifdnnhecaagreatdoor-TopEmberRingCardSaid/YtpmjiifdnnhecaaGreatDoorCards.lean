/-
  DERIVED. GIVEN WITH THE SEED: THE CARDS: each row of YtpmjiifdnnhecaaGreatDoorRows.lean that lists a variable, with what it lists TIED to the program's text (the seventh form; the later family's looks); each row that meets fmt, with fmt's text TOLD by the authors' own Lean function (tested against real Go, not proved from fmt's source: count such statements apart). THE CARD IS WHAT COUNTS. Prove the row's statement (the work); the ties are given (YtpmjiifdnnhecaaGreatDoorTie.lean); close each card by the builder's one call (the guide's Derived/Test/ToyasCard.lean, 'card_holds'). Laid BY PROGRAM, IN A SANDBOX (cutbox-door.mjs). By AI agents, Wed Nov 11 2026. No macro, syntax, notation, axiom, sorry.
-/
import Derived.Test.YtpmjiifdnnhecaaGreatDoorRows
import GoSem.ClaimSeven
namespace Go.Proofs.YtpmjiifdnnhecaaGreatDoor
namespace Rows

/-- THE TIED CARD OF 'spillagelaw02.SunCones'. -/
def sunConesCard : Claim7 := { stood := { row := sunConesRow, standIns := [], harness := (true, "9100635e61588b024780a76dd7ddce6f833111681399b619de0f2f27388ff423"), looks := true }, kinds := [], alts := [], laidByText := true, laidKinds := [.data, .data, .data, .wider], laidTests := true, laidLooks := .later }
def SunConesCardSaid : Prop := Claim7.holds Tryz.pinned (.plain (OpenSpec.ofChange sunConesSpec)) sunConesCard

/-- THE TIED CARD OF 'spillagelaw02.SunTexts'. -/
def sunTextsCard : Claim7 := { stood := { row := sunTextsRow, standIns := [], harness := (true, "9100635e61588b024780a76dd7ddce6f833111681399b619de0f2f27388ff423"), looks := true }, kinds := [], alts := [], laidByText := true, laidKinds := [.data, .data, .data, .data, .sentinel, .sentinel, .wider, .pinned], laidTests := true, laidLooks := .later }
def SunTextsCardSaid : Prop := Claim7.holds Tryz.pinned (.plain (OpenSpec.ofChange sunTextsSpec)) sunTextsCard

/-- THE TIED CARD OF 'spillagelaw02.SunTwice'. -/
def sunTwiceCard : Claim7 := { stood := { row := sunTwiceRow, standIns := [], harness := (true, "9100635e61588b024780a76dd7ddce6f833111681399b619de0f2f27388ff423"), looks := true }, kinds := [], alts := [], laidByText := true, laidKinds := [.data, .data, .data, .wider], laidTests := true, laidLooks := .later }
def SunTwiceCardSaid : Prop := Claim7.holds Tryz.pinned (.plain (OpenSpec.ofChange sunTwiceSpec)) sunTwiceCard

/-- THE TIED CARD OF 'spillagelaw02.SunBisects'. -/
def sunBisectsCard : Claim7 := { stood := { row := sunBisectsRow, standIns := [], harness := (true, "9100635e61588b024780a76dd7ddce6f833111681399b619de0f2f27388ff423"), looks := true }, kinds := [], alts := [], laidByText := true, laidKinds := [.data, .data, .data, .wider], laidTests := true, laidLooks := .later }
def SunBisectsCardSaid : Prop := Claim7.holds Tryz.pinned (.plain (OpenSpec.ofChange sunBisectsSpec)) sunBisectsCard

/-- THE TIED CARD OF 'spillagelaw02.SunWays'. -/
def sunWaysCard : Claim7 := { stood := { row := sunWaysRow, standIns := [], harness := (true, "9100635e61588b024780a76dd7ddce6f833111681399b619de0f2f27388ff423"), looks := true }, kinds := [], alts := [], laidByText := true, laidKinds := [.data, .data, .data, .wider], laidTests := true, laidLooks := .later }
def SunWaysCardSaid : Prop := Claim7.holds Tryz.pinned (.plain (OpenSpec.ofChange sunWaysSpec)) sunWaysCard

/-- THE TIED CARD OF 'spillagelaw02.SunDays'. -/
def sunDaysCard : Claim7 := { stood := { row := sunDaysRow, standIns := [], harness := (true, "9100635e61588b024780a76dd7ddce6f833111681399b619de0f2f27388ff423"), looks := true }, kinds := [], alts := [], laidByText := true, laidKinds := [.data, .data, .data, .wider], laidTests := true, laidLooks := .later }
def SunDaysCardSaid : Prop := Claim7.holds Tryz.pinned (.plain (OpenSpec.ofChange sunDaysSpec)) sunDaysCard

/-- THE TIED CARD OF 'spillagelaw02.SunBack'. -/
def sunBackCard : Claim7 := { stood := { row := sunBackRow, standIns := [], harness := (true, "9100635e61588b024780a76dd7ddce6f833111681399b619de0f2f27388ff423"), looks := true }, kinds := [], alts := [], laidByText := true, laidKinds := [.data, .data, .data, .data, .sentinel, .sentinel, .wider, .pinned], laidTests := true, laidLooks := .later }
def SunBackCardSaid : Prop := Claim7.holds Tryz.pinned (.plain (OpenSpec.ofChange sunBackSpec)) sunBackCard

/-- THE TIED CARD OF 'spillagetop.TopEmberRing'. -/
def topEmberRingCard : Claim7 := { stood := { row := topEmberRingRow, standIns := [], harness := (true, "9100635e61588b024780a76dd7ddce6f833111681399b619de0f2f27388ff423"), looks := true }, kinds := [], alts := [], laidByText := true, laidKinds := [.data, .data, .data, .data, .sentinel, .sentinel, .pinned], laidTests := true, laidLooks := .later }
def TopEmberRingCardSaid : Prop := Claim7.holds Tryz.pinned (.plain (OpenSpec.ofChange topEmberRingSpec)) topEmberRingCard

/-- THE SECOND FORM's CARD OF 'spillagelaw02.SunCones'. -/
def sunConesUptoCard : Claim7 := { stood := { row := sunConesUptoRow, standIns := [], harness := (true, "9100635e61588b024780a76dd7ddce6f833111681399b619de0f2f27388ff423"), looks := true }, kinds := [], alts := [], laidByText := true, laidKinds := [.data, .data, .data, .wider], laidTests := true, laidLooks := .later }
def SunConesUptoCardSaid : Prop := Claim7.holds Tryz.pinned (.plain (OpenSpec.upto sunConesSpec)) sunConesUptoCard

/-- THE SECOND FORM's CARD OF 'spillagelaw02.SunTexts'. -/
def sunTextsUptoCard : Claim7 := { stood := { row := sunTextsUptoRow, standIns := [], harness := (true, "9100635e61588b024780a76dd7ddce6f833111681399b619de0f2f27388ff423"), looks := true }, kinds := [], alts := [], laidByText := true, laidKinds := [.data, .data, .data, .data, .sentinel, .sentinel, .wider, .pinned], laidTests := true, laidLooks := .later }
def SunTextsUptoCardSaid : Prop := Claim7.holds Tryz.pinned (.plain (OpenSpec.upto sunTextsSpec)) sunTextsUptoCard

/-- THE SECOND FORM's CARD OF 'spillagelaw02.SunTwice'. -/
def sunTwiceUptoCard : Claim7 := { stood := { row := sunTwiceUptoRow, standIns := [], harness := (true, "9100635e61588b024780a76dd7ddce6f833111681399b619de0f2f27388ff423"), looks := true }, kinds := [], alts := [], laidByText := true, laidKinds := [.data, .data, .data, .wider], laidTests := true, laidLooks := .later }
def SunTwiceUptoCardSaid : Prop := Claim7.holds Tryz.pinned (.plain (OpenSpec.upto sunTwiceSpec)) sunTwiceUptoCard

/-- THE SECOND FORM's CARD OF 'spillagelaw02.SunBisects'. -/
def sunBisectsUptoCard : Claim7 := { stood := { row := sunBisectsUptoRow, standIns := [], harness := (true, "9100635e61588b024780a76dd7ddce6f833111681399b619de0f2f27388ff423"), looks := true }, kinds := [], alts := [], laidByText := true, laidKinds := [.data, .data, .data, .wider], laidTests := true, laidLooks := .later }
def SunBisectsUptoCardSaid : Prop := Claim7.holds Tryz.pinned (.plain (OpenSpec.upto sunBisectsSpec)) sunBisectsUptoCard

/-- THE SECOND FORM's CARD OF 'spillagelaw02.SunWays'. -/
def sunWaysUptoCard : Claim7 := { stood := { row := sunWaysUptoRow, standIns := [], harness := (true, "9100635e61588b024780a76dd7ddce6f833111681399b619de0f2f27388ff423"), looks := true }, kinds := [], alts := [], laidByText := true, laidKinds := [.data, .data, .data, .wider], laidTests := true, laidLooks := .later }
def SunWaysUptoCardSaid : Prop := Claim7.holds Tryz.pinned (.plain (OpenSpec.upto sunWaysSpec)) sunWaysUptoCard

/-- THE SECOND FORM's CARD OF 'spillagelaw02.SunDays'. -/
def sunDaysUptoCard : Claim7 := { stood := { row := sunDaysUptoRow, standIns := [], harness := (true, "9100635e61588b024780a76dd7ddce6f833111681399b619de0f2f27388ff423"), looks := true }, kinds := [], alts := [], laidByText := true, laidKinds := [.data, .data, .data, .wider], laidTests := true, laidLooks := .later }
def SunDaysUptoCardSaid : Prop := Claim7.holds Tryz.pinned (.plain (OpenSpec.upto sunDaysSpec)) sunDaysUptoCard

/-- THE SECOND FORM's CARD OF 'spillagelaw02.SunBack'. -/
def sunBackUptoCard : Claim7 := { stood := { row := sunBackUptoRow, standIns := [], harness := (true, "9100635e61588b024780a76dd7ddce6f833111681399b619de0f2f27388ff423"), looks := true }, kinds := [], alts := [], laidByText := true, laidKinds := [.data, .data, .data, .data, .sentinel, .sentinel, .wider, .pinned], laidTests := true, laidLooks := .later }
def SunBackUptoCardSaid : Prop := Claim7.holds Tryz.pinned (.plain (OpenSpec.upto sunBackSpec)) sunBackUptoCard

/-- THE SECOND FORM's CARD OF 'spillagetop.TopEmberRing'. -/
def topEmberRingUptoCard : Claim7 := { stood := { row := topEmberRingUptoRow, standIns := [], harness := (true, "9100635e61588b024780a76dd7ddce6f833111681399b619de0f2f27388ff423"), looks := true }, kinds := [], alts := [], laidByText := true, laidKinds := [.data, .data, .data, .data, .sentinel, .sentinel, .pinned], laidTests := true, laidLooks := .later }
def TopEmberRingUptoCardSaid : Prop := Claim7.holds Tryz.pinned (.plain (OpenSpec.upto topEmberRingSpec)) topEmberRingUptoCard
end Rows
end Go.Proofs.YtpmjiifdnnhecaaGreatDoor
