/-
  Closed facts of the program alone, which every card asks: each one by itself, as the kernel's memory wants.
-/
import Derived.Test.YtpmjiifdnnhecaaGreatDoorOaaXs
namespace Go.Proofs.YtpmjiifdnnhecaaGreatDoor
open Go.ChangeShapes Go.WideShapes Go.ChangeAt Go.RowKit Go.Joins Go.Deep
set_option linter.unusedVariables false

theorem band {a b : Bool} (ha : a = true) (hb : b = true) : (a && b) = true := by rw [ha, hb]; rfl
theorem pLaid : laidOutB Tryz.pinned.checked.prog = true := by kernel_rfl
theorem pMaps : mapsRowed Tryz.pinned.checked.prog = true := by kernel_rfl
theorem pStops : (Tryz.pinned.checked.prog.stops == []) = true := by kernel_rfl
theorem pKnobs : (Tryz.pinned.checked.prog.stopKnobs == []) = true := by kernel_rfl
theorem pMake : (Tryz.pinned.checked.prog.make == some Rows.sunConesRow.make) = true := by kernel_rfl
end Go.Proofs.YtpmjiifdnnhecaaGreatDoor
