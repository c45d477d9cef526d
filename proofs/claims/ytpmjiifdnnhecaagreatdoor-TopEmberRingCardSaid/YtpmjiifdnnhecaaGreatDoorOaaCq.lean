/-
  More closed facts of the program alone.
-/
import Derived.Test.YtpmjiifdnnhecaaGreatDoorOaaCp
namespace Go.Proofs.YtpmjiifdnnhecaaGreatDoor
open Go.ChangeShapes Go.WideShapes Go.ChangeAt Go.RowKit Go.Joins Go.Deep
set_option linter.unusedVariables false

theorem pKeys : (Rows.sunConesRow.plainKeys == Tryz.pinned.checked.prog.plainKeys) = true := by kernel_rfl
theorem pHeard : Tryz.pinned.checked.prog.stopsHeard = true := by kernel_rfl
theorem pEnter : Tryz.pinned.checked.prog.mayEnter = true := by kernel_rfl
theorem pLifted : (Rows.sunConesRow.lifted == Tryz.pinned.checked.prog.liftsFinal) = true := by kernel_rfl
end Go.Proofs.YtpmjiifdnnhecaaGreatDoor
