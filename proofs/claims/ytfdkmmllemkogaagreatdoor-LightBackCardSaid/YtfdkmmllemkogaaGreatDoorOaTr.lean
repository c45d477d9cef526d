/-
  What the row of a text gives: the tables by its list, the library's bound by the world's shape; a world for the witness.
-/
import Derived.Shelf.Vars
import Derived.Test.YtfdkmmllemkogaaGreatDoorOaTo
import Derived.Test.YtfdkmmllemkogaaGreatDoorOBd
namespace Go.Proofs.YtfdkmmllemkogaaGreatDoor
open Go.ChangeShapes Go.WideShapes Go.ChangeAt Go.RowKit Go.Joins Go.Deep
set_option linter.unusedVariables false

def laidListB : List (String × DataW Unit) := Rows.lightBackRow.laid
set_option maxRecDepth 100000 in
theorem tabAt_ofB {W : World} (h : laidMetH Tryz.prog laidListB W) : TabAt W := by
  have h2 := h.filter (fun x => x.1 == "internal/strconv.uint64pow10")
  have e : laidListB.filter (fun x => x.1 == "internal/strconv.uint64pow10") = [("internal/strconv.uint64pow10", Lib.tabData .u64 Lib.pow10Tab)] := by kernel_rfl
  rw [e] at h2
  exact Lib.tabIs_of_head (rest := []) gTab gTabType Tryz.underlying317 Tryz.underlying290 cellsU cellsTab h2

/-- A world for the witness: the settled one, the listed variables holding what the list says. -/
noncomputable def laidWorldB (os : Os) : World := World.laidAll Tryz.prog os laidListB
theorem laid_metB (os : Os) (args : Array Value) : laidMet Tryz.prog laidListB ((laidWorldB os).forCall (fun _ _ => 0) ⟨#[], args, []⟩).memory :=
  laidMet_laidAll args (by kernel_rfl) (by kernel_rfl)

theorem maxAt_ofB {W : World} (h : W.ShapedOpen Tryz.prog) : MaxAt W :=
  cell_of_shapedOpen_int (g := 1) (t := 3) (zero := #[.int .i64 0]) (k := .i64) h (of_decide_eq_true (by kernel_rfl)) (by kernel_rfl) rfl (by kernel_rfl) (by kernel_rfl) Tryz.underlying3
end Go.Proofs.YtfdkmmllemkogaaGreatDoor
