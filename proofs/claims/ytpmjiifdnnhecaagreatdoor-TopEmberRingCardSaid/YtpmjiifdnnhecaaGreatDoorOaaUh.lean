/-
  What the row of a text gives: the tables by its list, the library's bound by the world's shape; a world for the witness.
-/
import Derived.Shelf.Vars
import Derived.Test.YtpmjiifdnnhecaaGreatDoorOaaUg
import Derived.Test.YtpmjiifdnnhecaaGreatDoorOaaXs
namespace Go.Proofs.YtpmjiifdnnhecaaGreatDoor
open Go.ChangeShapes Go.WideShapes Go.ChangeAt Go.RowKit Go.Joins Go.Deep
set_option linter.unusedVariables false

def laidListR : List (String × DataW Unit) := Rows.topEmberRingRow.laid
set_option maxRecDepth 100000 in
theorem tabAt_ofR {W : World} (h : laidMetH Tryz.prog laidListR W) : TabAt W := by
  have h2 := h.filter (fun x => x.1 == "internal/strconv.uint64pow10")
  have e : laidListR.filter (fun x => x.1 == "internal/strconv.uint64pow10") = [("internal/strconv.uint64pow10", Lib.tabData .u64 Lib.pow10Tab)] := by kernel_rfl
  rw [e] at h2
  exact Lib.tabIs_of_head (rest := []) gTab gTabType Tryz.underlying337 Tryz.underlying319 cellsU cellsTab h2

/-- A world for the witness: the settled one, the listed variables holding what the list says. -/
noncomputable def laidWorldR (os : Os) : World := World.laidAll Tryz.prog os laidListR
theorem laid_metR (os : Os) (args : Array Value) : laidMet Tryz.prog laidListR ((laidWorldR os).forCall (fun _ _ => 0) ⟨#[], args, []⟩).memory :=
  laidMet_laidAll args (by kernel_rfl) (by kernel_rfl)

set_option maxRecDepth 100000 in
theorem maxAt_ofR {W : World} (h : W.ShapedOpen Tryz.prog) : MaxAt W :=
  cell_of_shapedOpen_int (g := 2) (t := 3) (zero := #[.int .i64 0]) (k := .i64) h (of_decide_eq_true (by kernel_rfl)) (by kernel_rfl) rfl (by kernel_rfl) (by kernel_rfl) Tryz.underlying3
set_option maxRecDepth 100000 in
theorem openByteR {H : Type} {enc : TypeId × Value → H} {W : World} {b0 : Nat} {v : Value} {d : DataW H} {p : List MemPlace}
    (hv : Value.okWide Tryz.prog W .any b0 5 v) (h : DataW.Trod enc Tryz.prog W 0 (fun _ => true) true 5 v d p) : ∃ z : Int, v = .int .u8 z ∧ 0 ≤ z ∧ z ≤ 255 := by
  obtain ⟨z, rfl⟩ := okWide_int Tryz.underlying5 hv
  obtain ⟨fuel, hf⟩ := h
  simp only [Value.cells] at hf
  obtain ⟨X, e0, _, hw⟩ := DataW.trod_int Tryz.underlying5 hf
  have e0' : (Value.int .u8 z) = .int .u8 X := by simpa using e0
  have e1 : IntKind.u8.min = 0 := by rfl
  have e2 : IntKind.u8.max = 255 := by rfl
  simp only [Lit.wf, Bool.and_eq_true, decide_eq_true_eq, e1, e2] at hw
  cases e0'
  exact ⟨z, rfl, hw.1, hw.2⟩

end Go.Proofs.YtpmjiifdnnhecaaGreatDoor
