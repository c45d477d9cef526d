/-
  Contracts of the checks of a name, of the program and of the reference: both answer nameB, for every string.
-/
import Derived.Laws.RangeString
import Derived.Laws.RangeAny
import Derived.LoopTactic
import Derived.Test.YtpmjiifdnnhecaaGreatDoorOaaWc
namespace Go.Proofs.YtpmjiifdnnhecaaGreatDoor
open Go.RowKit
set_option linter.unusedVariables false
set_option linter.unusedSimpArgs false

def digP (c : Int) : Prop := 48 ≤ c ∧ c ≤ 57
theorem ret_bool {a b : Bool} (h : a = b) : Ending.returned (.bool a) = .returned (.bool b) := by rw [h]

set_option maxHeartbeats 800000 in
theorem isDigit_yes (c : Int) (h : digP c) (w : World) :
    Calls Tryz.prog 216 #[.int .i32 c] w fun e w' => e = .returned (.bool true) ∧ w = w' := by
  obtain ⟨h1, h2⟩ := h
  go_enter Tryz.func216, Tryz.ntmps216
  go_wp2
  go_ret
  exact ⟨rfl, rfl⟩

set_option maxHeartbeats 800000 in
theorem isDigit_no (c : Int) (h : ¬ digP c) (w : World) :
    Calls Tryz.prog 216 #[.int .i32 c] w fun e w' => e = .returned (.bool false) ∧ w = w' := by
  have hc : c < 48 ∨ 57 < c := by unfold digP at h; omega
  clear h
  rcases hc with h | h
  ·
    go_enter Tryz.func216, Tryz.ntmps216
    go_wp2
    go_ret
    exact ⟨ret_bool (by simp; try omega), rfl⟩
  ·
    go_enter Tryz.func216, Tryz.ntmps216
    go_wp2
    go_ret
    exact ⟨ret_bool (by simp; try omega), rfl⟩

end Go.Proofs.YtpmjiifdnnhecaaGreatDoor
