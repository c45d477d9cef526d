/-
  Contract of Four for the four samples 1, 2, 3, 4.
-/
import Derived.Deep.CutBlock
import Derived.Deep.DeepCutAuto
import Derived.Test.YtpmjiifdnnhecaaGreatDoorOaaZu
import Derived.Test.YtpmjiifdnnhecaaGreatDoorOaaZk
import Derived.Test.YtpmjiifdnnhecaaGreatDoorOaaWe
namespace Go.Proofs.YtpmjiifdnnhecaaGreatDoor
open Go.RowKit
set_option linter.unusedVariables false
set_option linter.unusedSimpArgs false

theorem blk_setL {w : World} {B k : Nat} {T : TypeId} {L : List Value} {fr : Nat × Nat} (h : w.heap[B]? = some (.cells L.toArray T fr)) (v : Value) (hk : k < L.length) : (w.setCell ⟨B, k, none⟩ v).heap[B]? = some (.cells (L.set k v).toArray T fr) := by
  simp only [World.setCell, Array.getElem?_modify, if_true, h, Option.map_some]
  simp
theorem blk_set4u {w : World} {B : Nat} {T : TypeId} {x y z u : Value} (h : w.heap[B]? = some (.cells #[x, y, z, u] T (0, 0))) (a b c d : Value) :
    ((((w.setCell ⟨B, 0, none⟩ a).setCell ⟨B, 1, none⟩ b).setCell ⟨B, 2, none⟩ c).setCell ⟨B, 3, none⟩ d).heap[B]? = some (.cells #[a, b, c, d] T (0, 0)) := by
  simp only [World.setCell, Array.getElem?_modify, if_true, h, Option.map_some]
  simp
attribute [local go_sem] store_complex
end Go.Proofs.YtpmjiifdnnhecaaGreatDoor
