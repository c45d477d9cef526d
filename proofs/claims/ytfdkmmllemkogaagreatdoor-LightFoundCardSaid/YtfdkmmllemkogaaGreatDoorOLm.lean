/-
  What serves every walk: the code from a region on, blocks that are kept, cells of a block.
-/
import Derived.Test.YtfdkmmllemkogaaGreatDoorOKa
import Derived.Test.YtfdkmmllemkogaaGreatDoorOZr
import Derived.Deep.CutBlock
import Derived.Deep.DeepCutAuto
namespace Go.Proofs.YtfdkmmllemkogaaGreatDoor
open Go.RowKit Go.Shelf
set_option linter.unusedVariables false
set_option linter.unusedSimpArgs false

def headsC (n : Nat) : Code → Bool
  | .region m _ _ => m == n
  | .seq a _ => headsC n a
  | _ => false
def tailC (n : Nat) : Code → Option Code
  | .seq a b => if headsC n a then some (.seq a b) else match tailC n b with
    | some c => some c
    | none => tailC n a
  | .block _ c => tailC n c
  | .scope c => tailC n c
  | .loop c => tailC n c
  | .cond _ a b => match tailC n a with
    | some c => some c
    | none => tailC n b
  | c => if headsC n c then some c else none
theorem Kp.subs {w w1 : World} {l m : List (Nat × Obj)} (h : Kp w w1 l) (hs : ∀ p ∈ m, p ∈ l) : Kp w w1 m := ⟨h.1, fun p hp => h.2 p (hs p hp)⟩
theorem cells3 {w : World} {B : Nat} {T : TypeId} {x y z : Value} (h : w.heap[B]? = some (.cells #[x, y, z] T (0, 0))) :
    w.cell? ⟨B, 0, none⟩ = some x ∧ w.cell? ⟨B, 1, none⟩ = some y ∧ w.cell? ⟨B, 2, none⟩ = some z :=
  ⟨by rw [cell_of_row w _ 0 _ _ (0, 0) h]; rfl, by rw [cell_of_row w _ 1 _ _ (0, 0) h]; rfl, by rw [cell_of_row w _ 2 _ _ (0, 0) h]; rfl⟩
theorem cells2 {w : World} {B : Nat} {T : TypeId} {x y : Value} (h : w.heap[B]? = some (.cells #[x, y] T (0, 0))) :
    w.cell? ⟨B, 0, none⟩ = some x ∧ w.cell? ⟨B, 1, none⟩ = some y :=
  ⟨by rw [cell_of_row w _ 0 _ _ (0, 0) h]; rfl, by rw [cell_of_row w _ 1 _ _ (0, 0) h]; rfl⟩
theorem Kp.swap {w w1 : World} {a b : Nat × Obj} {l : List (Nat × Obj)} (h : Kp w w1 (a :: b :: l)) : Kp w w1 (b :: a :: l) := h.subs fun p hp => by
  rcases List.mem_cons.1 hp with rfl | hp
  · exact .tail _ (.head _)
  · rcases List.mem_cons.1 hp with rfl | hp
    · exact .head _
    · exact .tail _ (.tail _ hp)
theorem Kp.swap2 {w w1 : World} {a b c : Nat × Obj} {l : List (Nat × Obj)} (h : Kp w w1 (a :: b :: c :: l)) : Kp w w1 (a :: c :: b :: l) := h.subs fun p hp => by
  rcases List.mem_cons.1 hp with rfl | hp
  · exact .head _
  · rcases List.mem_cons.1 hp with rfl | hp
    · exact .tail _ (.tail _ (.head _))
    · rcases List.mem_cons.1 hp with rfl | hp
      · exact .tail _ (.head _)
      · exact .tail _ (.tail _ (.tail _ hp))
theorem Kp.drop1 {w w1 : World} {a b : Nat × Obj} {l : List (Nat × Obj)} (h : Kp w w1 (a :: b :: l)) : Kp w w1 (a :: l) := h.subs fun p hp => by
  rcases List.mem_cons.1 hp with rfl | hp
  · exact .head _
  · exact .tail _ (.tail _ hp)
theorem Kp.cons {w w1 : World} {l : List (Nat × Obj)} (h : Kp w w1 l) {B : Nat} {O : Obj} (hB : w1.heap[B]? = some O) : Kp w w1 ((B, O) :: l) := ⟨h.1, fun p hp => by
  rcases List.mem_cons.1 hp with rfl | hp
  · exact hB
  · exact h.2 p hp⟩
/-- The world of a walk may be taken as any that has what is known of it. -/
theorem wp_world {P : Program} {c : Code} {Q : Exit → Act → World → Prop} {fr : Act} {w1 : World} (R : World → Prop) (h : R w1) (k : ∀ w', R w' → Code.wp P c Q fr w') : Code.wp P c Q fr w1 := k w1 h
theorem kp_set4 {w w1 : World} {l : List (Nat × Obj)} (h : Kp w w1 l) {x y z u : Value} {T : TypeId} (a b c d : Value) :
    Kp w (((((w1.alloc (.cells #[x, y, z, u] T)).setCell ⟨w1.heap.size, 0, none⟩ a).setCell ⟨w1.heap.size, 1, none⟩ b).setCell ⟨w1.heap.size, 2, none⟩ c).setCell ⟨w1.heap.size, 3, none⟩ d) ((w1.heap.size, .cells #[a, b, c, d] T (0, 0)) :: l) := by
  have hs : w.heap.size ≤ w1.heap.size := h.1.size
  have k := h.alloc (.cells #[x, y, z, u] T)
  refine ⟨(((k.1.setCell (p := ⟨w1.heap.size, 0, none⟩) hs _).setCell (p := ⟨w1.heap.size, 1, none⟩) hs _).setCell (p := ⟨w1.heap.size, 2, none⟩) hs _).setCell (p := ⟨w1.heap.size, 3, none⟩) hs _, fun p hp => ?_⟩
  rcases List.mem_cons.1 hp with rfl | hp
  · exact blk_set4u (blk_alloc_new _ _) _ _ _ _
  · have hne : p.1 ≠ w1.heap.size := by have := lt_of_blk (h.2 p hp); omega
    refine (Below.heap_setCell _ _ _ _ hne).trans ((Below.heap_setCell _ _ _ _ hne).trans ((Below.heap_setCell _ _ _ _ hne).trans ((Below.heap_setCell _ _ _ _ hne).trans (k.2 p (.tail _ hp)))))
theorem cells4 {w : World} {B : Nat} {T : TypeId} {x y z u : Value} (h : w.heap[B]? = some (.cells #[x, y, z, u] T (0, 0))) :
    w.cell? ⟨B, 0, none⟩ = some x ∧ w.cell? ⟨B, 1, none⟩ = some y ∧ w.cell? ⟨B, 2, none⟩ = some z ∧ w.cell? ⟨B, 3, none⟩ = some u :=
  ⟨by rw [cell_of_row w _ 0 _ _ (0, 0) h]; rfl, by rw [cell_of_row w _ 1 _ _ (0, 0) h]; rfl, by rw [cell_of_row w _ 2 _ _ (0, 0) h]; rfl, by rw [cell_of_row w _ 3 _ _ (0, 0) h]; rfl⟩
end Go.Proofs.YtfdkmmllemkogaaGreatDoor
