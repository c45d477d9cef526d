/-
  Blocks of two to four cells that lie in a world: their cells, new ones that are filled, the world of a walk by what is known of it.
-/
import Derived.Test.YtggffhmdgceljaaGreatDoorRows
import Derived.WalkKit
import Derived.WalkSpells
import Derived.WalkLawsBesides
import Derived.Lib.Hide
import Derived.BigQuiet
import Derived.Deep.QuietTactic
import Derived.Handy
import Derived.Deep.RegionHeld3
import Derived.Deep.RegionWith
import Derived.StillTailTactics
import Derived.RangeFuncNested
import Derived.RangeFuncBound
import Derived.RangeFuncCalls
import Derived.RangeFuncLeaves
import Derived.RangeFuncBox
import Derived.Shelf.Abstract
import Derived.Shelf.RegionOpen
import Derived.OwnWalkIn
import Derived.TacticsInMore
import Derived.LoopNIn
import Derived.LoopIn
import Derived.Maps.AppendAt
import Derived.Test.YtggffhmdgceljaaGreatDoorProg
import Derived.Laws.FloatArith
import Derived.Laws.BitsAllLaws
import Derived.Deep.DeepCutAuto
import Derived.Stop.BytesEq
import Derived.Deep.MidRow
import Derived.Laws.CopyRow
import Derived.WalkMore
import Derived.Deep.DrawnRows
import Derived.Deep.CutBlock
import Derived.Test.YtggffhmdgceljaaGreatDoorOvaWn
import Derived.Test.YtggffhmdgceljaaGreatDoorOvaXn
import Derived.Test.YtggffhmdgceljaaGreatDoorOvaKa
namespace Go.Proofs.YtggffhmdgceljaaGreatDoor
open Go.RowKit
set_option linter.unusedVariables false
set_option linter.unusedSimpArgs false

theorem blk_set2 {w : World} {B : Nat} {T : TypeId} {x y : Value} (h : w.heap[B]? = some (.cells #[x, y] T (0, 0))) (a b : Value) : ((w.setCell ⟨B, 0, none⟩ a).setCell ⟨B, 1, none⟩ b).heap[B]? = some (.cells #[a, b] T (0, 0)) := by
  simp only [World.setCell, Array.getElem?_modify, if_true, h, Option.map_some]
  simp
theorem blk_set4u {w : World} {B : Nat} {T : TypeId} {x y z u : Value} (h : w.heap[B]? = some (.cells #[x, y, z, u] T (0, 0))) (a b c d : Value) :
    ((((w.setCell ⟨B, 0, none⟩ a).setCell ⟨B, 1, none⟩ b).setCell ⟨B, 2, none⟩ c).setCell ⟨B, 3, none⟩ d).heap[B]? = some (.cells #[a, b, c, d] T (0, 0)) := by
  simp only [World.setCell, Array.getElem?_modify, if_true, h, Option.map_some]
  simp
theorem Kp.drew {w w1 : World} {l : List (Nat × Obj)} (h : Kp w w1 l) : Kp w w1.drew l := ⟨h.1.drew, h.2⟩
theorem Kp.subs {w w1 : World} {l m : List (Nat × Obj)} (h : Kp w w1 l) (hs : ∀ p ∈ m, p ∈ l) : Kp w w1 m := ⟨h.1, fun p hp => h.2 p (hs p hp)⟩
theorem cells3 {w : World} {B : Nat} {T : TypeId} {x y z : Value} (h : w.heap[B]? = some (.cells #[x, y, z] T (0, 0))) :
    w.cell? ⟨B, 0, none⟩ = some x ∧ w.cell? ⟨B, 1, none⟩ = some y ∧ w.cell? ⟨B, 2, none⟩ = some z :=
  ⟨by rw [cell_of_row w _ 0 _ _ (0, 0) h]; rfl, by rw [cell_of_row w _ 1 _ _ (0, 0) h]; rfl, by rw [cell_of_row w _ 2 _ _ (0, 0) h]; rfl⟩
theorem cells2 {w : World} {B : Nat} {T : TypeId} {x y : Value} (h : w.heap[B]? = some (.cells #[x, y] T (0, 0))) :
    w.cell? ⟨B, 0, none⟩ = some x ∧ w.cell? ⟨B, 1, none⟩ = some y :=
  ⟨by rw [cell_of_row w _ 0 _ _ (0, 0) h]; rfl, by rw [cell_of_row w _ 1 _ _ (0, 0) h]; rfl⟩
theorem Kp.swap {w w1 : World} {a b : Nat × Obj} {l : List (Nat × Obj)} (h : Kp w w1 (a :: b :: l)) : Kp w w1 (b :: a :: l) := h.subs fun p hp => by
  rcases List.mem_cons.1 hp with rfl | hp
  · exact .tail _ (.head _)
  · rcases List.mem_cons.1 hp with rfl | hp
    · exact .head _
    · exact .tail _ (.tail _ hp)
theorem Kp.cons {w w1 : World} {l : List (Nat × Obj)} (h : Kp w w1 l) {B : Nat} {O : Obj} (hB : w1.heap[B]? = some O) : Kp w w1 ((B, O) :: l) := ⟨h.1, fun p hp => by
  rcases List.mem_cons.1 hp with rfl | hp
  · exact hB
  · exact h.2 p hp⟩
/-- The world of a walk may be taken as any that has what is known of it. -/
theorem wp_world {P : Program} {c : Code} {Q : Exit → Act → World → Prop} {fr : Act} {w1 : World} (R : World → Prop) (h : R w1) (k : ∀ w', R w' → Code.wp P c Q fr w') : Code.wp P c Q fr w1 := k w1 h
theorem cells4 {w : World} {B : Nat} {T : TypeId} {x y z u : Value} (h : w.heap[B]? = some (.cells #[x, y, z, u] T (0, 0))) :
    w.cell? ⟨B, 0, none⟩ = some x ∧ w.cell? ⟨B, 1, none⟩ = some y ∧ w.cell? ⟨B, 2, none⟩ = some z ∧ w.cell? ⟨B, 3, none⟩ = some u :=
  ⟨by rw [cell_of_row w _ 0 _ _ (0, 0) h]; rfl, by rw [cell_of_row w _ 1 _ _ (0, 0) h]; rfl, by rw [cell_of_row w _ 2 _ _ (0, 0) h]; rfl, by rw [cell_of_row w _ 3 _ _ (0, 0) h]; rfl⟩
theorem kp_set3 {w w1 : World} {l : List (Nat × Obj)} (h : Kp w w1 l) {x y z : Value} {T : TypeId} (a b c : Value) :
    Kp w ((((w1.alloc (.cells #[x, y, z] T)).setCell ⟨w1.heap.size, 0, none⟩ a).setCell ⟨w1.heap.size, 1, none⟩ b).setCell ⟨w1.heap.size, 2, none⟩ c) ((w1.heap.size, .cells #[a, b, c] T (0, 0)) :: l) := by
  have hs : w.heap.size ≤ w1.heap.size := h.1.size
  have k := h.alloc (.cells #[x, y, z] T)
  refine ⟨((k.1.setCell (p := ⟨w1.heap.size, 0, none⟩) hs _).setCell (p := ⟨w1.heap.size, 1, none⟩) hs _).setCell (p := ⟨w1.heap.size, 2, none⟩) hs _, fun p hp => ?_⟩
  rcases List.mem_cons.1 hp with rfl | hp
  · exact blk_set3 (blk_alloc_new _ _) _ _ _
  · have hne : p.1 ≠ w1.heap.size := by have := lt_of_blk (h.2 p hp); omega
    refine (Below.heap_setCell _ _ _ _ hne).trans ((Below.heap_setCell _ _ _ _ hne).trans ((Below.heap_setCell _ _ _ _ hne).trans (k.2 p (.tail _ hp))))
def put3 (w : World) (B : Nat) (a b c : Value) : World := ((w.setCell ⟨B, 0, none⟩ a).setCell ⟨B, 1, none⟩ b).setCell ⟨B, 2, none⟩ c
theorem put3_self {w : World} {B : Nat} {T : TypeId} {x y z : Value} (h : w.heap[B]? = some (.cells #[x, y, z] T (0, 0))) (a b c : Value) : (put3 w B a b c).heap[B]? = some (.cells #[a, b, c] T (0, 0)) := blk_set3 h a b c
theorem put3_other (w : World) {B q : Nat} (hq : q ≠ B) (a b c : Value) : (put3 w B a b c).heap[q]? = w.heap[q]? :=
  (Below.heap_setCell _ _ _ _ hq).trans ((Below.heap_setCell _ _ _ _ hq).trans (Below.heap_setCell _ _ _ _ hq))
theorem put3_below {w w1 : World} {B : Nat} (h : Below w.heap.size w w1) (hB : w.heap.size ≤ B) (a b c : Value) : Below w.heap.size w (put3 w1 B a b c) :=
  ((h.setCell (p := ⟨B, 0, none⟩) hB _).setCell (p := ⟨B, 1, none⟩) hB _).setCell (p := ⟨B, 2, none⟩) hB _
theorem below_allocS {w w' : World} (h : Below w.heap.size w w') (o : Obj) : Below w.heap.size w (w'.alloc o) := h.alloc h.size o
theorem below_call {w v u : World} (hb : Below v.heap.size v u) (h : Below w.heap.size w v) : Below w.heap.size w u := h.trans (hb.mono h.size)
theorem blk_call {v u : World} {B : Nat} {O : Obj} (hb : Below v.heap.size v u) (h : v.heap[B]? = some O) : u.heap[B]? = some O := (hb.block _ (lt_of_blk h)).trans h
theorem kp_two {w w3 W : World} {l : List (Nat × Obj)} {Bp Bq : Nat} {O O' : Obj} (h : Kp w w3 l) (hB : Below w3.heap.size w3 W) (hp : W.heap[Bp]? = some O) (hq : W.heap[Bq]? = some O') : Kp w W ((Bp, O) :: (Bq, O') :: l) := by
  have k := h.call hB
  refine ⟨k.1, fun p hp' => ?_⟩
  rcases List.mem_cons.1 hp' with rfl | hp'
  · exact hp
  · rcases List.mem_cons.1 hp' with rfl | hp'
    · exact hq
    · exact k.2 p hp'
theorem blk_setO {w : World} {B q : Nat} {O : Obj} (hne : B ≠ q) {a b c : Value} (h : w.heap[B]? = some O) : (((w.setCell ⟨q, 0, none⟩ a).setCell ⟨q, 1, none⟩ b).setCell ⟨q, 2, none⟩ c).heap[B]? = some O :=
  (Below.heap_setCell _ _ _ _ hne).trans ((Below.heap_setCell _ _ _ _ hne).trans ((Below.heap_setCell _ _ _ _ hne).trans h))
end Go.Proofs.YtggffhmdgceljaaGreatDoor
