/-
  Contract of stepsOf: all steps with their places, and no step ahead of them.
-/
import Derived.Test.YtggffhmdgceljaaGreatDoorRows
import Derived.WalkKit
import Derived.WalkSpells
import Derived.WalkLawsBesides
import Derived.Lib.Hide
import Derived.BigQuiet
import Derived.Deep.QuietTactic
import Derived.Handy
import Derived.Deep.RegionHeld3
import Derived.Deep.RegionWith
import Derived.StillTailTactics
import Derived.RangeFuncNested
import Derived.RangeFuncBound
import Derived.RangeFuncCalls
import Derived.RangeFuncLeaves
import Derived.RangeFuncBox
import Derived.Shelf.Abstract
import Derived.Shelf.RegionOpen
import Derived.OwnWalkIn
import Derived.TacticsInMore
import Derived.LoopNIn
import Derived.LoopIn
import Derived.Maps.AppendAt
import Derived.Test.YtggffhmdgceljaaGreatDoorProg
import Derived.Laws.FloatArith
import Derived.Laws.BitsAllLaws
import Derived.Deep.DeepCutAuto
import Derived.Stop.BytesEq
import Derived.Deep.MidRow
import Derived.Laws.CopyRow
import Derived.WalkMore
import Derived.Deep.DrawnRows
import Derived.Deep.CutBlock
import Derived.Orders
import Derived.LoopTactic
import Derived.Laws.StructEq
import Derived.Deep.RegionLaw
import Derived.RegionTactic
import Derived.StillTail
import Derived.Laws.RangeString
import Derived.Laws.RangeAny
import Derived.Test.YtggffhmdgceljaaGreatDoorOwaWn
import Derived.Test.YtggffhmdgceljaaGreatDoorOwaXe
import Derived.Test.YtggffhmdgceljaaGreatDoorOwaIb
import Derived.Test.YtggffhmdgceljaaGreatDoorOwaNd
import Derived.Test.YtggffhmdgceljaaGreatDoorOwaId
import Derived.Test.YtggffhmdgceljaaGreatDoorOwaNc
import Derived.Test.YtggffhmdgceljaaGreatDoorOwaNt
import Derived.Test.YtggffhmdgceljaaGreatDoorOwaWo
namespace Go.Proofs.YtggffhmdgceljaaGreatDoor
open Go.RowKit
set_option linter.unusedVariables false
set_option linter.unusedSimpArgs false

structure PlV where
  a : Int
  l : Int
  i : Int
def PlV.val (s : PlV) : List Value := [.int .i64 s.a, .int .i64 s.l, .int .i64 s.i]
def plZ : PlV := ⟨0, 0, 0⟩
/-- No step, and the first k steps with their places. -/
def plTo (L : List StepV) (k : Nat) : List PlV := ⟨0, 0, -1⟩ :: (List.range k).map fun (i : Nat) => ⟨(L[i]?.getD stepZ).a, (L[i]?.getD stepZ).l, (i : Int)⟩
theorem plTo_succ (L : List StepV) (k : Nat) : plTo L (k + 1) = plTo L k ++ [⟨(L[k]?.getD stepZ).a, (L[k]?.getD stepZ).l, (k : Int)⟩] := by
  unfold plTo
  rw [List.range_succ, List.map_append]
  rfl
theorem plTo_flat (L : List StepV) (k : Nat) : (plTo L (k + 1)).flatMap PlV.val = (plTo L k).flatMap PlV.val ++ [.int .i64 (L[k]?.getD stepZ).a, .int .i64 (L[k]?.getD stepZ).l, .int .i64 (k : Int)] := by
  rw [plTo_succ, List.flatMap_append]
  rfl
theorem Tryz.infoPlaced : (Tryz.prog.info? 148).map (fun i => (i.zero, i.size, i.bytes)) = some (some (.agg #[.int .i64 0, .int .i64 0, .int .i64 0]), 3, 24) := by kernel_rfl
theorem owns_lit3 (w : World) (T : TypeId) (x y z : Value) : (w.alloc (.cells #[x, y, z] T)).ownsRow w.heap.size T 3 (.slice (some ⟨w.heap.size, 0, none⟩) 1 1) 1 [x, y, z] :=
  ⟨rfl, .inr ⟨w.heap.size, 1, #[x, y, z], rfl, Nat.le_refl _, World.alloc_heap_new w _, Nat.le_refl _, by unfold maxLen; omega, rfl, rfl⟩⟩
theorem cells_new3' (w : World) (o : Obj) (T : TypeId) (a b c : Value) : ∀ j u, [a, b, c][j]? = some u → ((w.alloc o).alloc (.cells #[a, b, c] T)).cell? ((⟨w.heap.size + 1, 0, none⟩ : Addr).add j) = some u := fun j u h => by
  rw [Addr.add_mid]
  have h1 : ((w.alloc o).alloc (.cells #[a, b, c] T)).heap[w.heap.size + 1]? = some (.cells #[a, b, c] T (0, 0)) := by
    have h := World.alloc_heap_new (w.alloc o) (.cells #[a, b, c] T)
    rwa [World.size_alloc] at h
  rw [cell_of_row _ (w.heap.size + 1) (0 + j) _ _ (0, 0) h1]
  simpa using h

set_option maxRecDepth 100000 in
set_option maxHeartbeats 6400000 in
theorem stepsOf_ok (L : List StepV) (b q n c : Nat) (w : World) (hA : StepsAt w b q L) (hb : b < w.heap.size) (hn : L.length = n) (hm : n ≤ 16) :
    Calls Tryz.prog 91 #[.slice (some ⟨b, q, none⟩) n c] w fun e w' => ∃ v, e = .returned v ∧ w'.ownsRow w.heap.size 148 3 v (n + 1) ((plTo L n).flatMap PlV.val) ∧ Below w.heap.size w w' := by
  obtain ⟨i0, hi, hz0, hz1, hz2⟩ := info_parts Tryz.infoPlaced
  have HA : Hid (∀ (k : Nat) (w1 : World), k < n → Below w.heap.size w w1 → w1.rangeAt b (q + k * 2) (L[k]?.getD stepZ).val) := Lib.hid fun k w1 hk hw => hA.kept hw hb k (by omega)
  have s2 : (Tryz.prog.info? 146).map (·.size) = some 2 := by kernel_rfl
  have i3 : (n : Int) ≤ 16 := by omega
  clear hA hb hn
  go_enter Tryz.func91, Tryz.ntmps91
  go_wp2_with fail
  go_loopw [3, 10] (fun out i wr => ∃ k : Nat, k ≤ n ∧ i = .int .i64 k ∧ wr.ownsRow w.heap.size 148 3 out (k + 1) ((plTo L k).flatMap PlV.val) ∧ Below w.heap.size w wr)
    (fun _ i _ => n - (intOf i).toNat)
  case atStart => exact ⟨0, Nat.zero_le _, rfl, owns_lit3 w _ _ _ _, (Below.refl _ _).alloc (Nat.le_refl _) _⟩
  case round =>
    obtain ⟨k, hk, rfl, hown, hnx⟩ := hrel
    have hsz : w.heap.size ≤ wr.heap.size := hnx.size
    by_cases hlt : k < n
    · have hr := HA.out k wr hlt hnx
      have hS := plTo_flat L k
      obtain ⟨t, ht⟩ : ∃ t, L[k]?.getD stepZ = t := ⟨_, rfl⟩
      rw [ht] at hr hS
      have hv : t.val = [.int .i64 t.a, .int .i64 t.l] := rfl
      have HR := Lib.hid hr
      have HS := Lib.hid hS
      clear ht hr hS
      go_wp2_with (first
        | (refine wpList_load_mid rfl 146 _ rfl b (q + k * 2) rfl t.val _ HR.out Tryz.underlying146 rfl (by rw [s2]; rfl) ?_)
        | (at_builtin; refine wpList_append_own _ rfl (.tmp 15) (.tmp 19) 150 rfl w.heap.size 148 i0 (.agg #[.int .i64 0, .int .i64 0, .int .i64 0]) 3 24 Tryz.underlying150 hi hz0 hz1 hz2 rfl (by decide) _ (k + 1) _ rfl ((hown.alloc _).alloc _) ⟨wr.heap.size + 1, 0, none⟩ 1 1 [.int .i64 t.a, .int .i64 t.l, .int .i64 (k : Int)] rfl rfl (cells_new3' _ _ _ _ _ _) (by intro u hu; simp at hu; rcases hu with rfl | rfl | rfl <;> rfl) (by unfold maxLen; omega) (by omega) (by simp; omega) ?_; intro v' w3 hown3 hgrow3 _))
      have hlt' := hown.lt
      go_roundw
      case rel => exact ⟨k + 1, by omega, by go_num, by rw [HS.out]; exact hown3, ((hnx.alloc (by omega) _).alloc (by simp; omega) _).grown hgrow3 (by simp; omega) (fun j hj => (hlt' j hj).1)⟩
      case measure => simp [intOf]; omega
    · obtain rfl : k = n := by omega
      have HO := Lib.hid hown
      have HX := Lib.hid hnx
      clear hown hnx
      go_wp2_with fail
      go_ret
      exact ⟨_, rfl, HO.out, HX.out⟩
end Go.Proofs.YtggffhmdgceljaaGreatDoor
