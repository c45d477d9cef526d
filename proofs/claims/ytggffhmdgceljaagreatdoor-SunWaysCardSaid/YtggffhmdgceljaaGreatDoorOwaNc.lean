/-
  Suns in memory: a sky of valid suns, and where its words lie.
-/
import Derived.Test.YtggffhmdgceljaaGreatDoorRows
import Derived.WalkKit
import Derived.WalkSpells
import Derived.WalkLawsBesides
import Derived.Lib.Hide
import Derived.BigQuiet
import Derived.Deep.QuietTactic
import Derived.Handy
import Derived.Deep.RegionHeld3
import Derived.Deep.RegionWith
import Derived.StillTailTactics
import Derived.RangeFuncNested
import Derived.RangeFuncBound
import Derived.RangeFuncCalls
import Derived.RangeFuncLeaves
import Derived.RangeFuncBox
import Derived.Shelf.Abstract
import Derived.Shelf.RegionOpen
import Derived.OwnWalkIn
import Derived.TacticsInMore
import Derived.LoopNIn
import Derived.LoopIn
import Derived.Maps.AppendAt
import Derived.Test.YtggffhmdgceljaaGreatDoorProg
import Derived.Laws.FloatArith
import Derived.Laws.BitsAllLaws
import Derived.Deep.DeepCutAuto
import Derived.Stop.BytesEq
import Derived.Deep.MidRow
import Derived.Laws.CopyRow
import Derived.WalkMore
import Derived.Deep.DrawnRows
import Derived.Deep.CutBlock
import Derived.Orders
import Derived.LoopTactic
import Derived.Laws.StructEq
import Derived.Deep.RegionLaw
import Derived.RegionTactic
import Derived.StillTail
import Derived.Laws.RangeString
import Derived.Laws.RangeAny
import Derived.Test.YtggffhmdgceljaaGreatDoorOwaWn
import Derived.Test.YtggffhmdgceljaaGreatDoorOwaXe
import Derived.Test.YtggffhmdgceljaaGreatDoorOwaId
import Derived.Test.YtggffhmdgceljaaGreatDoorOwaIi
import Derived.Test.YtggffhmdgceljaaGreatDoorOwaIq
namespace Go.Proofs.YtggffhmdgceljaaGreatDoor
open Go.RowKit
set_option linter.unusedVariables false
set_option linter.unusedSimpArgs false

structure SunV where
  t : Int
  x : Int
  y : Int
  z : Int
def SunV.val (s : SunV) : List Value := [.int .i64 s.t, .int .i64 s.x, .int .i64 s.y, .int .i64 s.z]
def sunZ : SunV := ⟨0, 0, 0, 0⟩
def SunsAt (w : World) (b q : Nat) (L : List SunV) : Prop := ∀ k, k < L.length → w.rangeAt b (q + k * 4) (L[k]?.getD sunZ).val
theorem SunsAt.kept {w w' : World} {b q B : Nat} {L : List SunV} (h : SunsAt w b q L) (hb : Below B w w') (hB : b < B) : SunsAt w' b q L := fun k hk j v hv => by
  rw [hb.cell (by exact hB)]; exact h k hk j v hv
/-- What a valid sun keeps, next to the first one of its sky. -/
structure SunOk (s f : SunV) : Prop where
  tick : 0 ≤ s.t ∧ s.t ≤ 10000000
  ray : rayErr s.x s.y s.z = 0
  long : dot3 s.x s.y s.z s.x s.y s.z = dot3 f.x f.y f.z f.x f.y f.z
/-- The suns of a valid sky. -/
structure SkyOk (L : List SunV) : Prop where
  two : 2 ≤ L.length
  most : L.length ≤ 64
  all : ∀ k, k < L.length → SunOk (L[k]?.getD sunZ) (L[0]?.getD sunZ)
  gaps : ∀ k, 0 < k → k < L.length → (L[k - 1]?.getD sunZ).t < (L[k]?.getD sunZ).t ∧ (L[k]?.getD sunZ).t - (L[k - 1]?.getD sunZ).t ≤ 200
theorem SunOk.parts {s f : SunV} (h : SunOk s f) : Ray3 s.x s.y s.z := (ray_ok h.ray).2
theorem SunsAt.cell0 {w : World} {b q : Nat} {L : List SunV} (h : SunsAt w b q L) {k : Nat} (hk : k < L.length) :
    w.cell? ⟨b, q + k * 4, none⟩ = some (.int .i64 (L[k]?.getD sunZ).t) ∧ w.cell? ⟨b, q + k * 4 + 1, none⟩ = some (.int .i64 (L[k]?.getD sunZ).x) ∧ w.cell? ⟨b, q + k * 4 + 2, none⟩ = some (.int .i64 (L[k]?.getD sunZ).y) ∧ w.cell? ⟨b, q + k * 4 + 3, none⟩ = some (.int .i64 (L[k]?.getD sunZ).z) :=
  ⟨h k hk 0 _ rfl, h k hk 1 _ rfl, h k hk 2 _ rfl, h k hk 3 _ rfl⟩
theorem SunsAt.range {w : World} {b q : Nat} {L : List SunV} (h : SunsAt w b q L) {k : Nat} (hk : k < L.length) :
    w.rangeAt b (q + k * 4 + 1) [.int .i64 (L[k]?.getD sunZ).x, .int .i64 (L[k]?.getD sunZ).y, .int .i64 (L[k]?.getD sunZ).z] := fun j v hv => by
  rw [Nat.add_assoc (q + k * 4) 1 j, Nat.add_comm 1 j]
  exact h k hk (j + 1) v hv
end Go.Proofs.YtggffhmdgceljaaGreatDoor
