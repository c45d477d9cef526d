/-
  Contracts of the fixed examples of chapter 2: the calls of rays, cones and planes.
-/
import Derived.Test.YtggffhmdgceljaaGreatDoorRows
import Derived.WalkKit
import Derived.WalkSpells
import Derived.WalkLawsBesides
import Derived.Lib.Hide
import Derived.BigQuiet
import Derived.Deep.QuietTactic
import Derived.Handy
import Derived.Deep.RegionHeld3
import Derived.Deep.RegionWith
import Derived.StillTailTactics
import Derived.RangeFuncNested
import Derived.RangeFuncBound
import Derived.RangeFuncCalls
import Derived.RangeFuncLeaves
import Derived.RangeFuncBox
import Derived.Shelf.Abstract
import Derived.Shelf.RegionOpen
import Derived.OwnWalkIn
import Derived.TacticsInMore
import Derived.LoopNIn
import Derived.LoopIn
import Derived.Maps.AppendAt
import Derived.Test.YtggffhmdgceljaaGreatDoorProg
import Derived.Laws.FloatArith
import Derived.Laws.BitsAllLaws
import Derived.Deep.DeepCutAuto
import Derived.Stop.BytesEq
import Derived.Deep.MidRow
import Derived.Laws.CopyRow
import Derived.WalkMore
import Derived.Deep.DrawnRows
import Derived.Deep.CutBlock
import Derived.Orders
import Derived.LoopTactic
import Derived.Laws.StructEq
import Derived.Deep.RegionLaw
import Derived.RegionTactic
import Derived.StillTail
import Derived.Laws.RangeString
import Derived.Laws.RangeAny
import Derived.Shelf.Strings.Builder1
import Derived.Shelf.Strings.OnBuilder
import Derived.Shelf.LaysM
import Derived.Shelf.Strconv.Itoa3
import Derived.Lib.AppendIntMem
import Derived.Lib.ItoaLen
import Derived.RowKit
import Derived.Test.YtggffhmdgceljaaGreatDoorOwaWn
import Derived.Test.YtggffhmdgceljaaGreatDoorOwaXe
import Derived.Test.YtggffhmdgceljaaGreatDoorOwaIb
import Derived.Test.YtggffhmdgceljaaGreatDoorOwaWi
import Derived.Test.YtggffhmdgceljaaGreatDoorOwaId
import Derived.Test.YtggffhmdgceljaaGreatDoorOwaIi
import Derived.Test.YtggffhmdgceljaaGreatDoorOwaIg
import Derived.Test.YtggffhmdgceljaaGreatDoorOwaIo
import Derived.Test.YtggffhmdgceljaaGreatDoorOwaIq
import Derived.Test.YtggffhmdgceljaaGreatDoorOwaNa
import Derived.Test.YtggffhmdgceljaaGreatDoorOwaNi
import Derived.Test.YtggffhmdgceljaaGreatDoorOwaIx
import Derived.Test.YtggffhmdgceljaaGreatDoorOwaNv
import Derived.Test.YtggffhmdgceljaaGreatDoorOwaWo
import Derived.Test.YtggffhmdgceljaaGreatDoorOwaNo
import Derived.Test.YtggffhmdgceljaaGreatDoorOwaNy
namespace Go.Proofs.YtggffhmdgceljaaGreatDoor
open Go.RowKit
set_option linter.unusedVariables false
set_option linter.unusedSimpArgs false

theorem ex_reduced (w : World) : Calls Tryz.prog 22 #[.agg #[.int .i64 2, .int .i64 4, .int .i64 4]] w fun e w' => e = .returned (.tuple #[.agg #[.int .i64 1, .int .i64 2, .int .i64 2], .int .i64 0]) ∧ Below w.heap.size w w' := by
  have h := sunReduced_ok 2 4 4 (by decide) w
  rwa [show (2 : Int).tdiv (g3 2 4 4) = 1 by decide, show (4 : Int).tdiv (g3 2 4 4) = 2 by decide] at h
theorem ex_length (w : World) : Calls Tryz.prog 20 #[.agg #[.int .i64 1, .int .i64 2, .int .i64 2]] w fun e w' => e = .returned (.tuple #[.int .i64 3, .int .i64 0]) ∧ Below w.heap.size w w' :=
  length_ok 1 2 2 3 (by decide) (by decide) w
theorem no_root3 (L : Nat) : (L : Int) * L ≠ 3 := fun h => by
  rcases Nat.lt_or_ge L 2 with h1 | h1
  · match L, h1 with
    | 0, _ => simp at h
    | 1, _ => simp at h
  · have : (2 : Int) * 2 ≤ (L : Int) * L := Int.mul_le_mul (by omega) (by omega) (by omega) (by omega)
    omega
theorem ex_lengthNo (w : World) : Calls Tryz.prog 20 #[.agg #[.int .i64 1, .int .i64 1, .int .i64 1]] w fun e w' => e = .returned (.tuple #[.int .i64 0, .int .i64 1]) ∧ Below w.heap.size w w' :=
  length_not 1 1 1 (by decide) (fun L => by have := no_root3 L; simpa [dot3] using this) w
theorem ex_whole (w : World) : Calls Tryz.prog 18 #[.agg #[.int .i64 1, .int .i64 1, .int .i64 1, .int .i64 0]] w fun e w' => e = .returned (.tuple #[.agg #[.int .i64 1, .int .i64 2, .int .i64 (-2)], .int .i64 0]) ∧ Below w.heap.size w w' :=
  whole_ok 1 1 1 0 (by unfold Root; omega) (by unfold Root; omega) (by unfold Root; omega) (by unfold Root; omega) (by decide) w
theorem ex_normal (w : World) : Calls Tryz.prog 21 #[.agg #[.int .i64 0, .int .i64 0, .int .i64 1], .agg #[.int .i64 2, .int .i64 1, .int .i64 2]] w fun e w' => e = .returned (.tuple #[.agg #[.int .i64 2, .int .i64 1, .int .i64 5], .int .i64 0]) ∧ Below w.heap.size w w' := by
  have h := normal_any 0 0 1 2 1 2 2 1 5 (by decide) (by decide) 1 3 (by decide) (by decide) (by decide) (by decide) (by decide) (by decide) (by decide) w
  rwa [show (2 : Int).tdiv (g3 2 1 5) = 2 by decide, show (1 : Int).tdiv (g3 2 1 5) = 1 by decide, show (5 : Int).tdiv (g3 2 1 5) = 5 by decide] at h
theorem ex_reflected (w : World) : Calls Tryz.prog 24 #[.agg #[.int .i64 0, .int .i64 0, .int .i64 1], .agg #[.int .i64 2, .int .i64 1, .int .i64 5]] w fun e w' => e = .returned (.tuple #[.agg #[.int .i64 2, .int .i64 1, .int .i64 2], .int .i64 0]) ∧ Below w.heap.size w w' := by
  have h := reflected_ok 0 0 1 2 1 5 20 10 20 (by decide) (by decide) (by decide) (by decide) (by decide) (by decide) w
  rwa [show (20 : Int).tdiv (g3 20 10 20) = 2 by decide, show (10 : Int).tdiv (g3 20 10 20) = 1 by decide] at h
theorem ex_cosine (w : World) : Calls Tryz.prog 25 #[.agg #[.int .i64 1, .int .i64 2, .int .i64 2], .agg #[.int .i64 2, .int .i64 1, .int .i64 2]] w fun e w' => e = .returned (.tuple #[.int .i64 1, .agg #[.int .i64 64, .int .i64 81], .int .i64 0]) ∧ Below w.heap.size w w' := by
  have h := cosine_any 1 2 2 2 1 2 (by decide) (by decide) w
  rwa [show sgnI (dot3 1 2 2 2 1 2) = 1 by decide, show (dot3 1 2 2 2 1 2 * dot3 1 2 2 2 1 2).tdiv (Int.gcd (dot3 1 2 2 2 1 2 * dot3 1 2 2 2 1 2) (dot3 1 2 2 1 2 2 * dot3 2 1 2 2 1 2)) = 64 by decide,
    show (dot3 1 2 2 1 2 2 * dot3 2 1 2 2 1 2).tdiv (Int.gcd (dot3 1 2 2 2 1 2 * dot3 1 2 2 2 1 2) (dot3 1 2 2 1 2 2 * dot3 2 1 2 2 1 2)) = 81 by decide] at h
theorem ex_inside (w : World) : Calls Tryz.prog 7 #[.agg #[.int .i64 0, .int .i64 0, .int .i64 1, .int .i64 1, .int .i64 2], .agg #[.int .i64 1, .int .i64 0, .int .i64 1]] w fun e w' => e = .returned (.tuple #[.bool true, .int .i64 0]) ∧ Below w.heap.size w w' := by
  have h := inside_ok 0 0 1 1 2 1 0 1 (by decide) (by decide) w
  rwa [show insB 0 0 1 1 2 1 0 1 = true by decide] at h
theorem ex_insideNo (w : World) : Calls Tryz.prog 7 #[.agg #[.int .i64 0, .int .i64 0, .int .i64 1, .int .i64 1, .int .i64 2], .agg #[.int .i64 2, .int .i64 0, .int .i64 1]] w fun e w' => e = .returned (.tuple #[.bool false, .int .i64 0]) ∧ Below w.heap.size w w' := by
  have h := inside_ok 0 0 1 1 2 2 0 1 (by decide) (by decide) w
  rwa [show insB 0 0 1 1 2 2 0 1 = false by decide] at h
theorem ex_meets (w : World) : Calls Tryz.prog 8 #[.agg #[.int .i64 0, .int .i64 0, .int .i64 1, .int .i64 1, .int .i64 2], .agg #[.int .i64 3, .int .i64 0, .int .i64 1], .agg #[.int .i64 (-3), .int .i64 0, .int .i64 1]] w fun e w' => e = .returned (.tuple #[.bool true, .int .i64 0]) ∧ Below w.heap.size w w' := by
  have h := meets_ok 0 0 1 1 2 3 0 1 (-3) 0 1 (by decide) (by decide) w
  rwa [show meetB 0 0 1 1 2 3 0 1 (-3) 0 1 = true by decide] at h
theorem ex_meetsNo (w : World) : Calls Tryz.prog 8 #[.agg #[.int .i64 0, .int .i64 0, .int .i64 1, .int .i64 1, .int .i64 2], .agg #[.int .i64 3, .int .i64 0, .int .i64 1], .agg #[.int .i64 0, .int .i64 3, .int .i64 1]] w fun e w' => e = .returned (.tuple #[.bool false, .int .i64 0]) ∧ Below w.heap.size w w' := by
  have h := meets_ok 0 0 1 1 2 3 0 1 0 3 1 (by decide) (by decide) w
  rwa [show meetB 0 0 1 1 2 3 0 1 0 3 1 = false by decide] at h
theorem ex_same (w : World) : Calls Tryz.prog 62 #[.agg #[.int .i64 1, .int .i64 2, .int .i64 2], .agg #[.int .i64 2, .int .i64 4, .int .i64 4]] w fun e w' => e = .returned (.tuple #[.bool true, .int .i64 0]) ∧ Below w.heap.size w w' := by
  have h := sunSame_ok 1 2 2 2 4 4 (by decide) (by decide) w
  rwa [show sameB 1 2 2 2 4 4 = true by decide] at h
theorem ex_frame (w : World) (hA : AxesAt w) : Calls Tryz.prog 27 #[.agg #[.int .i64 0, .int .i64 3, .int .i64 4]] w fun e w' => e = .returned (.tuple #[.agg #[.int .i64 (-1), .int .i64 0, .int .i64 0, .int .i64 0, .int .i64 (-4), .int .i64 3], .int .i64 0]) ∧ Below w.heap.size w w' := by
  have f : ∀ {a b : Int}, (-100 ≤ a ∧ a ≤ 100) → (-100 ≤ b ∧ b ≤ 100) → Fit (a * b) := fun h k => fit_abs h k (by omega)
  have m : ∀ {a : Int}, (-100 ≤ a ∧ a ≤ 100) → Mid a := fun h => by unfold Mid; omega
  refine frame_slanty 3 4 (-1) 0 0 0 (-4) 3 0 (-4) 3 (by decide) (by decide) w hA (-3) 0 0 (fun w1 => ?_) (fun w1 => ?_) (fun w1 => ?_) (fun w1 => ?_)
  · exact cross_any 0 0 1 0 3 4 (f (by omega) (by omega)) (f (by omega) (by omega)) (f (by omega) (by omega)) (f (by omega) (by omega)) (f (by omega) (by omega)) (f (by omega) (by omega)) w1
  · exact reduced_any (-3) 0 0 (m (by omega)) (m (by omega)) (m (by omega)) (by decide) w1
  · exact cross_any 0 3 4 (-1) 0 0 (f (by omega) (by omega)) (f (by omega) (by omega)) (f (by omega) (by omega)) (f (by omega) (by omega)) (f (by omega) (by omega)) (f (by omega) (by omega)) w1
  · exact reduced_any 0 (-4) 3 (m (by omega)) (m (by omega)) (m (by omega)) (by decide) w1
end Go.Proofs.YtggffhmdgceljaaGreatDoor
