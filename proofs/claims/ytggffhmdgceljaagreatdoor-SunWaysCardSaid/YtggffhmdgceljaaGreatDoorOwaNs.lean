/-
  Contracts of flat, lifted, checkStep and the order of steps.
-/
import Derived.Test.YtggffhmdgceljaaGreatDoorRows
import Derived.WalkKit
import Derived.WalkSpells
import Derived.WalkLawsBesides
import Derived.Lib.Hide
import Derived.BigQuiet
import Derived.Deep.QuietTactic
import Derived.Handy
import Derived.Deep.RegionHeld3
import Derived.Deep.RegionWith
import Derived.StillTailTactics
import Derived.RangeFuncNested
import Derived.RangeFuncBound
import Derived.RangeFuncCalls
import Derived.RangeFuncLeaves
import Derived.RangeFuncBox
import Derived.Shelf.Abstract
import Derived.Shelf.RegionOpen
import Derived.OwnWalkIn
import Derived.TacticsInMore
import Derived.LoopNIn
import Derived.LoopIn
import Derived.Maps.AppendAt
import Derived.Test.YtggffhmdgceljaaGreatDoorProg
import Derived.Laws.FloatArith
import Derived.Laws.BitsAllLaws
import Derived.Deep.DeepCutAuto
import Derived.Stop.BytesEq
import Derived.Deep.MidRow
import Derived.Laws.CopyRow
import Derived.WalkMore
import Derived.Deep.DrawnRows
import Derived.Deep.CutBlock
import Derived.Orders
import Derived.LoopTactic
import Derived.Laws.StructEq
import Derived.Deep.RegionLaw
import Derived.RegionTactic
import Derived.StillTail
import Derived.Test.YtggffhmdgceljaaGreatDoorOwaWa
import Derived.Test.YtggffhmdgceljaaGreatDoorOwaWn
import Derived.Test.YtggffhmdgceljaaGreatDoorOwaXe
import Derived.Test.YtggffhmdgceljaaGreatDoorOwaIb
import Derived.Test.YtggffhmdgceljaaGreatDoorOwaIl
import Derived.Test.YtggffhmdgceljaaGreatDoorOwaId
import Derived.Test.YtggffhmdgceljaaGreatDoorOwaIx
namespace Go.Proofs.YtggffhmdgceljaaGreatDoor
open Go.RowKit
set_option linter.unusedVariables false
set_option linter.unusedSimpArgs false

theorem sun_max (n m : Int) : ∀ (ts : Array TypeId) (t : TypeId) (w : World), (Builtin.max_ ts t #[.int .i64 n, .int .i64 m]).run Tryz.prog w = .ok (.int .i64 (max n m)) w := fun ts t w => by
  rw [run_max_int2]
  by_cases h : n < m
  · rw [if_pos h, show max n m = m by omega]
  · rw [if_neg h, show max n m = n by omega]
/-- The sum of the absolute values of two parts. -/
def flatI (x y : Int) : Int := max x (-x) + max y (-y)

set_option maxRecDepth 100000 in
set_option maxHeartbeats 6400000 in
theorem flat_any (x y z : Int) (hx : -1000000000000000000 ≤ x ∧ x ≤ 1000000000000000000) (hy : -1000000000000000000 ≤ y ∧ y ≤ 1000000000000000000) (w : World) :
    Calls Tryz.prog 110 #[.agg #[.int .i64 x, .int .i64 y, .int .i64 z]] w fun e w' => e = .returned (.int .i64 (flatI x y)) ∧ Below w.heap.size w w' := by
  have m1 := sun_max x (-x)
  have m2 := sun_max y (-y)
  have n1 : IntKind.i64.wrap (-x) = -x := IntWalk.i64_in _ ⟨by omega, by omega⟩
  have n2 : IntKind.i64.wrap (-y) = -y := IntWalk.i64_in _ ⟨by omega, by omega⟩
  have n3 : IntKind.i64.wrap (max x (-x) + max y (-y)) = flatI x y := IntWalk.i64_in _ ⟨by omega, by omega⟩
  obtain ⟨a, ha⟩ : ∃ a : Int, max x (-x) = a := ⟨_, rfl⟩
  obtain ⟨b, hb⟩ : ∃ b : Int, max y (-y) = b := ⟨_, rfl⟩
  obtain ⟨f, hf⟩ : ∃ f : Int, flatI x y = f := ⟨_, rfl⟩
  rw [ha] at m1 n3
  rw [hb] at m2 n3
  rw [hf] at n3 ⊢
  clear ha hb hf hx hy
  go_enter Tryz.func110, Tryz.ntmps110
  go_wp2_with fail
  go_ret
  exact ⟨rfl, (Below.refl _ _).alloc (Nat.le_refl _) _⟩

set_option maxRecDepth 100000 in
set_option maxHeartbeats 6400000 in
theorem lifted_walk (x y z m f lf p1 p2 p3 q1 q2 q3 s1 s2 s3 : Int) (w : World) (hA : AxesAt w) (hg : 0 < w.heap.size)
    (KT : ∀ w1 : World, Calls Tryz.prog 69 #[.agg #[.int .i64 x, .int .i64 y, .int .i64 z], .int .i64 64] w1 fun r w' => r = .returned (.agg #[.int .i64 p1, .int .i64 p2, .int .i64 p3]) ∧ Below w1.heap.size w1 w')
    (KF : ∀ w1 : World, Calls Tryz.prog 110 #[.agg #[.int .i64 x, .int .i64 y, .int .i64 z]] w1 fun e w' => e = .returned (.int .i64 f) ∧ Below w1.heap.size w1 w')
    (wm : IntKind.i64.wrap (m * f) = lf)
    (KU : ∀ w1 : World, Calls Tryz.prog 69 #[.agg #[.int .i64 0, .int .i64 0, .int .i64 1], .int .i64 lf] w1 fun e w' => e = .returned (.agg #[.int .i64 q1, .int .i64 q2, .int .i64 q3]) ∧ Below w1.heap.size w1 w')
    (KS : ∀ w1 : World, Calls Tryz.prog 70 #[.agg #[.int .i64 p1, .int .i64 p2, .int .i64 p3], .agg #[.int .i64 q1, .int .i64 q2, .int .i64 q3]] w1 fun e w' => e = .returned (.agg #[.int .i64 s1, .int .i64 s2, .int .i64 s3]) ∧ Below w1.heap.size w1 w') :
    Calls Tryz.prog 89 #[.agg #[.int .i64 x, .int .i64 y, .int .i64 z], .int .i64 m] w fun e w' => e = .returned (.agg #[.int .i64 s1, .int .i64 s2, .int .i64 s3]) ∧ Below w.heap.size w w' := by
  have HKT := Lib.hid KT
  have HKF := Lib.hid KF
  have HKU := Lib.hid KU
  have HKS := Lib.hid KS
  clear KT KF KU KS
  have HAX : Hid (∀ w1 : World, Below w.heap.size w w1 → w1.cell? ⟨0, 6, none⟩ = some (.int .i64 0) ∧ w1.cell? ⟨0, 7, none⟩ = some (.int .i64 0) ∧ w1.cell? ⟨0, 8, none⟩ = some (.int .i64 1)) := Lib.hid fun w1 hb =>
    ⟨(hb.cell hg).trans (hA 6 (by omega)), (hb.cell hg).trans (hA 7 (by omega)), (hb.cell hg).trans (hA 8 (by omega))⟩
  clear hA
  obtain ⟨W0, hW0⟩ : ∃ W0, ((w.alloc (.cells #[.int .i64 x, .int .i64 y, .int .i64 z] 94)).alloc (.cells #[.int .i64 0, .int .i64 0, .int .i64 0] 94)) = W0 := ⟨_, rfl⟩
  have K0 : Hid (Kp w W0 [(w.heap.size + 1, (.cells #[.int .i64 0, .int .i64 0, .int .i64 0] 94 (0, 0))), (w.heap.size, (.cells #[.int .i64 x, .int .i64 y, .int .i64 z] 94 (0, 0)))]) := Lib.hid (by
    rw [← hW0]
    have k := (((Kp.none w).alloc (.cells #[.int .i64 x, .int .i64 y, .int .i64 z] 94)).alloc (.cells #[.int .i64 0, .int .i64 0, .int .i64 0] 94))
    simpa using k)
  go_enter Tryz.func89, Tryz.ntmps89
  go_upto_region 1 with fail
  try rw [hW0]
  clear hW0
  apply wp_region_gives 10 (fun w' => Blw W0.heap.size W0 w') [.agg #[.int .i64 x, .int .i64 y, .int .i64 z], .agg #[.int .i64 p1, .int .i64 p2, .int .i64 p3], .pointer (some ⟨0, 6, none⟩), .agg #[.int .i64 0, .int .i64 0, .int .i64 1], .int .i64 m, .agg #[.int .i64 x, .int .i64 y, .int .i64 z], .int .i64 f, .int .i64 lf, .agg #[.int .i64 q1, .int .i64 q2, .int .i64 q3], .agg #[.int .i64 s1, .int .i64 s2, .int .i64 s3]] (by kernel_rfl) (by kernel_rfl) (by kernel_rfl) (show Below _ _ _ from (Below.refl _ _).drew)
  case haF =>
    simp [putJs, Act.put, List.range, List.range.loop]
    exact rfl
  case h =>
    have hBx := K0.out.2 _ (.tail _ (.head _))
    simp only [List.take_succ_cons, List.take_zero, GivesL]
    have HK0 := K0
    clear K0
    refine ⟨?_, ?_, ?_, ?_, ?_, ?_, ?_, ?_, ?_, ?_, trivial⟩
    all_goals
      intro w1 hw1
      obtain ⟨x_0, x_1, x_2⟩ := cells3 (((show Below _ _ _ from hw1).block _ (lt_of_blk hBx)).trans hBx)
      obtain ⟨g6, g7, g8⟩ := HAX.out w1 ((Kp.below HK0.out).trans ((show Below _ _ _ from hw1).mono (Kp.below HK0.out).size))
      unfold Oper.wp
      simp only [execOp]
      go_simp <;> first
        | exact ⟨rfl, hw1⟩
        | ((with_reducible refine (HKT.out _).mono ?_); rintro e w2 ⟨rfl, hb⟩; exact ⟨rfl, below_call hb hw1⟩)
        | ((with_reducible refine (HKF.out _).mono ?_); rintro e w2 ⟨rfl, hb⟩; exact ⟨rfl, below_call hb hw1⟩)
        | ((with_reducible refine (HKU.out _).mono ?_); rintro e w2 ⟨rfl, hb⟩; exact ⟨rfl, below_call hb hw1⟩)
        | ((with_reducible refine (HKS.out _).mono ?_); rintro e w2 ⟨rfl, hb⟩; exact ⟨rfl, below_call hb hw1⟩)
  case ht =>
    intro w5 hw5
    have K5 := Lib.hid (K0.out.call (show Below _ _ _ from hw5))
    clear hw5 K0
    simp only [List.drop_succ_cons, List.drop_zero]
    obtain ⟨o0, o1, o2⟩ := cells3 (K5.out.2 _ (.head _))
    have oz : ∀ j, w5.frozen? ⟨w.heap.size + 1, j, none⟩ = false := fun j => frozen_of_row w5 (w.heap.size + 1) j _ _ (K5.out.2 _ (.head _))
    have hb5 := Lib.hid (Kp.below K5.out)
    clear K5
    go_wp2_with fail
    refine bodyPost_ret (v := .agg #[.int .i64 s1, .int .i64 s2, .int .i64 s3]) (by simp [results, Tryz.results89, go_sem, o0, o1, o2]) rfl ⟨rfl, ?_⟩
    exact ((hb5.out.setCell (show w.heap.size ≤ w.heap.size + 1 by omega) _).setCell (show w.heap.size ≤ w.heap.size + 1 by omega) _).setCell (show w.heap.size ≤ w.heap.size + 1 by omega) _

def stepErr (a l : Int) : Int := firstNZ [rangeErr a (-100000) 100000, rangeErr l 0 16]

set_option maxRecDepth 100000 in
set_option maxHeartbeats 6400000 in
theorem checkStep_any (a l : Int) (w : World) :
    Calls Tryz.prog 108 #[.agg #[.int .i64 a, .int .i64 l]] w fun e w' => e = .returned (.int .i64 (stepErr a l)) ∧ Below w.heap.size w w' := by
  obtain ⟨e1, h1⟩ : ∃ e1 : Int, rangeErr a (-100000) 100000 = e1 := ⟨_, rfl⟩
  obtain ⟨e2, h2⟩ : ∃ e2 : Int, rangeErr l 0 16 = e2 := ⟨_, rfl⟩
  have KA : Hid (∀ w1 : World, Calls Tryz.prog 54 #[.int .i64 a, .int .i64 (-100000), .int .i64 100000] w1 fun e w' => e = .returned (.int .i64 e1) ∧ w1 = w') := Lib.hid fun w1 => by
    have h := checkRange_any a (-100000) 100000 w1
    rwa [h1] at h
  have KB : Hid (∀ w1 : World, Calls Tryz.prog 54 #[.int .i64 l, .int .i64 0, .int .i64 16] w1 fun e w' => e = .returned (.int .i64 e2) ∧ w1 = w') := Lib.hid fun w1 => by
    have h := checkRange_any l (0) 16 w1
    rwa [h2] at h
  unfold stepErr
  rw [h1, h2]
  obtain ⟨E, hE⟩ : ∃ E : Int, firstNZ [e1, e2] = E := ⟨_, rfl⟩
  have KF : Hid (∀ (w1 : World) (b : Nat), (∀ j, j < 2 → w1.cell? ⟨b, 0 + j, none⟩ = some (.int .i64 (([e1, e2] : List Int)[j]?.getD 0))) → Calls Tryz.prog 42 #[.slice (some ⟨b, 0, none⟩) 2 2] w1 fun e w' => e = .returned (.int .i64 E) ∧ w1 = w') := Lib.hid fun w1 b h => by
    have k := first_any b 0 2 2 [e1, e2] rfl (by omega) w1 h
    rwa [hE] at k
  rw [hE]
  clear h1 h2 hE
  obtain ⟨W0, hW0⟩ : ∃ W0, (w.alloc (.cells #[.int .i64 a, .int .i64 l] 146)) = W0 := ⟨_, rfl⟩
  have K0 : Hid (Kp w W0 [(w.heap.size, (.cells #[.int .i64 a, .int .i64 l] 146 (0, 0)))]) := Lib.hid (by
    rw [← hW0]
    have k := ((Kp.none w).alloc (.cells #[.int .i64 a, .int .i64 l] 146))
    simpa using k)
  go_enter Tryz.func108, Tryz.ntmps108
  go_upto_region 1 with fail
  try rw [hW0]
  clear hW0
  apply wp_region_gives 6 (fun w' => Blw W0.heap.size W0 w') [.pointer (some ⟨w.heap.size, 0, none⟩), .int .i64 a, .int .i64 e1, .pointer (some ⟨w.heap.size, 1, none⟩), .int .i64 l, .int .i64 e2] (by kernel_rfl) (by kernel_rfl) (by kernel_rfl) (show Below _ _ _ from (Below.refl _ _).drew)
  case haF =>
    simp [putJs, Act.put, List.range, List.range.loop]
    exact rfl
  case h =>
    have hBx := K0.out.2 _ (.head _)
    simp only [List.take_succ_cons, List.take_zero, GivesL]
    clear K0
    refine ⟨?_, ?_, ?_, ?_, ?_, ?_, trivial⟩
    all_goals
      intro w1 hw1
      obtain ⟨x_0, x_1⟩ := cells2 (((show Below _ _ _ from hw1).block _ (lt_of_blk hBx)).trans hBx)
      unfold Oper.wp
      simp only [execOp]
      go_simp <;> first
        | exact ⟨rfl, hw1⟩
        | ((with_reducible refine (KA.out _).mono ?_); rintro e w2 ⟨rfl, rfl⟩; exact ⟨rfl, hw1⟩)
        | ((with_reducible refine (KB.out _).mono ?_); rintro e w2 ⟨rfl, rfl⟩; exact ⟨rfl, hw1⟩)
  case ht =>
    intro w2 hw5
    have K2 := Lib.hid (K0.out.call (show Below _ _ _ from hw5))
    clear hw5 K0
    simp only [List.drop_succ_cons, List.drop_zero]
    go_wp2_with (first
      | (go_at_call 42; (with_reducible refine (KF.out _ _ ?_).mono ?_); rotate_left 1; rintro e w6 ⟨rfl, rfl⟩; rotate_left 1; (intro j hj; match j, hj with | 0, _ => simp [go_sem] | 1, _ => simp [go_sem])))
    go_ret
    exact ⟨rfl, (Kp.below K2.out).alloc (Kp.below K2.out).size _⟩

set_option maxRecDepth 100000 in
set_option maxHeartbeats 6400000 in
theorem stepLess_any (a l d m : Int) (w : World) :
    Calls Tryz.prog 109 #[.agg #[.int .i64 a, .int .i64 l], .agg #[.int .i64 d, .int .i64 m]] w fun e w' => e = .returned (.bool (decide (a < d))) ∧ Below w.heap.size w w' := by
  obtain ⟨bb, hbb⟩ : ∃ bb, decide (a < d) = bb := ⟨_, rfl⟩
  rw [hbb]
  go_enter Tryz.func109, Tryz.ntmps109
  go_wp2_with fail
  go_ret
  exact ⟨rfl, ((Below.refl _ _).alloc (Nat.le_refl _) _).alloc (by simp) _⟩
end Go.Proofs.YtggffhmdgceljaaGreatDoor
