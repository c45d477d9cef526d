/-
  Contract of Meets: whether the way between two turns meets a cone; and its errors.
-/
import Derived.Test.YtggffhmdgceljaaGreatDoorRows
import Derived.WalkKit
import Derived.WalkSpells
import Derived.WalkLawsBesides
import Derived.Lib.Hide
import Derived.BigQuiet
import Derived.Deep.QuietTactic
import Derived.Handy
import Derived.Deep.RegionHeld3
import Derived.Deep.RegionWith
import Derived.StillTailTactics
import Derived.RangeFuncNested
import Derived.RangeFuncBound
import Derived.RangeFuncCalls
import Derived.RangeFuncLeaves
import Derived.RangeFuncBox
import Derived.Shelf.Abstract
import Derived.Shelf.RegionOpen
import Derived.OwnWalkIn
import Derived.TacticsInMore
import Derived.LoopNIn
import Derived.LoopIn
import Derived.Maps.AppendAt
import Derived.Test.YtggffhmdgceljaaGreatDoorProg
import Derived.Laws.FloatArith
import Derived.Laws.BitsAllLaws
import Derived.Deep.DeepCutAuto
import Derived.Stop.BytesEq
import Derived.Deep.MidRow
import Derived.Laws.CopyRow
import Derived.WalkMore
import Derived.Deep.DrawnRows
import Derived.Deep.CutBlock
import Derived.Orders
import Derived.LoopTactic
import Derived.Laws.StructEq
import Derived.Deep.RegionLaw
import Derived.RegionTactic
import Derived.StillTail
import Derived.Test.YtggffhmdgceljaaGreatDoorOwaWn
import Derived.Test.YtggffhmdgceljaaGreatDoorOwaWa
import Derived.Test.YtggffhmdgceljaaGreatDoorOwaXe
import Derived.Test.YtggffhmdgceljaaGreatDoorOwaIb
import Derived.Test.YtggffhmdgceljaaGreatDoorOwaIk
import Derived.Test.YtggffhmdgceljaaGreatDoorOwaIl
import Derived.Test.YtggffhmdgceljaaGreatDoorOwaId
import Derived.Test.YtggffhmdgceljaaGreatDoorOwaIp
namespace Go.Proofs.YtggffhmdgceljaaGreatDoor
open Go.RowKit
set_option linter.unusedVariables false
set_option linter.unusedSimpArgs false

def meetsErr (x y z num den a b c d e f : Int) : Int := firstNZ [coneErr x y z num den, rayErr a b c, rayErr d e f, vectorErrL 256 x y z, vectorErrL 256 a b c, vectorErrL 256 d e f]

set_option maxRecDepth 100000 in
set_option maxHeartbeats 6400000 in
theorem meets_in1 (x y z num den a b c d e f : Int) (hb : meetsErr x y z num den a b c d e f = 0) (w : World)
    (KO : ∀ w1 : World, Calls Tryz.prog 47 #[.agg #[.int .i64 a, .int .i64 b, .int .i64 c], .agg #[.int .i64 d, .int .i64 e, .int .i64 f]] w1 fun e w' => e = .returned (.bool false) ∧ Below w1.heap.size w1 w')
    (K1 : ∀ w1 : World, Calls Tryz.prog 44 #[.agg #[.int .i64 x, .int .i64 y, .int .i64 z, .int .i64 num, .int .i64 den], .agg #[.int .i64 a, .int .i64 b, .int .i64 c]] w1 fun e w' => e = .returned (.bool true) ∧ Below w1.heap.size w1 w') :
    Calls Tryz.prog 8 #[.agg #[.int .i64 x, .int .i64 y, .int .i64 z, .int .i64 num, .int .i64 den], .agg #[.int .i64 a, .int .i64 b, .int .i64 c], .agg #[.int .i64 d, .int .i64 e, .int .i64 f]] w fun e w' => e = .returned (.tuple #[.bool true, .int .i64 0]) ∧ Below w.heap.size w w' := by
  unfold meetsErr at hb
  obtain ⟨t1, ht1⟩ : ∃ t1 : Int, coneErr x y z num den = t1 := ⟨_, rfl⟩
  obtain ⟨t2, ht2⟩ : ∃ t2 : Int, rayErr a b c = t2 := ⟨_, rfl⟩
  obtain ⟨t3, ht3⟩ : ∃ t3 : Int, rayErr d e f = t3 := ⟨_, rfl⟩
  obtain ⟨t4, ht4⟩ : ∃ t4 : Int, vectorErrL 256 x y z = t4 := ⟨_, rfl⟩
  obtain ⟨t5, ht5⟩ : ∃ t5 : Int, vectorErrL 256 a b c = t5 := ⟨_, rfl⟩
  obtain ⟨t6, ht6⟩ : ∃ t6 : Int, vectorErrL 256 d e f = t6 := ⟨_, rfl⟩
  rw [ht1, ht2, ht3, ht4, ht5, ht6] at hb
  obtain ⟨E, hE⟩ : ∃ E : Int, firstNZ [t1, t2, t3, t4, t5, t6] = E := ⟨_, rfl⟩
  rw [hE] at hb
  have KA : Hid (∀ w1 : World, Calls Tryz.prog 16 #[.agg #[.int .i64 x, .int .i64 y, .int .i64 z, .int .i64 num, .int .i64 den]] w1 fun e w' => e = .returned (.int .i64 t1) ∧ Below w1.heap.size w1 w') := Lib.hid fun w1 => by
    have h := checkCone_all x y z num den w1
    rwa [ht1] at h
  have KB : Hid (∀ w1 : World, Calls Tryz.prog 43 #[.agg #[.int .i64 a, .int .i64 b, .int .i64 c]] w1 fun e w' => e = .returned (.int .i64 t2) ∧ Below w1.heap.size w1 w') := Lib.hid fun w1 => by
    have h := checkRay_all a b c w1
    rwa [ht2] at h
  have KC : Hid (∀ w1 : World, Calls Tryz.prog 43 #[.agg #[.int .i64 d, .int .i64 e, .int .i64 f]] w1 fun e w' => e = .returned (.int .i64 t3) ∧ Below w1.heap.size w1 w') := Lib.hid fun w1 => by
    have h := checkRay_all d e f w1
    rwa [ht3] at h
  have KD : Hid (∀ w1 : World, Calls Tryz.prog 46 #[.agg #[.int .i64 x, .int .i64 y, .int .i64 z], .int .i64 256] w1 fun e w' => e = .returned (.int .i64 t4) ∧ Below w1.heap.size w1 w') := Lib.hid fun w1 => by
    have h := checkVectorL_all x y z 256 (by omega) w1
    rwa [ht4] at h
  have KE : Hid (∀ w1 : World, Calls Tryz.prog 46 #[.agg #[.int .i64 a, .int .i64 b, .int .i64 c], .int .i64 256] w1 fun e w' => e = .returned (.int .i64 t5) ∧ Below w1.heap.size w1 w') := Lib.hid fun w1 => by
    have h := checkVectorL_all a b c 256 (by omega) w1
    rwa [ht5] at h
  have KG : Hid (∀ w1 : World, Calls Tryz.prog 46 #[.agg #[.int .i64 d, .int .i64 e, .int .i64 f], .int .i64 256] w1 fun e w' => e = .returned (.int .i64 t6) ∧ Below w1.heap.size w1 w') := Lib.hid fun w1 => by
    have h := checkVectorL_all d e f 256 (by omega) w1
    rwa [ht6] at h
  have KF : Hid (∀ (w1 : World) (b : Nat), (∀ j, j < 6 → w1.cell? ⟨b, 0 + j, none⟩ = some (.int .i64 (([t1, t2, t3, t4, t5, t6] : List Int)[j]?.getD 0))) → Calls Tryz.prog 42 #[.slice (some ⟨b, 0, none⟩) 6 6] w1 fun e w' => e = .returned (.int .i64 E) ∧ w1 = w') := Lib.hid fun w1 b h => by
    have k := first_any b 0 6 6 [t1, t2, t3, t4, t5, t6] rfl (by omega) w1 h
    rwa [hE] at k
  subst hb
  clear hE ht1 ht2 ht3 ht4 ht5 ht6
  have HKO := Lib.hid KO
  have HK1 := Lib.hid K1
  clear KO K1
  obtain ⟨W0, hW0⟩ : ∃ W0, (((w.alloc (.cells #[.int .i64 x, .int .i64 y, .int .i64 z, .int .i64 num, .int .i64 den] 29)).alloc (.cells #[.int .i64 a, .int .i64 b, .int .i64 c] 23)).alloc (.cells #[.int .i64 d, .int .i64 e, .int .i64 f] 23)) = W0 := ⟨_, rfl⟩
  have K0 : Hid (Kp w W0 [(w.heap.size + 1 + 1, (.cells #[.int .i64 d, .int .i64 e, .int .i64 f] 23 (0, 0))), (w.heap.size + 1, (.cells #[.int .i64 a, .int .i64 b, .int .i64 c] 23 (0, 0))), (w.heap.size, (.cells #[.int .i64 x, .int .i64 y, .int .i64 z, .int .i64 num, .int .i64 den] 29 (0, 0)))]) := Lib.hid (by
    rw [← hW0]
    have k := ((((Kp.none w).alloc (.cells #[.int .i64 x, .int .i64 y, .int .i64 z, .int .i64 num, .int .i64 den] 29)).alloc (.cells #[.int .i64 a, .int .i64 b, .int .i64 c] 23)).alloc (.cells #[.int .i64 d, .int .i64 e, .int .i64 f] 23))
    simpa using k)
  go_enter Tryz.func8, Tryz.ntmps8
  go_upto_region 1 with fail
  try rw [hW0]
  clear hW0
  apply wp_region_gives 13 (fun w' => Blw W0.heap.size W0 w') [.agg #[.int .i64 x, .int .i64 y, .int .i64 z, .int .i64 num, .int .i64 den], .int .i64 t1, .agg #[.int .i64 a, .int .i64 b, .int .i64 c], .int .i64 t2, .agg #[.int .i64 d, .int .i64 e, .int .i64 f], .int .i64 t3, .pointer (some ⟨w.heap.size, 0, none⟩), .agg #[.int .i64 x, .int .i64 y, .int .i64 z], .int .i64 t4, .agg #[.int .i64 a, .int .i64 b, .int .i64 c], .int .i64 t5, .agg #[.int .i64 d, .int .i64 e, .int .i64 f], .int .i64 t6] (by kernel_rfl) (by kernel_rfl) (by kernel_rfl) (show Below _ _ _ from (Below.refl _ _).drew)
  case haF =>
    simp [putJs, Act.put, List.range, List.range.loop]
    exact rfl
  case h =>
    have hBx := K0.out.2 _ (.tail _ (.tail _ (.head _)))
    have hBy := K0.out.2 _ (.tail _ (.head _))
    have hBz := K0.out.2 _ (.head _)
    simp only [List.take_succ_cons, List.take_zero, GivesL]
    clear K0
    refine ⟨?_, ?_, ?_, ?_, ?_, ?_, ?_, ?_, ?_, ?_, ?_, ?_, ?_, trivial⟩
    all_goals
      intro w1 hw1
      obtain ⟨x_0, x_1, x_2, x_3, x_4⟩ := cells5 (((show Below _ _ _ from hw1).block _ (lt_of_blk hBx)).trans hBx)
      obtain ⟨y_0, y_1, y_2⟩ := cells3 (((show Below _ _ _ from hw1).block _ (lt_of_blk hBy)).trans hBy)
      obtain ⟨z_0, z_1, z_2⟩ := cells3 (((show Below _ _ _ from hw1).block _ (lt_of_blk hBz)).trans hBz)
      unfold Oper.wp
      simp only [execOp]
      go_simp <;> first
        | exact ⟨rfl, hw1⟩
        | ((with_reducible refine (KA.out _).mono ?_); rintro e w2 ⟨rfl, hb⟩; exact ⟨rfl, below_call hb hw1⟩)
        | ((with_reducible refine (KB.out _).mono ?_); rintro e w2 ⟨rfl, hb⟩; exact ⟨rfl, below_call hb hw1⟩)
        | ((with_reducible refine (KC.out _).mono ?_); rintro e w2 ⟨rfl, hb⟩; exact ⟨rfl, below_call hb hw1⟩)
        | ((with_reducible refine (KD.out _).mono ?_); rintro e w2 ⟨rfl, hb⟩; exact ⟨rfl, below_call hb hw1⟩)
        | ((with_reducible refine (KE.out _).mono ?_); rintro e w2 ⟨rfl, hb⟩; exact ⟨rfl, below_call hb hw1⟩)
        | ((with_reducible refine (KG.out _).mono ?_); rintro e w2 ⟨rfl, hb⟩; exact ⟨rfl, below_call hb hw1⟩)
  case ht =>
    intro w2 hw5
    have K2 := Lib.hid (K0.out.call (show Below _ _ _ from hw5))
    clear hw5 K0
    simp only [List.drop_succ_cons, List.drop_zero]
    clear KA KB KC KD KE KG
    go_upto_region 4 with (first
      | (go_at_call 42; (with_reducible refine (KF.out _ _ ?_).mono ?_); rotate_left 1; rintro e w6 ⟨rfl, rfl⟩; rotate_left 1; (intro j hj; match j, hj with | 0, _ => simp [go_sem] | 1, _ => simp [go_sem] | 2, _ => simp [go_sem] | 3, _ => simp [go_sem] | 4, _ => simp [go_sem] | 5, _ => simp [go_sem])))
    refine wp_world (fun w' => Kp w w' [(w.heap.size + 1 + 1, (.cells #[.int .i64 d, .int .i64 e, .int .i64 f] 23 (0, 0))), (w.heap.size + 1, (.cells #[.int .i64 a, .int .i64 b, .int .i64 c] 23 (0, 0))), (w.heap.size, (.cells #[.int .i64 x, .int .i64 y, .int .i64 z, .int .i64 num, .int .i64 den] 29 (0, 0)))]) (by exact K2.out.call ((Below.refl _ _).alloc (Nat.le_refl _) _)) fun w3 k3 => ?_
    have K3 := Lib.hid k3
    clear k3 K2 KF
    go_cut [9, 10] (fun s7 s8 wr => ∃ Bp Bq : Nat, s7 = .pointer (some ⟨Bp, 0, none⟩) ∧ s8 = .pointer (some ⟨Bq, 0, none⟩) ∧ Kp w wr [(Bp, (.cells #[.int .i64 a, .int .i64 b, .int .i64 c] 94 (0, 0))), (Bq, (.cells #[.int .i64 d, .int .i64 e, .int .i64 f] 94 (0, 0))), (w.heap.size + 1 + 1, (.cells #[.int .i64 d, .int .i64 e, .int .i64 f] 23 (0, 0))), (w.heap.size + 1, (.cells #[.int .i64 a, .int .i64 b, .int .i64 c] 23 (0, 0))), (w.heap.size, (.cells #[.int .i64 x, .int .i64 y, .int .i64 z, .int .i64 num, .int .i64 den] 29 (0, 0)))])
    case first =>
      refine two_parts (l1 := 29) (c1 := 30) (l2 := 31) (c2 := 32) (n7 := 9) (n8 := 10) (pa := 4) (pb := 5) (s := "cones.go:41") (BA := w.heap.size + 1) (BB := w.heap.size + 1 + 1)
        (by unfold Apart6; decide) (by simp) rfl rfl (by decide) (by decide) (K3.out.2 _ (.tail _ (.head _))) (K3.out.2 _ (.head _)) (fun Bp Bq wr hne h1 h2 hb h3 h4 => ?_)
      simp only [Act.put, List.setIfInBounds_toArray, List.set_cons_succ, List.set_cons_zero]
      rename_i hJ
      refine hJ _ _ ?_
      go_meet
      exact ⟨Bp, Bq, rfl, rfl, kp_two K3.out hb h3 h4⟩
    case rest =>
      rename_i hK
      obtain ⟨Bp, Bq, rfl, rfl, hk⟩ := hcut
      refine hK _ _ ?_
      clear hK K3
      have K4 := Lib.hid hk
      clear hk
      obtain ⟨x0, x1, x2⟩ := cells3 (K4.out.2 _ (.head _))
      obtain ⟨y0, y1, y2⟩ := cells3 (K4.out.2 _ (.tail _ (.head _)))
      obtain ⟨c0, c1, c2, c3, c4⟩ := cells5 (K4.out.2 _ (.tail _ (.tail _ (.tail _ (.tail _ (.head _))))))
      go_wp2_with (first
        | (go_at_call 47; (with_reducible refine (HKO.out _).mono ?_); rintro e wx5 ⟨rfl, hb⟩; have Kx5 := Lib.hid (K4.out.call hb); clear hb x0 x1 x2 y0 y1 y2 c0 c1 c2 c3 c4 K4; obtain ⟨x0, x1, x2⟩ := cells3 (Kx5.out.2 _ (.head _)); obtain ⟨y0, y1, y2⟩ := cells3 (Kx5.out.2 _ (.tail _ (.head _))); obtain ⟨c0, c1, c2, c3, c4⟩ := cells5 (Kx5.out.2 _ (.tail _ (.tail _ (.tail _ (.tail _ (.head _)))))))
        | (go_at_call 44; (with_reducible refine (HK1.out _).mono ?_); rintro e wx6 ⟨rfl, hb⟩; have Kx6 := Lib.hid (Kx5.out.call hb); clear hb x0 x1 x2 y0 y1 y2 c0 c1 c2 c3 c4 Kx5; obtain ⟨x0, x1, x2⟩ := cells3 (Kx6.out.2 _ (.head _)); obtain ⟨y0, y1, y2⟩ := cells3 (Kx6.out.2 _ (.tail _ (.head _))); obtain ⟨c0, c1, c2, c3, c4⟩ := cells5 (Kx6.out.2 _ (.tail _ (.tail _ (.tail _ (.tail _ (.head _))))))))
      go_ret2
      exact ⟨rfl, Kp.below Kx6.out⟩

set_option maxRecDepth 100000 in
set_option maxHeartbeats 6400000 in
theorem meets_in2 (x y z num den a b c d e f : Int) (hb : meetsErr x y z num den a b c d e f = 0) (w : World)
    (KO : ∀ w1 : World, Calls Tryz.prog 47 #[.agg #[.int .i64 a, .int .i64 b, .int .i64 c], .agg #[.int .i64 d, .int .i64 e, .int .i64 f]] w1 fun e w' => e = .returned (.bool false) ∧ Below w1.heap.size w1 w')
    (K1 : ∀ w1 : World, Calls Tryz.prog 44 #[.agg #[.int .i64 x, .int .i64 y, .int .i64 z, .int .i64 num, .int .i64 den], .agg #[.int .i64 a, .int .i64 b, .int .i64 c]] w1 fun e w' => e = .returned (.bool false) ∧ Below w1.heap.size w1 w')
    (K2 : ∀ w1 : World, Calls Tryz.prog 44 #[.agg #[.int .i64 x, .int .i64 y, .int .i64 z, .int .i64 num, .int .i64 den], .agg #[.int .i64 d, .int .i64 e, .int .i64 f]] w1 fun e w' => e = .returned (.bool true) ∧ Below w1.heap.size w1 w') :
    Calls Tryz.prog 8 #[.agg #[.int .i64 x, .int .i64 y, .int .i64 z, .int .i64 num, .int .i64 den], .agg #[.int .i64 a, .int .i64 b, .int .i64 c], .agg #[.int .i64 d, .int .i64 e, .int .i64 f]] w fun e w' => e = .returned (.tuple #[.bool true, .int .i64 0]) ∧ Below w.heap.size w w' := by
  unfold meetsErr at hb
  obtain ⟨t1, ht1⟩ : ∃ t1 : Int, coneErr x y z num den = t1 := ⟨_, rfl⟩
  obtain ⟨t2, ht2⟩ : ∃ t2 : Int, rayErr a b c = t2 := ⟨_, rfl⟩
  obtain ⟨t3, ht3⟩ : ∃ t3 : Int, rayErr d e f = t3 := ⟨_, rfl⟩
  obtain ⟨t4, ht4⟩ : ∃ t4 : Int, vectorErrL 256 x y z = t4 := ⟨_, rfl⟩
  obtain ⟨t5, ht5⟩ : ∃ t5 : Int, vectorErrL 256 a b c = t5 := ⟨_, rfl⟩
  obtain ⟨t6, ht6⟩ : ∃ t6 : Int, vectorErrL 256 d e f = t6 := ⟨_, rfl⟩
  rw [ht1, ht2, ht3, ht4, ht5, ht6] at hb
  obtain ⟨E, hE⟩ : ∃ E : Int, firstNZ [t1, t2, t3, t4, t5, t6] = E := ⟨_, rfl⟩
  rw [hE] at hb
  have KA : Hid (∀ w1 : World, Calls Tryz.prog 16 #[.agg #[.int .i64 x, .int .i64 y, .int .i64 z, .int .i64 num, .int .i64 den]] w1 fun e w' => e = .returned (.int .i64 t1) ∧ Below w1.heap.size w1 w') := Lib.hid fun w1 => by
    have h := checkCone_all x y z num den w1
    rwa [ht1] at h
  have KB : Hid (∀ w1 : World, Calls Tryz.prog 43 #[.agg #[.int .i64 a, .int .i64 b, .int .i64 c]] w1 fun e w' => e = .returned (.int .i64 t2) ∧ Below w1.heap.size w1 w') := Lib.hid fun w1 => by
    have h := checkRay_all a b c w1
    rwa [ht2] at h
  have KC : Hid (∀ w1 : World, Calls Tryz.prog 43 #[.agg #[.int .i64 d, .int .i64 e, .int .i64 f]] w1 fun e w' => e = .returned (.int .i64 t3) ∧ Below w1.heap.size w1 w') := Lib.hid fun w1 => by
    have h := checkRay_all d e f w1
    rwa [ht3] at h
  have KD : Hid (∀ w1 : World, Calls Tryz.prog 46 #[.agg #[.int .i64 x, .int .i64 y, .int .i64 z], .int .i64 256] w1 fun e w' => e = .returned (.int .i64 t4) ∧ Below w1.heap.size w1 w') := Lib.hid fun w1 => by
    have h := checkVectorL_all x y z 256 (by omega) w1
    rwa [ht4] at h
  have KE : Hid (∀ w1 : World, Calls Tryz.prog 46 #[.agg #[.int .i64 a, .int .i64 b, .int .i64 c], .int .i64 256] w1 fun e w' => e = .returned (.int .i64 t5) ∧ Below w1.heap.size w1 w') := Lib.hid fun w1 => by
    have h := checkVectorL_all a b c 256 (by omega) w1
    rwa [ht5] at h
  have KG : Hid (∀ w1 : World, Calls Tryz.prog 46 #[.agg #[.int .i64 d, .int .i64 e, .int .i64 f], .int .i64 256] w1 fun e w' => e = .returned (.int .i64 t6) ∧ Below w1.heap.size w1 w') := Lib.hid fun w1 => by
    have h := checkVectorL_all d e f 256 (by omega) w1
    rwa [ht6] at h
  have KF : Hid (∀ (w1 : World) (b : Nat), (∀ j, j < 6 → w1.cell? ⟨b, 0 + j, none⟩ = some (.int .i64 (([t1, t2, t3, t4, t5, t6] : List Int)[j]?.getD 0))) → Calls Tryz.prog 42 #[.slice (some ⟨b, 0, none⟩) 6 6] w1 fun e w' => e = .returned (.int .i64 E) ∧ w1 = w') := Lib.hid fun w1 b h => by
    have k := first_any b 0 6 6 [t1, t2, t3, t4, t5, t6] rfl (by omega) w1 h
    rwa [hE] at k
  subst hb
  clear hE ht1 ht2 ht3 ht4 ht5 ht6
  have HKO := Lib.hid KO
  have HK1 := Lib.hid K1
  have HK2 := Lib.hid K2
  clear KO K1 K2
  obtain ⟨W0, hW0⟩ : ∃ W0, (((w.alloc (.cells #[.int .i64 x, .int .i64 y, .int .i64 z, .int .i64 num, .int .i64 den] 29)).alloc (.cells #[.int .i64 a, .int .i64 b, .int .i64 c] 23)).alloc (.cells #[.int .i64 d, .int .i64 e, .int .i64 f] 23)) = W0 := ⟨_, rfl⟩
  have K0 : Hid (Kp w W0 [(w.heap.size + 1 + 1, (.cells #[.int .i64 d, .int .i64 e, .int .i64 f] 23 (0, 0))), (w.heap.size + 1, (.cells #[.int .i64 a, .int .i64 b, .int .i64 c] 23 (0, 0))), (w.heap.size, (.cells #[.int .i64 x, .int .i64 y, .int .i64 z, .int .i64 num, .int .i64 den] 29 (0, 0)))]) := Lib.hid (by
    rw [← hW0]
    have k := ((((Kp.none w).alloc (.cells #[.int .i64 x, .int .i64 y, .int .i64 z, .int .i64 num, .int .i64 den] 29)).alloc (.cells #[.int .i64 a, .int .i64 b, .int .i64 c] 23)).alloc (.cells #[.int .i64 d, .int .i64 e, .int .i64 f] 23))
    simpa using k)
  go_enter Tryz.func8, Tryz.ntmps8
  go_upto_region 1 with fail
  try rw [hW0]
  clear hW0
  apply wp_region_gives 13 (fun w' => Blw W0.heap.size W0 w') [.agg #[.int .i64 x, .int .i64 y, .int .i64 z, .int .i64 num, .int .i64 den], .int .i64 t1, .agg #[.int .i64 a, .int .i64 b, .int .i64 c], .int .i64 t2, .agg #[.int .i64 d, .int .i64 e, .int .i64 f], .int .i64 t3, .pointer (some ⟨w.heap.size, 0, none⟩), .agg #[.int .i64 x, .int .i64 y, .int .i64 z], .int .i64 t4, .agg #[.int .i64 a, .int .i64 b, .int .i64 c], .int .i64 t5, .agg #[.int .i64 d, .int .i64 e, .int .i64 f], .int .i64 t6] (by kernel_rfl) (by kernel_rfl) (by kernel_rfl) (show Below _ _ _ from (Below.refl _ _).drew)
  case haF =>
    simp [putJs, Act.put, List.range, List.range.loop]
    exact rfl
  case h =>
    have hBx := K0.out.2 _ (.tail _ (.tail _ (.head _)))
    have hBy := K0.out.2 _ (.tail _ (.head _))
    have hBz := K0.out.2 _ (.head _)
    simp only [List.take_succ_cons, List.take_zero, GivesL]
    clear K0
    refine ⟨?_, ?_, ?_, ?_, ?_, ?_, ?_, ?_, ?_, ?_, ?_, ?_, ?_, trivial⟩
    all_goals
      intro w1 hw1
      obtain ⟨x_0, x_1, x_2, x_3, x_4⟩ := cells5 (((show Below _ _ _ from hw1).block _ (lt_of_blk hBx)).trans hBx)
      obtain ⟨y_0, y_1, y_2⟩ := cells3 (((show Below _ _ _ from hw1).block _ (lt_of_blk hBy)).trans hBy)
      obtain ⟨z_0, z_1, z_2⟩ := cells3 (((show Below _ _ _ from hw1).block _ (lt_of_blk hBz)).trans hBz)
      unfold Oper.wp
      simp only [execOp]
      go_simp <;> first
        | exact ⟨rfl, hw1⟩
        | ((with_reducible refine (KA.out _).mono ?_); rintro e w2 ⟨rfl, hb⟩; exact ⟨rfl, below_call hb hw1⟩)
        | ((with_reducible refine (KB.out _).mono ?_); rintro e w2 ⟨rfl, hb⟩; exact ⟨rfl, below_call hb hw1⟩)
        | ((with_reducible refine (KC.out _).mono ?_); rintro e w2 ⟨rfl, hb⟩; exact ⟨rfl, below_call hb hw1⟩)
        | ((with_reducible refine (KD.out _).mono ?_); rintro e w2 ⟨rfl, hb⟩; exact ⟨rfl, below_call hb hw1⟩)
        | ((with_reducible refine (KE.out _).mono ?_); rintro e w2 ⟨rfl, hb⟩; exact ⟨rfl, below_call hb hw1⟩)
        | ((with_reducible refine (KG.out _).mono ?_); rintro e w2 ⟨rfl, hb⟩; exact ⟨rfl, below_call hb hw1⟩)
  case ht =>
    intro w2 hw5
    have K2 := Lib.hid (K0.out.call (show Below _ _ _ from hw5))
    clear hw5 K0
    simp only [List.drop_succ_cons, List.drop_zero]
    clear KA KB KC KD KE KG
    go_upto_region 4 with (first
      | (go_at_call 42; (with_reducible refine (KF.out _ _ ?_).mono ?_); rotate_left 1; rintro e w6 ⟨rfl, rfl⟩; rotate_left 1; (intro j hj; match j, hj with | 0, _ => simp [go_sem] | 1, _ => simp [go_sem] | 2, _ => simp [go_sem] | 3, _ => simp [go_sem] | 4, _ => simp [go_sem] | 5, _ => simp [go_sem])))
    refine wp_world (fun w' => Kp w w' [(w.heap.size + 1 + 1, (.cells #[.int .i64 d, .int .i64 e, .int .i64 f] 23 (0, 0))), (w.heap.size + 1, (.cells #[.int .i64 a, .int .i64 b, .int .i64 c] 23 (0, 0))), (w.heap.size, (.cells #[.int .i64 x, .int .i64 y, .int .i64 z, .int .i64 num, .int .i64 den] 29 (0, 0)))]) (by exact K2.out.call ((Below.refl _ _).alloc (Nat.le_refl _) _)) fun w3 k3 => ?_
    have K3 := Lib.hid k3
    clear k3 K2 KF
    go_cut [9, 10] (fun s7 s8 wr => ∃ Bp Bq : Nat, s7 = .pointer (some ⟨Bp, 0, none⟩) ∧ s8 = .pointer (some ⟨Bq, 0, none⟩) ∧ Kp w wr [(Bp, (.cells #[.int .i64 a, .int .i64 b, .int .i64 c] 94 (0, 0))), (Bq, (.cells #[.int .i64 d, .int .i64 e, .int .i64 f] 94 (0, 0))), (w.heap.size + 1 + 1, (.cells #[.int .i64 d, .int .i64 e, .int .i64 f] 23 (0, 0))), (w.heap.size + 1, (.cells #[.int .i64 a, .int .i64 b, .int .i64 c] 23 (0, 0))), (w.heap.size, (.cells #[.int .i64 x, .int .i64 y, .int .i64 z, .int .i64 num, .int .i64 den] 29 (0, 0)))])
    case first =>
      refine two_parts (l1 := 29) (c1 := 30) (l2 := 31) (c2 := 32) (n7 := 9) (n8 := 10) (pa := 4) (pb := 5) (s := "cones.go:41") (BA := w.heap.size + 1) (BB := w.heap.size + 1 + 1)
        (by unfold Apart6; decide) (by simp) rfl rfl (by decide) (by decide) (K3.out.2 _ (.tail _ (.head _))) (K3.out.2 _ (.head _)) (fun Bp Bq wr hne h1 h2 hb h3 h4 => ?_)
      simp only [Act.put, List.setIfInBounds_toArray, List.set_cons_succ, List.set_cons_zero]
      rename_i hJ
      refine hJ _ _ ?_
      go_meet
      exact ⟨Bp, Bq, rfl, rfl, kp_two K3.out hb h3 h4⟩
    case rest =>
      rename_i hK
      obtain ⟨Bp, Bq, rfl, rfl, hk⟩ := hcut
      refine hK _ _ ?_
      clear hK K3
      have K4 := Lib.hid hk
      clear hk
      obtain ⟨x0, x1, x2⟩ := cells3 (K4.out.2 _ (.head _))
      obtain ⟨y0, y1, y2⟩ := cells3 (K4.out.2 _ (.tail _ (.head _)))
      obtain ⟨c0, c1, c2, c3, c4⟩ := cells5 (K4.out.2 _ (.tail _ (.tail _ (.tail _ (.tail _ (.head _))))))
      go_wp2_with (first
        | (go_at_call 47; (with_reducible refine (HKO.out _).mono ?_); rintro e wx5 ⟨rfl, hb⟩; have Kx5 := Lib.hid (K4.out.call hb); clear hb x0 x1 x2 y0 y1 y2 c0 c1 c2 c3 c4 K4; obtain ⟨x0, x1, x2⟩ := cells3 (Kx5.out.2 _ (.head _)); obtain ⟨y0, y1, y2⟩ := cells3 (Kx5.out.2 _ (.tail _ (.head _))); obtain ⟨c0, c1, c2, c3, c4⟩ := cells5 (Kx5.out.2 _ (.tail _ (.tail _ (.tail _ (.tail _ (.head _)))))))
        | (go_at_call 44; (with_reducible refine (HK1.out _).mono ?_); rintro e wx6 ⟨rfl, hb⟩; have Kx6 := Lib.hid (Kx5.out.call hb); clear hb x0 x1 x2 y0 y1 y2 c0 c1 c2 c3 c4 Kx5; obtain ⟨x0, x1, x2⟩ := cells3 (Kx6.out.2 _ (.head _)); obtain ⟨y0, y1, y2⟩ := cells3 (Kx6.out.2 _ (.tail _ (.head _))); obtain ⟨c0, c1, c2, c3, c4⟩ := cells5 (Kx6.out.2 _ (.tail _ (.tail _ (.tail _ (.tail _ (.head _)))))))
        | (go_at_call 44; (with_reducible refine (HK2.out _).mono ?_); rintro e wx7 ⟨rfl, hb⟩; have Kx7 := Lib.hid (Kx6.out.call hb); clear hb x0 x1 x2 y0 y1 y2 c0 c1 c2 c3 c4 Kx6; obtain ⟨x0, x1, x2⟩ := cells3 (Kx7.out.2 _ (.head _)); obtain ⟨y0, y1, y2⟩ := cells3 (Kx7.out.2 _ (.tail _ (.head _))); obtain ⟨c0, c1, c2, c3, c4⟩ := cells5 (Kx7.out.2 _ (.tail _ (.tail _ (.tail _ (.tail _ (.head _))))))))
      go_ret2
      exact ⟨rfl, Kp.below Kx7.out⟩

set_option maxRecDepth 100000 in
set_option maxHeartbeats 6400000 in
theorem meets_pass (x y z num den a b c d e f : Int) (hb : meetsErr x y z num den a b c d e f = 0) (b3 : Bool) (w : World)
    (KO : ∀ w1 : World, Calls Tryz.prog 47 #[.agg #[.int .i64 a, .int .i64 b, .int .i64 c], .agg #[.int .i64 d, .int .i64 e, .int .i64 f]] w1 fun e w' => e = .returned (.bool false) ∧ Below w1.heap.size w1 w')
    (K1 : ∀ w1 : World, Calls Tryz.prog 44 #[.agg #[.int .i64 x, .int .i64 y, .int .i64 z, .int .i64 num, .int .i64 den], .agg #[.int .i64 a, .int .i64 b, .int .i64 c]] w1 fun e w' => e = .returned (.bool false) ∧ Below w1.heap.size w1 w')
    (K2 : ∀ w1 : World, Calls Tryz.prog 44 #[.agg #[.int .i64 x, .int .i64 y, .int .i64 z, .int .i64 num, .int .i64 den], .agg #[.int .i64 d, .int .i64 e, .int .i64 f]] w1 fun e w' => e = .returned (.bool false) ∧ Below w1.heap.size w1 w')
    (K9 : ∀ w1 : World, Calls Tryz.prog 48 #[.agg #[.int .i64 x, .int .i64 y, .int .i64 z, .int .i64 num, .int .i64 den], .agg #[.int .i64 a, .int .i64 b, .int .i64 c], .agg #[.int .i64 d, .int .i64 e, .int .i64 f]] w1 fun e w' => e = .returned (.bool b3) ∧ Below w1.heap.size w1 w') :
    Calls Tryz.prog 8 #[.agg #[.int .i64 x, .int .i64 y, .int .i64 z, .int .i64 num, .int .i64 den], .agg #[.int .i64 a, .int .i64 b, .int .i64 c], .agg #[.int .i64 d, .int .i64 e, .int .i64 f]] w fun e w' => e = .returned (.tuple #[.bool b3, .int .i64 0]) ∧ Below w.heap.size w w' := by
  unfold meetsErr at hb
  obtain ⟨t1, ht1⟩ : ∃ t1 : Int, coneErr x y z num den = t1 := ⟨_, rfl⟩
  obtain ⟨t2, ht2⟩ : ∃ t2 : Int, rayErr a b c = t2 := ⟨_, rfl⟩
  obtain ⟨t3, ht3⟩ : ∃ t3 : Int, rayErr d e f = t3 := ⟨_, rfl⟩
  obtain ⟨t4, ht4⟩ : ∃ t4 : Int, vectorErrL 256 x y z = t4 := ⟨_, rfl⟩
  obtain ⟨t5, ht5⟩ : ∃ t5 : Int, vectorErrL 256 a b c = t5 := ⟨_, rfl⟩
  obtain ⟨t6, ht6⟩ : ∃ t6 : Int, vectorErrL 256 d e f = t6 := ⟨_, rfl⟩
  rw [ht1, ht2, ht3, ht4, ht5, ht6] at hb
  obtain ⟨E, hE⟩ : ∃ E : Int, firstNZ [t1, t2, t3, t4, t5, t6] = E := ⟨_, rfl⟩
  rw [hE] at hb
  have KA : Hid (∀ w1 : World, Calls Tryz.prog 16 #[.agg #[.int .i64 x, .int .i64 y, .int .i64 z, .int .i64 num, .int .i64 den]] w1 fun e w' => e = .returned (.int .i64 t1) ∧ Below w1.heap.size w1 w') := Lib.hid fun w1 => by
    have h := checkCone_all x y z num den w1
    rwa [ht1] at h
  have KB : Hid (∀ w1 : World, Calls Tryz.prog 43 #[.agg #[.int .i64 a, .int .i64 b, .int .i64 c]] w1 fun e w' => e = .returned (.int .i64 t2) ∧ Below w1.heap.size w1 w') := Lib.hid fun w1 => by
    have h := checkRay_all a b c w1
    rwa [ht2] at h
  have KC : Hid (∀ w1 : World, Calls Tryz.prog 43 #[.agg #[.int .i64 d, .int .i64 e, .int .i64 f]] w1 fun e w' => e = .returned (.int .i64 t3) ∧ Below w1.heap.size w1 w') := Lib.hid fun w1 => by
    have h := checkRay_all d e f w1
    rwa [ht3] at h
  have KD : Hid (∀ w1 : World, Calls Tryz.prog 46 #[.agg #[.int .i64 x, .int .i64 y, .int .i64 z], .int .i64 256] w1 fun e w' => e = .returned (.int .i64 t4) ∧ Below w1.heap.size w1 w') := Lib.hid fun w1 => by
    have h := checkVectorL_all x y z 256 (by omega) w1
    rwa [ht4] at h
  have KE : Hid (∀ w1 : World, Calls Tryz.prog 46 #[.agg #[.int .i64 a, .int .i64 b, .int .i64 c], .int .i64 256] w1 fun e w' => e = .returned (.int .i64 t5) ∧ Below w1.heap.size w1 w') := Lib.hid fun w1 => by
    have h := checkVectorL_all a b c 256 (by omega) w1
    rwa [ht5] at h
  have KG : Hid (∀ w1 : World, Calls Tryz.prog 46 #[.agg #[.int .i64 d, .int .i64 e, .int .i64 f], .int .i64 256] w1 fun e w' => e = .returned (.int .i64 t6) ∧ Below w1.heap.size w1 w') := Lib.hid fun w1 => by
    have h := checkVectorL_all d e f 256 (by omega) w1
    rwa [ht6] at h
  have KF : Hid (∀ (w1 : World) (b : Nat), (∀ j, j < 6 → w1.cell? ⟨b, 0 + j, none⟩ = some (.int .i64 (([t1, t2, t3, t4, t5, t6] : List Int)[j]?.getD 0))) → Calls Tryz.prog 42 #[.slice (some ⟨b, 0, none⟩) 6 6] w1 fun e w' => e = .returned (.int .i64 E) ∧ w1 = w') := Lib.hid fun w1 b h => by
    have k := first_any b 0 6 6 [t1, t2, t3, t4, t5, t6] rfl (by omega) w1 h
    rwa [hE] at k
  subst hb
  clear hE ht1 ht2 ht3 ht4 ht5 ht6
  have HKO := Lib.hid KO
  have HK1 := Lib.hid K1
  have HK2 := Lib.hid K2
  have HK9 := Lib.hid K9
  clear KO K1 K2 K9
  obtain ⟨W0, hW0⟩ : ∃ W0, (((w.alloc (.cells #[.int .i64 x, .int .i64 y, .int .i64 z, .int .i64 num, .int .i64 den] 29)).alloc (.cells #[.int .i64 a, .int .i64 b, .int .i64 c] 23)).alloc (.cells #[.int .i64 d, .int .i64 e, .int .i64 f] 23)) = W0 := ⟨_, rfl⟩
  have K0 : Hid (Kp w W0 [(w.heap.size + 1 + 1, (.cells #[.int .i64 d, .int .i64 e, .int .i64 f] 23 (0, 0))), (w.heap.size + 1, (.cells #[.int .i64 a, .int .i64 b, .int .i64 c] 23 (0, 0))), (w.heap.size, (.cells #[.int .i64 x, .int .i64 y, .int .i64 z, .int .i64 num, .int .i64 den] 29 (0, 0)))]) := Lib.hid (by
    rw [← hW0]
    have k := ((((Kp.none w).alloc (.cells #[.int .i64 x, .int .i64 y, .int .i64 z, .int .i64 num, .int .i64 den] 29)).alloc (.cells #[.int .i64 a, .int .i64 b, .int .i64 c] 23)).alloc (.cells #[.int .i64 d, .int .i64 e, .int .i64 f] 23))
    simpa using k)
  go_enter Tryz.func8, Tryz.ntmps8
  go_upto_region 1 with fail
  try rw [hW0]
  clear hW0
  apply wp_region_gives 13 (fun w' => Blw W0.heap.size W0 w') [.agg #[.int .i64 x, .int .i64 y, .int .i64 z, .int .i64 num, .int .i64 den], .int .i64 t1, .agg #[.int .i64 a, .int .i64 b, .int .i64 c], .int .i64 t2, .agg #[.int .i64 d, .int .i64 e, .int .i64 f], .int .i64 t3, .pointer (some ⟨w.heap.size, 0, none⟩), .agg #[.int .i64 x, .int .i64 y, .int .i64 z], .int .i64 t4, .agg #[.int .i64 a, .int .i64 b, .int .i64 c], .int .i64 t5, .agg #[.int .i64 d, .int .i64 e, .int .i64 f], .int .i64 t6] (by kernel_rfl) (by kernel_rfl) (by kernel_rfl) (show Below _ _ _ from (Below.refl _ _).drew)
  case haF =>
    simp [putJs, Act.put, List.range, List.range.loop]
    exact rfl
  case h =>
    have hBx := K0.out.2 _ (.tail _ (.tail _ (.head _)))
    have hBy := K0.out.2 _ (.tail _ (.head _))
    have hBz := K0.out.2 _ (.head _)
    simp only [List.take_succ_cons, List.take_zero, GivesL]
    clear K0
    refine ⟨?_, ?_, ?_, ?_, ?_, ?_, ?_, ?_, ?_, ?_, ?_, ?_, ?_, trivial⟩
    all_goals
      intro w1 hw1
      obtain ⟨x_0, x_1, x_2, x_3, x_4⟩ := cells5 (((show Below _ _ _ from hw1).block _ (lt_of_blk hBx)).trans hBx)
      obtain ⟨y_0, y_1, y_2⟩ := cells3 (((show Below _ _ _ from hw1).block _ (lt_of_blk hBy)).trans hBy)
      obtain ⟨z_0, z_1, z_2⟩ := cells3 (((show Below _ _ _ from hw1).block _ (lt_of_blk hBz)).trans hBz)
      unfold Oper.wp
      simp only [execOp]
      go_simp <;> first
        | exact ⟨rfl, hw1⟩
        | ((with_reducible refine (KA.out _).mono ?_); rintro e w2 ⟨rfl, hb⟩; exact ⟨rfl, below_call hb hw1⟩)
        | ((with_reducible refine (KB.out _).mono ?_); rintro e w2 ⟨rfl, hb⟩; exact ⟨rfl, below_call hb hw1⟩)
        | ((with_reducible refine (KC.out _).mono ?_); rintro e w2 ⟨rfl, hb⟩; exact ⟨rfl, below_call hb hw1⟩)
        | ((with_reducible refine (KD.out _).mono ?_); rintro e w2 ⟨rfl, hb⟩; exact ⟨rfl, below_call hb hw1⟩)
        | ((with_reducible refine (KE.out _).mono ?_); rintro e w2 ⟨rfl, hb⟩; exact ⟨rfl, below_call hb hw1⟩)
        | ((with_reducible refine (KG.out _).mono ?_); rintro e w2 ⟨rfl, hb⟩; exact ⟨rfl, below_call hb hw1⟩)
  case ht =>
    intro w2 hw5
    have K2 := Lib.hid (K0.out.call (show Below _ _ _ from hw5))
    clear hw5 K0
    simp only [List.drop_succ_cons, List.drop_zero]
    clear KA KB KC KD KE KG
    go_upto_region 4 with (first
      | (go_at_call 42; (with_reducible refine (KF.out _ _ ?_).mono ?_); rotate_left 1; rintro e w6 ⟨rfl, rfl⟩; rotate_left 1; (intro j hj; match j, hj with | 0, _ => simp [go_sem] | 1, _ => simp [go_sem] | 2, _ => simp [go_sem] | 3, _ => simp [go_sem] | 4, _ => simp [go_sem] | 5, _ => simp [go_sem])))
    refine wp_world (fun w' => Kp w w' [(w.heap.size + 1 + 1, (.cells #[.int .i64 d, .int .i64 e, .int .i64 f] 23 (0, 0))), (w.heap.size + 1, (.cells #[.int .i64 a, .int .i64 b, .int .i64 c] 23 (0, 0))), (w.heap.size, (.cells #[.int .i64 x, .int .i64 y, .int .i64 z, .int .i64 num, .int .i64 den] 29 (0, 0)))]) (by exact K2.out.call ((Below.refl _ _).alloc (Nat.le_refl _) _)) fun w3 k3 => ?_
    have K3 := Lib.hid k3
    clear k3 K2 KF
    go_cut [9, 10] (fun s7 s8 wr => ∃ Bp Bq : Nat, s7 = .pointer (some ⟨Bp, 0, none⟩) ∧ s8 = .pointer (some ⟨Bq, 0, none⟩) ∧ Kp w wr [(Bp, (.cells #[.int .i64 a, .int .i64 b, .int .i64 c] 94 (0, 0))), (Bq, (.cells #[.int .i64 d, .int .i64 e, .int .i64 f] 94 (0, 0))), (w.heap.size + 1 + 1, (.cells #[.int .i64 d, .int .i64 e, .int .i64 f] 23 (0, 0))), (w.heap.size + 1, (.cells #[.int .i64 a, .int .i64 b, .int .i64 c] 23 (0, 0))), (w.heap.size, (.cells #[.int .i64 x, .int .i64 y, .int .i64 z, .int .i64 num, .int .i64 den] 29 (0, 0)))])
    case first =>
      refine two_parts (l1 := 29) (c1 := 30) (l2 := 31) (c2 := 32) (n7 := 9) (n8 := 10) (pa := 4) (pb := 5) (s := "cones.go:41") (BA := w.heap.size + 1) (BB := w.heap.size + 1 + 1)
        (by unfold Apart6; decide) (by simp) rfl rfl (by decide) (by decide) (K3.out.2 _ (.tail _ (.head _))) (K3.out.2 _ (.head _)) (fun Bp Bq wr hne h1 h2 hb h3 h4 => ?_)
      simp only [Act.put, List.setIfInBounds_toArray, List.set_cons_succ, List.set_cons_zero]
      rename_i hJ
      refine hJ _ _ ?_
      go_meet
      exact ⟨Bp, Bq, rfl, rfl, kp_two K3.out hb h3 h4⟩
    case rest =>
      rename_i hK
      obtain ⟨Bp, Bq, rfl, rfl, hk⟩ := hcut
      refine hK _ _ ?_
      clear hK K3
      have K4 := Lib.hid hk
      clear hk
      obtain ⟨x0, x1, x2⟩ := cells3 (K4.out.2 _ (.head _))
      obtain ⟨y0, y1, y2⟩ := cells3 (K4.out.2 _ (.tail _ (.head _)))
      obtain ⟨c0, c1, c2, c3, c4⟩ := cells5 (K4.out.2 _ (.tail _ (.tail _ (.tail _ (.tail _ (.head _))))))
      go_wp2_with (first
        | (go_at_call 47; (with_reducible refine (HKO.out _).mono ?_); rintro e wx5 ⟨rfl, hb⟩; have Kx5 := Lib.hid (K4.out.call hb); clear hb x0 x1 x2 y0 y1 y2 c0 c1 c2 c3 c4 K4; obtain ⟨x0, x1, x2⟩ := cells3 (Kx5.out.2 _ (.head _)); obtain ⟨y0, y1, y2⟩ := cells3 (Kx5.out.2 _ (.tail _ (.head _))); obtain ⟨c0, c1, c2, c3, c4⟩ := cells5 (Kx5.out.2 _ (.tail _ (.tail _ (.tail _ (.tail _ (.head _)))))))
        | (go_at_call 44; (with_reducible refine (HK1.out _).mono ?_); rintro e wx6 ⟨rfl, hb⟩; have Kx6 := Lib.hid (Kx5.out.call hb); clear hb x0 x1 x2 y0 y1 y2 c0 c1 c2 c3 c4 Kx5; obtain ⟨x0, x1, x2⟩ := cells3 (Kx6.out.2 _ (.head _)); obtain ⟨y0, y1, y2⟩ := cells3 (Kx6.out.2 _ (.tail _ (.head _))); obtain ⟨c0, c1, c2, c3, c4⟩ := cells5 (Kx6.out.2 _ (.tail _ (.tail _ (.tail _ (.tail _ (.head _)))))))
        | (go_at_call 44; (with_reducible refine (HK2.out _).mono ?_); rintro e wx7 ⟨rfl, hb⟩; have Kx7 := Lib.hid (Kx6.out.call hb); clear hb x0 x1 x2 y0 y1 y2 c0 c1 c2 c3 c4 Kx6; obtain ⟨x0, x1, x2⟩ := cells3 (Kx7.out.2 _ (.head _)); obtain ⟨y0, y1, y2⟩ := cells3 (Kx7.out.2 _ (.tail _ (.head _))); obtain ⟨c0, c1, c2, c3, c4⟩ := cells5 (Kx7.out.2 _ (.tail _ (.tail _ (.tail _ (.tail _ (.head _)))))))
        | (go_at_call 48; (with_reducible refine (HK9.out _).mono ?_); rintro e wx8 ⟨rfl, hb⟩; have Kx8 := Lib.hid (Kx7.out.call hb); clear hb x0 x1 x2 y0 y1 y2 c0 c1 c2 c3 c4 Kx7; obtain ⟨x0, x1, x2⟩ := cells3 (Kx8.out.2 _ (.head _)); obtain ⟨y0, y1, y2⟩ := cells3 (Kx8.out.2 _ (.tail _ (.head _))); obtain ⟨c0, c1, c2, c3, c4⟩ := cells5 (Kx8.out.2 _ (.tail _ (.tail _ (.tail _ (.tail _ (.head _))))))))
      go_ret2
      exact ⟨rfl, Kp.below Kx8.out⟩
end Go.Proofs.YtggffhmdgceljaaGreatDoor
