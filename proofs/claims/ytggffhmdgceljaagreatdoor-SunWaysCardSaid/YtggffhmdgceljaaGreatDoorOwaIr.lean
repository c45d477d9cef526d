/-
  Contract of passes: whether the projection of an axis lies between two turns and is inside of a cone.
-/
import Derived.Test.YtggffhmdgceljaaGreatDoorRows
import Derived.WalkKit
import Derived.WalkSpells
import Derived.WalkLawsBesides
import Derived.Lib.Hide
import Derived.BigQuiet
import Derived.Deep.QuietTactic
import Derived.Handy
import Derived.Deep.RegionHeld3
import Derived.Deep.RegionWith
import Derived.StillTailTactics
import Derived.RangeFuncNested
import Derived.RangeFuncBound
import Derived.RangeFuncCalls
import Derived.RangeFuncLeaves
import Derived.RangeFuncBox
import Derived.Shelf.Abstract
import Derived.Shelf.RegionOpen
import Derived.OwnWalkIn
import Derived.TacticsInMore
import Derived.LoopNIn
import Derived.LoopIn
import Derived.Maps.AppendAt
import Derived.Test.YtggffhmdgceljaaGreatDoorProg
import Derived.Laws.FloatArith
import Derived.Laws.BitsAllLaws
import Derived.Deep.DeepCutAuto
import Derived.Stop.BytesEq
import Derived.Deep.MidRow
import Derived.Laws.CopyRow
import Derived.WalkMore
import Derived.Deep.DrawnRows
import Derived.Deep.CutBlock
import Derived.Orders
import Derived.LoopTactic
import Derived.Laws.StructEq
import Derived.Deep.RegionLaw
import Derived.RegionTactic
import Derived.StillTail
import Derived.Test.YtggffhmdgceljaaGreatDoorOwaWn
import Derived.Test.YtggffhmdgceljaaGreatDoorOwaXe
import Derived.Test.YtggffhmdgceljaaGreatDoorOwaWa
import Derived.Test.YtggffhmdgceljaaGreatDoorOwaIb
import Derived.Test.YtggffhmdgceljaaGreatDoorOwaIl
import Derived.Test.YtggffhmdgceljaaGreatDoorOwaId
import Derived.Test.YtggffhmdgceljaaGreatDoorOwaIp
namespace Go.Proofs.YtggffhmdgceljaaGreatDoor
open Go.RowKit
set_option linter.unusedVariables false
set_option linter.unusedSimpArgs false

set_option maxRecDepth 100000 in
set_option maxHeartbeats 6400000 in
theorem passes_yes (x y z num den a b c d e f pp pq qq ap aq aa m1 m2 X m3 m4 Y : Int) (w : World)
    (Kpp : ∀ w1 : World, Calls Tryz.prog 74 #[.agg #[.int .i64 a, .int .i64 b, .int .i64 c], .agg #[.int .i64 a, .int .i64 b, .int .i64 c]] w1 fun e w' => e = .returned (.int .i64 pp) ∧ Below w1.heap.size w1 w')
    (Kpq : ∀ w1 : World, Calls Tryz.prog 74 #[.agg #[.int .i64 a, .int .i64 b, .int .i64 c], .agg #[.int .i64 d, .int .i64 e, .int .i64 f]] w1 fun e w' => e = .returned (.int .i64 pq) ∧ Below w1.heap.size w1 w')
    (Kqq : ∀ w1 : World, Calls Tryz.prog 74 #[.agg #[.int .i64 d, .int .i64 e, .int .i64 f], .agg #[.int .i64 d, .int .i64 e, .int .i64 f]] w1 fun e w' => e = .returned (.int .i64 qq) ∧ Below w1.heap.size w1 w')
    (Kap : ∀ w1 : World, Calls Tryz.prog 74 #[.agg #[.int .i64 x, .int .i64 y, .int .i64 z], .agg #[.int .i64 a, .int .i64 b, .int .i64 c]] w1 fun e w' => e = .returned (.int .i64 ap) ∧ Below w1.heap.size w1 w')
    (Kaq : ∀ w1 : World, Calls Tryz.prog 74 #[.agg #[.int .i64 x, .int .i64 y, .int .i64 z], .agg #[.int .i64 d, .int .i64 e, .int .i64 f]] w1 fun e w' => e = .returned (.int .i64 aq) ∧ Below w1.heap.size w1 w')
    (Kaa : ∀ w1 : World, Calls Tryz.prog 74 #[.agg #[.int .i64 x, .int .i64 y, .int .i64 z], .agg #[.int .i64 x, .int .i64 y, .int .i64 z]] w1 fun e w' => e = .returned (.int .i64 aa) ∧ Below w1.heap.size w1 w')
    (w1 : IntKind.i64.wrap (ap * qq) = m1) (w2 : IntKind.i64.wrap (aq * pq) = m2) (w3 : IntKind.i64.wrap (m1 - m2) = X) (w4 : IntKind.i64.wrap (aq * pp) = m3) (w5 : IntKind.i64.wrap (ap * pq) = m4) (w6 : IntKind.i64.wrap (m3 - m4) = Y)
    (m5 m6 DD m7 m8 TT l n1 r : Int) (v1 : IntKind.i64.wrap (pp * qq) = m5) (v2 : IntKind.i64.wrap (pq * pq) = m6) (v3 : IntKind.i64.wrap (m5 - m6) = DD) (v4 : IntKind.i64.wrap (X * ap) = m7) (v5 : IntKind.i64.wrap (Y * aq) = m8) (v6 : IntKind.i64.wrap (m7 + m8) = TT)
    (u1 : IntKind.i64.wrap (TT * den) = l) (u2 : IntKind.i64.wrap (num * DD) = n1) (u3 : IntKind.i64.wrap (n1 * aa) = r)
    (hX : 0 < X) (hY : 0 < Y) :
    Calls Tryz.prog 48 #[.agg #[.int .i64 x, .int .i64 y, .int .i64 z, .int .i64 num, .int .i64 den], .agg #[.int .i64 a, .int .i64 b, .int .i64 c], .agg #[.int .i64 d, .int .i64 e, .int .i64 f]] w fun e w' => e = .returned (.bool (decide (r ≤ l))) ∧ Below w.heap.size w w' := by
  obtain ⟨W0, hW0⟩ : ∃ W0, (((w.alloc (.cells #[.int .i64 x, .int .i64 y, .int .i64 z, .int .i64 num, .int .i64 den] 29)).alloc (.cells #[.int .i64 a, .int .i64 b, .int .i64 c] 94)).alloc (.cells #[.int .i64 d, .int .i64 e, .int .i64 f] 94)) = W0 := ⟨_, rfl⟩
  have K0 : Hid (Kp w W0 [(w.heap.size + 1 + 1, (.cells #[.int .i64 d, .int .i64 e, .int .i64 f] 94 (0, 0))), (w.heap.size + 1, (.cells #[.int .i64 a, .int .i64 b, .int .i64 c] 94 (0, 0))), (w.heap.size, (.cells #[.int .i64 x, .int .i64 y, .int .i64 z, .int .i64 num, .int .i64 den] 29 (0, 0)))]) := Lib.hid (by
    rw [← hW0]
    have k := ((((Kp.none w).alloc (.cells #[.int .i64 x, .int .i64 y, .int .i64 z, .int .i64 num, .int .i64 den] 29)).alloc (.cells #[.int .i64 a, .int .i64 b, .int .i64 c] 94)).alloc (.cells #[.int .i64 d, .int .i64 e, .int .i64 f] 94))
    simpa using k)
  have KP : Hid (∀ w1 : World, Calls Tryz.prog 45 #[.agg #[.int .i64 x, .int .i64 y, .int .i64 z]] w1 fun e w' => e = .returned (.agg #[.int .i64 x, .int .i64 y, .int .i64 z]) ∧ Below w1.heap.size w1 w') := Lib.hid fun w1 => partsOf_any x y z w1
  have HKpp := Lib.hid Kpp
  have HKpq := Lib.hid Kpq
  have HKqq := Lib.hid Kqq
  have HKap := Lib.hid Kap
  have HKaq := Lib.hid Kaq
  have HKaa := Lib.hid Kaa
  clear Kpp Kpq Kqq Kap Kaq Kaa
  have hX1 : (X ≤ 0) = False := by simp; omega
  have hX2 : decide (X ≤ 0) = false := by simp; omega
  have hY1 : (Y ≤ 0) = False := by simp; omega
  have hY2 : decide (Y ≤ 0) = false := by simp; omega
  clear hX hY
  obtain ⟨x0, x1, x2, x3, x4⟩ := cells5 (K0.out.2 _ (.tail _ (.tail _ (.head _))))
  go_enter Tryz.func48, Tryz.ntmps48
  go_upto_region 2 with (first
    | (go_at_call 45; (with_reducible refine (KP.out _).mono ?_); rintro e w5 ⟨rfl, hb⟩; have K5 := Lib.hid (Kp.call (show Kp w _ [(w.heap.size + 1 + 1, (.cells #[.int .i64 d, .int .i64 e, .int .i64 f] 94 (0, 0))), (w.heap.size + 1, (.cells #[.int .i64 a, .int .i64 b, .int .i64 c] 94 (0, 0))), (w.heap.size, (.cells #[.int .i64 x, .int .i64 y, .int .i64 z, .int .i64 num, .int .i64 den] 29 (0, 0)))] from by first | (rw [hW0]; exact K0.out) | exact K0.out) hb); clear hb))
  clear x0 x1 x2 x3 x4 K0
  refine wp_world (fun w' => Kp w w' [(w5.heap.size, (.cells #[.int .i64 x, .int .i64 y, .int .i64 z] 94 (0, 0))), (w.heap.size + 1 + 1, (.cells #[.int .i64 d, .int .i64 e, .int .i64 f] 94 (0, 0))), (w.heap.size + 1, (.cells #[.int .i64 a, .int .i64 b, .int .i64 c] 94 (0, 0))), (w.heap.size, (.cells #[.int .i64 x, .int .i64 y, .int .i64 z, .int .i64 num, .int .i64 den] 29 (0, 0)))]) (by first | exact K5.out.alloc _ | exact kp_set3 K5.out _ _ _) fun w6 k6 => ?_
  have K6 := Lib.hid k6
  obtain ⟨B5, hB5⟩ : ∃ B5, w5.heap.size = B5 := ⟨_, rfl⟩
  rw [hB5] at K6 ⊢
  clear k6 K5 hB5 KP hW0
  apply wp_region_gives 9 (fun w' => Blw w6.heap.size w6 w') [.agg #[.int .i64 a, .int .i64 b, .int .i64 c], .agg #[.int .i64 a, .int .i64 b, .int .i64 c], .int .i64 pp, .agg #[.int .i64 a, .int .i64 b, .int .i64 c], .agg #[.int .i64 d, .int .i64 e, .int .i64 f], .int .i64 pq, .agg #[.int .i64 d, .int .i64 e, .int .i64 f], .agg #[.int .i64 d, .int .i64 e, .int .i64 f], .int .i64 qq] (by kernel_rfl) (by kernel_rfl) (by kernel_rfl) (show Below _ _ _ from (Below.refl _ _).drew)
  case haF =>
    simp [putJs, Act.put, List.range, List.range.loop]
    exact rfl
  case h =>
    have hBx := K6.out.2 _ (.head _)
    have hBy := K6.out.2 _ (.tail _ (.head _))
    have hBz := K6.out.2 _ (.tail _ (.tail _ (.head _)))
    simp only [List.take_succ_cons, List.take_zero, GivesL]
    clear K6
    refine ⟨?_, ?_, ?_, ?_, ?_, ?_, ?_, ?_, ?_, trivial⟩
    all_goals
      intro w1 hw1
      obtain ⟨x_0, x_1, x_2⟩ := cells3 (((show Below _ _ _ from hw1).block _ (lt_of_blk hBx)).trans hBx)
      obtain ⟨y_0, y_1, y_2⟩ := cells3 (((show Below _ _ _ from hw1).block _ (lt_of_blk hBy)).trans hBy)
      obtain ⟨z_0, z_1, z_2⟩ := cells3 (((show Below _ _ _ from hw1).block _ (lt_of_blk hBz)).trans hBz)
      unfold Oper.wp
      simp only [execOp]
      go_simp <;> first
        | exact ⟨rfl, hw1⟩
        | ((with_reducible refine (HKpp.out _).mono ?_); rintro e w2 ⟨rfl, hb⟩; exact ⟨rfl, below_call hb hw1⟩)
        | ((with_reducible refine (HKpq.out _).mono ?_); rintro e w2 ⟨rfl, hb⟩; exact ⟨rfl, below_call hb hw1⟩)
        | ((with_reducible refine (HKqq.out _).mono ?_); rintro e w2 ⟨rfl, hb⟩; exact ⟨rfl, below_call hb hw1⟩)
  case ht =>
    intro w7 hw5
    have K7 := Lib.hid (K6.out.call (show Below _ _ _ from hw5))
    clear hw5 K6
    simp only [List.drop_succ_cons, List.drop_zero]
    go_wp2_with fail
    apply wp_region_gives 11 (fun w' => Blw w7.heap.size w7 w') [.agg #[.int .i64 x, .int .i64 y, .int .i64 z], .agg #[.int .i64 a, .int .i64 b, .int .i64 c], .int .i64 ap, .int .i64 qq, .int .i64 m1, .agg #[.int .i64 x, .int .i64 y, .int .i64 z], .agg #[.int .i64 d, .int .i64 e, .int .i64 f], .int .i64 aq, .int .i64 pq, .int .i64 m2, .int .i64 X] (by kernel_rfl) (by kernel_rfl) (by kernel_rfl) (show Below _ _ _ from (Below.refl _ _).drew)
    case haF =>
      simp [putJs, Act.put, List.range, List.range.loop]
      exact rfl
    case h =>
      have hBx := K7.out.2 _ (.head _)
      have hBy := K7.out.2 _ (.tail _ (.head _))
      have hBz := K7.out.2 _ (.tail _ (.tail _ (.head _)))
      simp only [List.take_succ_cons, List.take_zero, GivesL]
      clear K7
      refine ⟨?_, ?_, ?_, ?_, ?_, ?_, ?_, ?_, ?_, ?_, ?_, trivial⟩
      all_goals
        intro w1 hw1
        obtain ⟨x_0, x_1, x_2⟩ := cells3 (((show Below _ _ _ from hw1).block _ (lt_of_blk hBx)).trans hBx)
        obtain ⟨y_0, y_1, y_2⟩ := cells3 (((show Below _ _ _ from hw1).block _ (lt_of_blk hBy)).trans hBy)
        obtain ⟨z_0, z_1, z_2⟩ := cells3 (((show Below _ _ _ from hw1).block _ (lt_of_blk hBz)).trans hBz)
        unfold Oper.wp
        simp only [execOp]
        go_simp <;> first
          | exact ⟨rfl, hw1⟩
          | ((with_reducible refine (HKap.out _).mono ?_); rintro e w2 ⟨rfl, hb⟩; exact ⟨rfl, below_call hb hw1⟩)
          | ((with_reducible refine (HKaq.out _).mono ?_); rintro e w2 ⟨rfl, hb⟩; exact ⟨rfl, below_call hb hw1⟩)
    case ht =>
      intro w8 hw5
      have K8 := Lib.hid (K7.out.call (show Below _ _ _ from hw5))
      clear hw5 K7
      simp only [List.drop_succ_cons, List.drop_zero]
      go_wp2_with fail
      apply wp_region_gives 11 (fun w' => Blw w8.heap.size w8 w') [.agg #[.int .i64 x, .int .i64 y, .int .i64 z], .agg #[.int .i64 d, .int .i64 e, .int .i64 f], .int .i64 aq, .int .i64 pp, .int .i64 m3, .agg #[.int .i64 x, .int .i64 y, .int .i64 z], .agg #[.int .i64 a, .int .i64 b, .int .i64 c], .int .i64 ap, .int .i64 pq, .int .i64 m4, .int .i64 Y] (by kernel_rfl) (by kernel_rfl) (by kernel_rfl) (show Below _ _ _ from (Below.refl _ _).drew)
      case haF =>
        simp [putJs, Act.put, List.range, List.range.loop]
        exact rfl
      case h =>
        have hBx := K8.out.2 _ (.head _)
        have hBy := K8.out.2 _ (.tail _ (.head _))
        have hBz := K8.out.2 _ (.tail _ (.tail _ (.head _)))
        simp only [List.take_succ_cons, List.take_zero, GivesL]
        clear K8
        refine ⟨?_, ?_, ?_, ?_, ?_, ?_, ?_, ?_, ?_, ?_, ?_, trivial⟩
        all_goals
          intro w1 hw1
          obtain ⟨x_0, x_1, x_2⟩ := cells3 (((show Below _ _ _ from hw1).block _ (lt_of_blk hBx)).trans hBx)
          obtain ⟨y_0, y_1, y_2⟩ := cells3 (((show Below _ _ _ from hw1).block _ (lt_of_blk hBy)).trans hBy)
          obtain ⟨z_0, z_1, z_2⟩ := cells3 (((show Below _ _ _ from hw1).block _ (lt_of_blk hBz)).trans hBz)
          unfold Oper.wp
          simp only [execOp]
          go_simp <;> first
            | exact ⟨rfl, hw1⟩
            | ((with_reducible refine (HKap.out _).mono ?_); rintro e w2 ⟨rfl, hb⟩; exact ⟨rfl, below_call hb hw1⟩)
            | ((with_reducible refine (HKaq.out _).mono ?_); rintro e w2 ⟨rfl, hb⟩; exact ⟨rfl, below_call hb hw1⟩)
      case ht =>
        intro w9 hw5
        have K9 := Lib.hid (K8.out.call (show Below _ _ _ from hw5))
        clear hw5 K8
        simp only [List.drop_succ_cons, List.drop_zero]
        go_wp2_with fail
        apply wp_region_gives 11 (fun w' => Blw w9.heap.size w9 w') [.int .i64 X, .agg #[.int .i64 x, .int .i64 y, .int .i64 z], .agg #[.int .i64 a, .int .i64 b, .int .i64 c], .int .i64 ap, .int .i64 m7, .int .i64 Y, .agg #[.int .i64 x, .int .i64 y, .int .i64 z], .agg #[.int .i64 d, .int .i64 e, .int .i64 f], .int .i64 aq, .int .i64 m8, .int .i64 TT] (by kernel_rfl) (by kernel_rfl) (by kernel_rfl) (show Below _ _ _ from (Below.refl _ _).drew)
        case haF =>
          simp [putJs, Act.put, List.range, List.range.loop]
          exact rfl
        case h =>
          have hBx := K9.out.2 _ (.head _)
          have hBy := K9.out.2 _ (.tail _ (.head _))
          have hBz := K9.out.2 _ (.tail _ (.tail _ (.head _)))
          simp only [List.take_succ_cons, List.take_zero, GivesL]
          clear K9
          refine ⟨?_, ?_, ?_, ?_, ?_, ?_, ?_, ?_, ?_, ?_, ?_, trivial⟩
          all_goals
            intro w1 hw1
            obtain ⟨x_0, x_1, x_2⟩ := cells3 (((show Below _ _ _ from hw1).block _ (lt_of_blk hBx)).trans hBx)
            obtain ⟨y_0, y_1, y_2⟩ := cells3 (((show Below _ _ _ from hw1).block _ (lt_of_blk hBy)).trans hBy)
            obtain ⟨z_0, z_1, z_2⟩ := cells3 (((show Below _ _ _ from hw1).block _ (lt_of_blk hBz)).trans hBz)
            unfold Oper.wp
            simp only [execOp]
            go_simp <;> first
              | exact ⟨rfl, hw1⟩
              | ((with_reducible refine (HKap.out _).mono ?_); rintro e w2 ⟨rfl, hb⟩; exact ⟨rfl, below_call hb hw1⟩)
              | ((with_reducible refine (HKaq.out _).mono ?_); rintro e w2 ⟨rfl, hb⟩; exact ⟨rfl, below_call hb hw1⟩)
        case ht =>
          intro wa hw5
          have Ka := Lib.hid (K9.out.call (show Below _ _ _ from hw5))
          clear hw5 K9
          simp only [List.drop_succ_cons, List.drop_zero]
          go_wp2_with fail
          apply wp_region_gives 13 (fun w' => Blw wa.heap.size wa w') [.int .i64 TT, .pointer (some ⟨w.heap.size, 4, none⟩), .int .i64 den, .int .i64 l, .pointer (some ⟨w.heap.size, 3, none⟩), .int .i64 num, .int .i64 DD, .int .i64 n1, .agg #[.int .i64 x, .int .i64 y, .int .i64 z], .agg #[.int .i64 x, .int .i64 y, .int .i64 z], .int .i64 aa, .int .i64 r, .bool (decide (r ≤ l))] (by kernel_rfl) (by kernel_rfl) (by kernel_rfl) (show Below _ _ _ from (Below.refl _ _).drew)
          case haF =>
            simp [putJs, Act.put, List.range, List.range.loop]
            exact rfl
          case h =>
            have hBx := Ka.out.2 _ (.head _)
            have hBc := Ka.out.2 _ (.tail _ (.tail _ (.tail _ (.head _))))
            simp only [List.take_succ_cons, List.take_zero, GivesL]
            clear Ka
            refine ⟨?_, ?_, ?_, ?_, ?_, ?_, ?_, ?_, ?_, ?_, ?_, ?_, ?_, trivial⟩
            all_goals
              intro w1 hw1
              obtain ⟨x_0, x_1, x_2⟩ := cells3 (((show Below _ _ _ from hw1).block _ (lt_of_blk hBx)).trans hBx)
              obtain ⟨c_0, c_1, c_2, c_3, c_4⟩ := cells5 (((show Below _ _ _ from hw1).block _ (lt_of_blk hBc)).trans hBc)
              unfold Oper.wp
              simp only [execOp]
              go_simp <;> first
                | exact ⟨rfl, hw1⟩
                | ((with_reducible refine (HKaa.out _).mono ?_); rintro e w2 ⟨rfl, hb⟩; exact ⟨rfl, below_call hb hw1⟩)
          case ht =>
            intro wb hw5
            have Kb := Lib.hid (Ka.out.call (show Below _ _ _ from hw5))
            clear hw5 Ka
            simp only [List.drop_succ_cons, List.drop_zero]
            go_wp2_with fail
            go_ret
            exact ⟨rfl, Kp.below Kb.out⟩

set_option maxRecDepth 100000 in
set_option maxHeartbeats 6400000 in
theorem passes_no1 (x y z num den a b c d e f pp pq qq ap aq aa m1 m2 X m3 m4 Y : Int) (w : World)
    (Kpp : ∀ w1 : World, Calls Tryz.prog 74 #[.agg #[.int .i64 a, .int .i64 b, .int .i64 c], .agg #[.int .i64 a, .int .i64 b, .int .i64 c]] w1 fun e w' => e = .returned (.int .i64 pp) ∧ Below w1.heap.size w1 w')
    (Kpq : ∀ w1 : World, Calls Tryz.prog 74 #[.agg #[.int .i64 a, .int .i64 b, .int .i64 c], .agg #[.int .i64 d, .int .i64 e, .int .i64 f]] w1 fun e w' => e = .returned (.int .i64 pq) ∧ Below w1.heap.size w1 w')
    (Kqq : ∀ w1 : World, Calls Tryz.prog 74 #[.agg #[.int .i64 d, .int .i64 e, .int .i64 f], .agg #[.int .i64 d, .int .i64 e, .int .i64 f]] w1 fun e w' => e = .returned (.int .i64 qq) ∧ Below w1.heap.size w1 w')
    (Kap : ∀ w1 : World, Calls Tryz.prog 74 #[.agg #[.int .i64 x, .int .i64 y, .int .i64 z], .agg #[.int .i64 a, .int .i64 b, .int .i64 c]] w1 fun e w' => e = .returned (.int .i64 ap) ∧ Below w1.heap.size w1 w')
    (Kaq : ∀ w1 : World, Calls Tryz.prog 74 #[.agg #[.int .i64 x, .int .i64 y, .int .i64 z], .agg #[.int .i64 d, .int .i64 e, .int .i64 f]] w1 fun e w' => e = .returned (.int .i64 aq) ∧ Below w1.heap.size w1 w')
    (w1 : IntKind.i64.wrap (ap * qq) = m1) (w2 : IntKind.i64.wrap (aq * pq) = m2) (w3 : IntKind.i64.wrap (m1 - m2) = X) (w4 : IntKind.i64.wrap (aq * pp) = m3) (w5 : IntKind.i64.wrap (ap * pq) = m4) (w6 : IntKind.i64.wrap (m3 - m4) = Y)
    (hX : X ≤ 0) :
    Calls Tryz.prog 48 #[.agg #[.int .i64 x, .int .i64 y, .int .i64 z, .int .i64 num, .int .i64 den], .agg #[.int .i64 a, .int .i64 b, .int .i64 c], .agg #[.int .i64 d, .int .i64 e, .int .i64 f]] w fun e w' => e = .returned (.bool false) ∧ Below w.heap.size w w' := by
  obtain ⟨W0, hW0⟩ : ∃ W0, (((w.alloc (.cells #[.int .i64 x, .int .i64 y, .int .i64 z, .int .i64 num, .int .i64 den] 29)).alloc (.cells #[.int .i64 a, .int .i64 b, .int .i64 c] 94)).alloc (.cells #[.int .i64 d, .int .i64 e, .int .i64 f] 94)) = W0 := ⟨_, rfl⟩
  have K0 : Hid (Kp w W0 [(w.heap.size + 1 + 1, (.cells #[.int .i64 d, .int .i64 e, .int .i64 f] 94 (0, 0))), (w.heap.size + 1, (.cells #[.int .i64 a, .int .i64 b, .int .i64 c] 94 (0, 0))), (w.heap.size, (.cells #[.int .i64 x, .int .i64 y, .int .i64 z, .int .i64 num, .int .i64 den] 29 (0, 0)))]) := Lib.hid (by
    rw [← hW0]
    have k := ((((Kp.none w).alloc (.cells #[.int .i64 x, .int .i64 y, .int .i64 z, .int .i64 num, .int .i64 den] 29)).alloc (.cells #[.int .i64 a, .int .i64 b, .int .i64 c] 94)).alloc (.cells #[.int .i64 d, .int .i64 e, .int .i64 f] 94))
    simpa using k)
  have KP : Hid (∀ w1 : World, Calls Tryz.prog 45 #[.agg #[.int .i64 x, .int .i64 y, .int .i64 z]] w1 fun e w' => e = .returned (.agg #[.int .i64 x, .int .i64 y, .int .i64 z]) ∧ Below w1.heap.size w1 w') := Lib.hid fun w1 => partsOf_any x y z w1
  have HKpp := Lib.hid Kpp
  have HKpq := Lib.hid Kpq
  have HKqq := Lib.hid Kqq
  have HKap := Lib.hid Kap
  have HKaq := Lib.hid Kaq
  clear Kpp Kpq Kqq Kap Kaq
  have hX1 : (X ≤ 0) = True := by simp; omega
  have hX2 : decide (X ≤ 0) = true := by simp; omega
  clear hX
  obtain ⟨x0, x1, x2, x3, x4⟩ := cells5 (K0.out.2 _ (.tail _ (.tail _ (.head _))))
  go_enter Tryz.func48, Tryz.ntmps48
  go_upto_region 2 with (first
    | (go_at_call 45; (with_reducible refine (KP.out _).mono ?_); rintro e w5 ⟨rfl, hb⟩; have K5 := Lib.hid (Kp.call (show Kp w _ [(w.heap.size + 1 + 1, (.cells #[.int .i64 d, .int .i64 e, .int .i64 f] 94 (0, 0))), (w.heap.size + 1, (.cells #[.int .i64 a, .int .i64 b, .int .i64 c] 94 (0, 0))), (w.heap.size, (.cells #[.int .i64 x, .int .i64 y, .int .i64 z, .int .i64 num, .int .i64 den] 29 (0, 0)))] from by first | (rw [hW0]; exact K0.out) | exact K0.out) hb); clear hb))
  clear x0 x1 x2 x3 x4 K0
  refine wp_world (fun w' => Kp w w' [(w5.heap.size, (.cells #[.int .i64 x, .int .i64 y, .int .i64 z] 94 (0, 0))), (w.heap.size + 1 + 1, (.cells #[.int .i64 d, .int .i64 e, .int .i64 f] 94 (0, 0))), (w.heap.size + 1, (.cells #[.int .i64 a, .int .i64 b, .int .i64 c] 94 (0, 0))), (w.heap.size, (.cells #[.int .i64 x, .int .i64 y, .int .i64 z, .int .i64 num, .int .i64 den] 29 (0, 0)))]) (by first | exact K5.out.alloc _ | exact kp_set3 K5.out _ _ _) fun w6 k6 => ?_
  have K6 := Lib.hid k6
  obtain ⟨B5, hB5⟩ : ∃ B5, w5.heap.size = B5 := ⟨_, rfl⟩
  rw [hB5] at K6 ⊢
  clear k6 K5 hB5 KP hW0
  apply wp_region_gives 9 (fun w' => Blw w6.heap.size w6 w') [.agg #[.int .i64 a, .int .i64 b, .int .i64 c], .agg #[.int .i64 a, .int .i64 b, .int .i64 c], .int .i64 pp, .agg #[.int .i64 a, .int .i64 b, .int .i64 c], .agg #[.int .i64 d, .int .i64 e, .int .i64 f], .int .i64 pq, .agg #[.int .i64 d, .int .i64 e, .int .i64 f], .agg #[.int .i64 d, .int .i64 e, .int .i64 f], .int .i64 qq] (by kernel_rfl) (by kernel_rfl) (by kernel_rfl) (show Below _ _ _ from (Below.refl _ _).drew)
  case haF =>
    simp [putJs, Act.put, List.range, List.range.loop]
    exact rfl
  case h =>
    have hBx := K6.out.2 _ (.head _)
    have hBy := K6.out.2 _ (.tail _ (.head _))
    have hBz := K6.out.2 _ (.tail _ (.tail _ (.head _)))
    simp only [List.take_succ_cons, List.take_zero, GivesL]
    clear K6
    refine ⟨?_, ?_, ?_, ?_, ?_, ?_, ?_, ?_, ?_, trivial⟩
    all_goals
      intro w1 hw1
      obtain ⟨x_0, x_1, x_2⟩ := cells3 (((show Below _ _ _ from hw1).block _ (lt_of_blk hBx)).trans hBx)
      obtain ⟨y_0, y_1, y_2⟩ := cells3 (((show Below _ _ _ from hw1).block _ (lt_of_blk hBy)).trans hBy)
      obtain ⟨z_0, z_1, z_2⟩ := cells3 (((show Below _ _ _ from hw1).block _ (lt_of_blk hBz)).trans hBz)
      unfold Oper.wp
      simp only [execOp]
      go_simp <;> first
        | exact ⟨rfl, hw1⟩
        | ((with_reducible refine (HKpp.out _).mono ?_); rintro e w2 ⟨rfl, hb⟩; exact ⟨rfl, below_call hb hw1⟩)
        | ((with_reducible refine (HKpq.out _).mono ?_); rintro e w2 ⟨rfl, hb⟩; exact ⟨rfl, below_call hb hw1⟩)
        | ((with_reducible refine (HKqq.out _).mono ?_); rintro e w2 ⟨rfl, hb⟩; exact ⟨rfl, below_call hb hw1⟩)
  case ht =>
    intro w7 hw5
    have K7 := Lib.hid (K6.out.call (show Below _ _ _ from hw5))
    clear hw5 K6
    simp only [List.drop_succ_cons, List.drop_zero]
    go_wp2_with fail
    apply wp_region_gives 11 (fun w' => Blw w7.heap.size w7 w') [.agg #[.int .i64 x, .int .i64 y, .int .i64 z], .agg #[.int .i64 a, .int .i64 b, .int .i64 c], .int .i64 ap, .int .i64 qq, .int .i64 m1, .agg #[.int .i64 x, .int .i64 y, .int .i64 z], .agg #[.int .i64 d, .int .i64 e, .int .i64 f], .int .i64 aq, .int .i64 pq, .int .i64 m2, .int .i64 X] (by kernel_rfl) (by kernel_rfl) (by kernel_rfl) (show Below _ _ _ from (Below.refl _ _).drew)
    case haF =>
      simp [putJs, Act.put, List.range, List.range.loop]
      exact rfl
    case h =>
      have hBx := K7.out.2 _ (.head _)
      have hBy := K7.out.2 _ (.tail _ (.head _))
      have hBz := K7.out.2 _ (.tail _ (.tail _ (.head _)))
      simp only [List.take_succ_cons, List.take_zero, GivesL]
      clear K7
      refine ⟨?_, ?_, ?_, ?_, ?_, ?_, ?_, ?_, ?_, ?_, ?_, trivial⟩
      all_goals
        intro w1 hw1
        obtain ⟨x_0, x_1, x_2⟩ := cells3 (((show Below _ _ _ from hw1).block _ (lt_of_blk hBx)).trans hBx)
        obtain ⟨y_0, y_1, y_2⟩ := cells3 (((show Below _ _ _ from hw1).block _ (lt_of_blk hBy)).trans hBy)
        obtain ⟨z_0, z_1, z_2⟩ := cells3 (((show Below _ _ _ from hw1).block _ (lt_of_blk hBz)).trans hBz)
        unfold Oper.wp
        simp only [execOp]
        go_simp <;> first
          | exact ⟨rfl, hw1⟩
          | ((with_reducible refine (HKap.out _).mono ?_); rintro e w2 ⟨rfl, hb⟩; exact ⟨rfl, below_call hb hw1⟩)
          | ((with_reducible refine (HKaq.out _).mono ?_); rintro e w2 ⟨rfl, hb⟩; exact ⟨rfl, below_call hb hw1⟩)
    case ht =>
      intro w8 hw5
      have K8 := Lib.hid (K7.out.call (show Below _ _ _ from hw5))
      clear hw5 K7
      simp only [List.drop_succ_cons, List.drop_zero]
      go_wp2_with fail
      apply wp_region_gives 11 (fun w' => Blw w8.heap.size w8 w') [.agg #[.int .i64 x, .int .i64 y, .int .i64 z], .agg #[.int .i64 d, .int .i64 e, .int .i64 f], .int .i64 aq, .int .i64 pp, .int .i64 m3, .agg #[.int .i64 x, .int .i64 y, .int .i64 z], .agg #[.int .i64 a, .int .i64 b, .int .i64 c], .int .i64 ap, .int .i64 pq, .int .i64 m4, .int .i64 Y] (by kernel_rfl) (by kernel_rfl) (by kernel_rfl) (show Below _ _ _ from (Below.refl _ _).drew)
      case haF =>
        simp [putJs, Act.put, List.range, List.range.loop]
        exact rfl
      case h =>
        have hBx := K8.out.2 _ (.head _)
        have hBy := K8.out.2 _ (.tail _ (.head _))
        have hBz := K8.out.2 _ (.tail _ (.tail _ (.head _)))
        simp only [List.take_succ_cons, List.take_zero, GivesL]
        clear K8
        refine ⟨?_, ?_, ?_, ?_, ?_, ?_, ?_, ?_, ?_, ?_, ?_, trivial⟩
        all_goals
          intro w1 hw1
          obtain ⟨x_0, x_1, x_2⟩ := cells3 (((show Below _ _ _ from hw1).block _ (lt_of_blk hBx)).trans hBx)
          obtain ⟨y_0, y_1, y_2⟩ := cells3 (((show Below _ _ _ from hw1).block _ (lt_of_blk hBy)).trans hBy)
          obtain ⟨z_0, z_1, z_2⟩ := cells3 (((show Below _ _ _ from hw1).block _ (lt_of_blk hBz)).trans hBz)
          unfold Oper.wp
          simp only [execOp]
          go_simp <;> first
            | exact ⟨rfl, hw1⟩
            | ((with_reducible refine (HKap.out _).mono ?_); rintro e w2 ⟨rfl, hb⟩; exact ⟨rfl, below_call hb hw1⟩)
            | ((with_reducible refine (HKaq.out _).mono ?_); rintro e w2 ⟨rfl, hb⟩; exact ⟨rfl, below_call hb hw1⟩)
      case ht =>
        intro w9 hw5
        have K9 := Lib.hid (K8.out.call (show Below _ _ _ from hw5))
        clear hw5 K8
        simp only [List.drop_succ_cons, List.drop_zero]
        go_wp2_with fail
        go_ret
        exact ⟨rfl, Kp.below K9.out⟩

set_option maxRecDepth 100000 in
set_option maxHeartbeats 6400000 in
theorem passes_no2 (x y z num den a b c d e f pp pq qq ap aq aa m1 m2 X m3 m4 Y : Int) (w : World)
    (Kpp : ∀ w1 : World, Calls Tryz.prog 74 #[.agg #[.int .i64 a, .int .i64 b, .int .i64 c], .agg #[.int .i64 a, .int .i64 b, .int .i64 c]] w1 fun e w' => e = .returned (.int .i64 pp) ∧ Below w1.heap.size w1 w')
    (Kpq : ∀ w1 : World, Calls Tryz.prog 74 #[.agg #[.int .i64 a, .int .i64 b, .int .i64 c], .agg #[.int .i64 d, .int .i64 e, .int .i64 f]] w1 fun e w' => e = .returned (.int .i64 pq) ∧ Below w1.heap.size w1 w')
    (Kqq : ∀ w1 : World, Calls Tryz.prog 74 #[.agg #[.int .i64 d, .int .i64 e, .int .i64 f], .agg #[.int .i64 d, .int .i64 e, .int .i64 f]] w1 fun e w' => e = .returned (.int .i64 qq) ∧ Below w1.heap.size w1 w')
    (Kap : ∀ w1 : World, Calls Tryz.prog 74 #[.agg #[.int .i64 x, .int .i64 y, .int .i64 z], .agg #[.int .i64 a, .int .i64 b, .int .i64 c]] w1 fun e w' => e = .returned (.int .i64 ap) ∧ Below w1.heap.size w1 w')
    (Kaq : ∀ w1 : World, Calls Tryz.prog 74 #[.agg #[.int .i64 x, .int .i64 y, .int .i64 z], .agg #[.int .i64 d, .int .i64 e, .int .i64 f]] w1 fun e w' => e = .returned (.int .i64 aq) ∧ Below w1.heap.size w1 w')
    (w1 : IntKind.i64.wrap (ap * qq) = m1) (w2 : IntKind.i64.wrap (aq * pq) = m2) (w3 : IntKind.i64.wrap (m1 - m2) = X) (w4 : IntKind.i64.wrap (aq * pp) = m3) (w5 : IntKind.i64.wrap (ap * pq) = m4) (w6 : IntKind.i64.wrap (m3 - m4) = Y)
    (hX : 0 < X) (hY : Y ≤ 0) :
    Calls Tryz.prog 48 #[.agg #[.int .i64 x, .int .i64 y, .int .i64 z, .int .i64 num, .int .i64 den], .agg #[.int .i64 a, .int .i64 b, .int .i64 c], .agg #[.int .i64 d, .int .i64 e, .int .i64 f]] w fun e w' => e = .returned (.bool false) ∧ Below w.heap.size w w' := by
  obtain ⟨W0, hW0⟩ : ∃ W0, (((w.alloc (.cells #[.int .i64 x, .int .i64 y, .int .i64 z, .int .i64 num, .int .i64 den] 29)).alloc (.cells #[.int .i64 a, .int .i64 b, .int .i64 c] 94)).alloc (.cells #[.int .i64 d, .int .i64 e, .int .i64 f] 94)) = W0 := ⟨_, rfl⟩
  have K0 : Hid (Kp w W0 [(w.heap.size + 1 + 1, (.cells #[.int .i64 d, .int .i64 e, .int .i64 f] 94 (0, 0))), (w.heap.size + 1, (.cells #[.int .i64 a, .int .i64 b, .int .i64 c] 94 (0, 0))), (w.heap.size, (.cells #[.int .i64 x, .int .i64 y, .int .i64 z, .int .i64 num, .int .i64 den] 29 (0, 0)))]) := Lib.hid (by
    rw [← hW0]
    have k := ((((Kp.none w).alloc (.cells #[.int .i64 x, .int .i64 y, .int .i64 z, .int .i64 num, .int .i64 den] 29)).alloc (.cells #[.int .i64 a, .int .i64 b, .int .i64 c] 94)).alloc (.cells #[.int .i64 d, .int .i64 e, .int .i64 f] 94))
    simpa using k)
  have KP : Hid (∀ w1 : World, Calls Tryz.prog 45 #[.agg #[.int .i64 x, .int .i64 y, .int .i64 z]] w1 fun e w' => e = .returned (.agg #[.int .i64 x, .int .i64 y, .int .i64 z]) ∧ Below w1.heap.size w1 w') := Lib.hid fun w1 => partsOf_any x y z w1
  have HKpp := Lib.hid Kpp
  have HKpq := Lib.hid Kpq
  have HKqq := Lib.hid Kqq
  have HKap := Lib.hid Kap
  have HKaq := Lib.hid Kaq
  clear Kpp Kpq Kqq Kap Kaq
  have hX1 : (X ≤ 0) = False := by simp; omega
  have hX2 : decide (X ≤ 0) = false := by simp; omega
  have hY1 : (Y ≤ 0) = True := by simp; omega
  have hY2 : decide (Y ≤ 0) = true := by simp; omega
  clear hX hY
  obtain ⟨x0, x1, x2, x3, x4⟩ := cells5 (K0.out.2 _ (.tail _ (.tail _ (.head _))))
  go_enter Tryz.func48, Tryz.ntmps48
  go_upto_region 2 with (first
    | (go_at_call 45; (with_reducible refine (KP.out _).mono ?_); rintro e w5 ⟨rfl, hb⟩; have K5 := Lib.hid (Kp.call (show Kp w _ [(w.heap.size + 1 + 1, (.cells #[.int .i64 d, .int .i64 e, .int .i64 f] 94 (0, 0))), (w.heap.size + 1, (.cells #[.int .i64 a, .int .i64 b, .int .i64 c] 94 (0, 0))), (w.heap.size, (.cells #[.int .i64 x, .int .i64 y, .int .i64 z, .int .i64 num, .int .i64 den] 29 (0, 0)))] from by first | (rw [hW0]; exact K0.out) | exact K0.out) hb); clear hb))
  clear x0 x1 x2 x3 x4 K0
  refine wp_world (fun w' => Kp w w' [(w5.heap.size, (.cells #[.int .i64 x, .int .i64 y, .int .i64 z] 94 (0, 0))), (w.heap.size + 1 + 1, (.cells #[.int .i64 d, .int .i64 e, .int .i64 f] 94 (0, 0))), (w.heap.size + 1, (.cells #[.int .i64 a, .int .i64 b, .int .i64 c] 94 (0, 0))), (w.heap.size, (.cells #[.int .i64 x, .int .i64 y, .int .i64 z, .int .i64 num, .int .i64 den] 29 (0, 0)))]) (by first | exact K5.out.alloc _ | exact kp_set3 K5.out _ _ _) fun w6 k6 => ?_
  have K6 := Lib.hid k6
  obtain ⟨B5, hB5⟩ : ∃ B5, w5.heap.size = B5 := ⟨_, rfl⟩
  rw [hB5] at K6 ⊢
  clear k6 K5 hB5 KP hW0
  apply wp_region_gives 9 (fun w' => Blw w6.heap.size w6 w') [.agg #[.int .i64 a, .int .i64 b, .int .i64 c], .agg #[.int .i64 a, .int .i64 b, .int .i64 c], .int .i64 pp, .agg #[.int .i64 a, .int .i64 b, .int .i64 c], .agg #[.int .i64 d, .int .i64 e, .int .i64 f], .int .i64 pq, .agg #[.int .i64 d, .int .i64 e, .int .i64 f], .agg #[.int .i64 d, .int .i64 e, .int .i64 f], .int .i64 qq] (by kernel_rfl) (by kernel_rfl) (by kernel_rfl) (show Below _ _ _ from (Below.refl _ _).drew)
  case haF =>
    simp [putJs, Act.put, List.range, List.range.loop]
    exact rfl
  case h =>
    have hBx := K6.out.2 _ (.head _)
    have hBy := K6.out.2 _ (.tail _ (.head _))
    have hBz := K6.out.2 _ (.tail _ (.tail _ (.head _)))
    simp only [List.take_succ_cons, List.take_zero, GivesL]
    clear K6
    refine ⟨?_, ?_, ?_, ?_, ?_, ?_, ?_, ?_, ?_, trivial⟩
    all_goals
      intro w1 hw1
      obtain ⟨x_0, x_1, x_2⟩ := cells3 (((show Below _ _ _ from hw1).block _ (lt_of_blk hBx)).trans hBx)
      obtain ⟨y_0, y_1, y_2⟩ := cells3 (((show Below _ _ _ from hw1).block _ (lt_of_blk hBy)).trans hBy)
      obtain ⟨z_0, z_1, z_2⟩ := cells3 (((show Below _ _ _ from hw1).block _ (lt_of_blk hBz)).trans hBz)
      unfold Oper.wp
      simp only [execOp]
      go_simp <;> first
        | exact ⟨rfl, hw1⟩
        | ((with_reducible refine (HKpp.out _).mono ?_); rintro e w2 ⟨rfl, hb⟩; exact ⟨rfl, below_call hb hw1⟩)
        | ((with_reducible refine (HKpq.out _).mono ?_); rintro e w2 ⟨rfl, hb⟩; exact ⟨rfl, below_call hb hw1⟩)
        | ((with_reducible refine (HKqq.out _).mono ?_); rintro e w2 ⟨rfl, hb⟩; exact ⟨rfl, below_call hb hw1⟩)
  case ht =>
    intro w7 hw5
    have K7 := Lib.hid (K6.out.call (show Below _ _ _ from hw5))
    clear hw5 K6
    simp only [List.drop_succ_cons, List.drop_zero]
    go_wp2_with fail
    apply wp_region_gives 11 (fun w' => Blw w7.heap.size w7 w') [.agg #[.int .i64 x, .int .i64 y, .int .i64 z], .agg #[.int .i64 a, .int .i64 b, .int .i64 c], .int .i64 ap, .int .i64 qq, .int .i64 m1, .agg #[.int .i64 x, .int .i64 y, .int .i64 z], .agg #[.int .i64 d, .int .i64 e, .int .i64 f], .int .i64 aq, .int .i64 pq, .int .i64 m2, .int .i64 X] (by kernel_rfl) (by kernel_rfl) (by kernel_rfl) (show Below _ _ _ from (Below.refl _ _).drew)
    case haF =>
      simp [putJs, Act.put, List.range, List.range.loop]
      exact rfl
    case h =>
      have hBx := K7.out.2 _ (.head _)
      have hBy := K7.out.2 _ (.tail _ (.head _))
      have hBz := K7.out.2 _ (.tail _ (.tail _ (.head _)))
      simp only [List.take_succ_cons, List.take_zero, GivesL]
      clear K7
      refine ⟨?_, ?_, ?_, ?_, ?_, ?_, ?_, ?_, ?_, ?_, ?_, trivial⟩
      all_goals
        intro w1 hw1
        obtain ⟨x_0, x_1, x_2⟩ := cells3 (((show Below _ _ _ from hw1).block _ (lt_of_blk hBx)).trans hBx)
        obtain ⟨y_0, y_1, y_2⟩ := cells3 (((show Below _ _ _ from hw1).block _ (lt_of_blk hBy)).trans hBy)
        obtain ⟨z_0, z_1, z_2⟩ := cells3 (((show Below _ _ _ from hw1).block _ (lt_of_blk hBz)).trans hBz)
        unfold Oper.wp
        simp only [execOp]
        go_simp <;> first
          | exact ⟨rfl, hw1⟩
          | ((with_reducible refine (HKap.out _).mono ?_); rintro e w2 ⟨rfl, hb⟩; exact ⟨rfl, below_call hb hw1⟩)
          | ((with_reducible refine (HKaq.out _).mono ?_); rintro e w2 ⟨rfl, hb⟩; exact ⟨rfl, below_call hb hw1⟩)
    case ht =>
      intro w8 hw5
      have K8 := Lib.hid (K7.out.call (show Below _ _ _ from hw5))
      clear hw5 K7
      simp only [List.drop_succ_cons, List.drop_zero]
      go_wp2_with fail
      apply wp_region_gives 11 (fun w' => Blw w8.heap.size w8 w') [.agg #[.int .i64 x, .int .i64 y, .int .i64 z], .agg #[.int .i64 d, .int .i64 e, .int .i64 f], .int .i64 aq, .int .i64 pp, .int .i64 m3, .agg #[.int .i64 x, .int .i64 y, .int .i64 z], .agg #[.int .i64 a, .int .i64 b, .int .i64 c], .int .i64 ap, .int .i64 pq, .int .i64 m4, .int .i64 Y] (by kernel_rfl) (by kernel_rfl) (by kernel_rfl) (show Below _ _ _ from (Below.refl _ _).drew)
      case haF =>
        simp [putJs, Act.put, List.range, List.range.loop]
        exact rfl
      case h =>
        have hBx := K8.out.2 _ (.head _)
        have hBy := K8.out.2 _ (.tail _ (.head _))
        have hBz := K8.out.2 _ (.tail _ (.tail _ (.head _)))
        simp only [List.take_succ_cons, List.take_zero, GivesL]
        clear K8
        refine ⟨?_, ?_, ?_, ?_, ?_, ?_, ?_, ?_, ?_, ?_, ?_, trivial⟩
        all_goals
          intro w1 hw1
          obtain ⟨x_0, x_1, x_2⟩ := cells3 (((show Below _ _ _ from hw1).block _ (lt_of_blk hBx)).trans hBx)
          obtain ⟨y_0, y_1, y_2⟩ := cells3 (((show Below _ _ _ from hw1).block _ (lt_of_blk hBy)).trans hBy)
          obtain ⟨z_0, z_1, z_2⟩ := cells3 (((show Below _ _ _ from hw1).block _ (lt_of_blk hBz)).trans hBz)
          unfold Oper.wp
          simp only [execOp]
          go_simp <;> first
            | exact ⟨rfl, hw1⟩
            | ((with_reducible refine (HKap.out _).mono ?_); rintro e w2 ⟨rfl, hb⟩; exact ⟨rfl, below_call hb hw1⟩)
            | ((with_reducible refine (HKaq.out _).mono ?_); rintro e w2 ⟨rfl, hb⟩; exact ⟨rfl, below_call hb hw1⟩)
      case ht =>
        intro w9 hw5
        have K9 := Lib.hid (K8.out.call (show Below _ _ _ from hw5))
        clear hw5 K8
        simp only [List.drop_succ_cons, List.drop_zero]
        go_wp2_with fail
        go_ret
        exact ⟨rfl, Kp.below K9.out⟩
end Go.Proofs.YtggffhmdgceljaaGreatDoor
