/-
  Contracts of CheckCone and of what a cone contains.
-/
import Derived.Test.YtggffhmdgceljaaGreatDoorRows
import Derived.WalkKit
import Derived.WalkSpells
import Derived.WalkLawsBesides
import Derived.Lib.Hide
import Derived.BigQuiet
import Derived.Deep.QuietTactic
import Derived.Handy
import Derived.Deep.RegionHeld3
import Derived.Deep.RegionWith
import Derived.StillTailTactics
import Derived.RangeFuncNested
import Derived.RangeFuncBound
import Derived.RangeFuncCalls
import Derived.RangeFuncLeaves
import Derived.RangeFuncBox
import Derived.Shelf.Abstract
import Derived.Shelf.RegionOpen
import Derived.OwnWalkIn
import Derived.TacticsInMore
import Derived.LoopNIn
import Derived.LoopIn
import Derived.Maps.AppendAt
import Derived.Test.YtggffhmdgceljaaGreatDoorProg
import Derived.Laws.FloatArith
import Derived.Laws.BitsAllLaws
import Derived.Deep.DeepCutAuto
import Derived.Stop.BytesEq
import Derived.Deep.MidRow
import Derived.Laws.CopyRow
import Derived.WalkMore
import Derived.Deep.DrawnRows
import Derived.Deep.CutBlock
import Derived.Orders
import Derived.LoopTactic
import Derived.Laws.StructEq
import Derived.Deep.RegionLaw
import Derived.RegionTactic
import Derived.StillTail
import Derived.Test.YtggffhmdgceljaaGreatDoorOwaWa
import Derived.Test.YtggffhmdgceljaaGreatDoorOwaWn
import Derived.Test.YtggffhmdgceljaaGreatDoorOwaXe
import Derived.Test.YtggffhmdgceljaaGreatDoorOwaIb
import Derived.Test.YtggffhmdgceljaaGreatDoorOwaIl
import Derived.Test.YtggffhmdgceljaaGreatDoorOwaId
namespace Go.Proofs.YtggffhmdgceljaaGreatDoor
open Go.RowKit
set_option linter.unusedVariables false
set_option linter.unusedSimpArgs false

theorem cells5 {w : World} {B : Nat} {T : TypeId} {x y z u v : Value} (h : w.heap[B]? = some (.cells #[x, y, z, u, v] T (0, 0))) :
    w.cell? ⟨B, 0, none⟩ = some x ∧ w.cell? ⟨B, 1, none⟩ = some y ∧ w.cell? ⟨B, 2, none⟩ = some z ∧ w.cell? ⟨B, 3, none⟩ = some u ∧ w.cell? ⟨B, 4, none⟩ = some v :=
  ⟨by rw [cell_of_row w _ 0 _ _ (0, 0) h]; rfl, by rw [cell_of_row w _ 1 _ _ (0, 0) h]; rfl, by rw [cell_of_row w _ 2 _ _ (0, 0) h]; rfl, by rw [cell_of_row w _ 3 _ _ (0, 0) h]; rfl, by rw [cell_of_row w _ 4 _ _ (0, 0) h]; rfl⟩
def coneErr (x y z num den : Int) : Int := firstNZ [rayErr x y z, rangeErr den 1 100, rangeErr num 0 den]

set_option maxRecDepth 100000 in
set_option maxHeartbeats 6400000 in
theorem checkCone_all (x y z num den : Int) (w : World) :
    Calls Tryz.prog 16 #[.agg #[.int .i64 x, .int .i64 y, .int .i64 z, .int .i64 num, .int .i64 den]] w fun e w' => e = .returned (.int .i64 (coneErr x y z num den)) ∧ Below w.heap.size w w' := by
  obtain ⟨W0, hW0⟩ : ∃ W0, (w.alloc (.cells #[.int .i64 x, .int .i64 y, .int .i64 z, .int .i64 num, .int .i64 den] 29)) = W0 := ⟨_, rfl⟩
  have K0 : Hid (Kp w W0 [(w.heap.size, (.cells #[.int .i64 x, .int .i64 y, .int .i64 z, .int .i64 num, .int .i64 den] 29 (0, 0)))]) := Lib.hid (by
    rw [← hW0]
    have k := ((Kp.none w).alloc (.cells #[.int .i64 x, .int .i64 y, .int .i64 z, .int .i64 num, .int .i64 den] 29))
    simpa using k)
  obtain ⟨e1, he1⟩ : ∃ e1 : Int, rayErr x y z = e1 := ⟨_, rfl⟩
  obtain ⟨e2, he2⟩ : ∃ e2 : Int, rangeErr den 1 100 = e2 := ⟨_, rfl⟩
  obtain ⟨e3, he3⟩ : ∃ e3 : Int, rangeErr num 0 den = e3 := ⟨_, rfl⟩
  have KR : Hid (∀ w1 : World, Calls Tryz.prog 43 #[.agg #[.int .i64 x, .int .i64 y, .int .i64 z]] w1 fun e w' => e = .returned (.int .i64 e1) ∧ Below w1.heap.size w1 w') := Lib.hid fun w1 => by
    have h := checkRay_all x y z w1
    rwa [he1] at h
  have KA : Hid (∀ w1 : World, Calls Tryz.prog 54 #[.int .i64 den, .int .i64 1, .int .i64 100] w1 fun e w' => e = .returned (.int .i64 e2) ∧ Below w1.heap.size w1 w') := Lib.hid fun w1 => by
    have h := checkRange_any den 1 100 w1
    rw [he2] at h
    exact h.mono fun e w' ⟨he, hw⟩ => ⟨he, by subst hw; exact Below.refl _ _⟩
  have KB : Hid (∀ w1 : World, Calls Tryz.prog 54 #[.int .i64 num, .int .i64 0, .int .i64 den] w1 fun e w' => e = .returned (.int .i64 e3) ∧ Below w1.heap.size w1 w') := Lib.hid fun w1 => by
    have h := checkRange_any num 0 den w1
    rw [he3] at h
    exact h.mono fun e w' ⟨he, hw⟩ => ⟨he, by subst hw; exact Below.refl _ _⟩
  have hE : coneErr x y z num den = firstNZ [e1, e2, e3] := by unfold coneErr; rw [he1, he2, he3]
  rw [hE]
  have KF : Hid (∀ (w1 : World) (b : Nat), (∀ j, j < 3 → w1.cell? ⟨b, 0 + j, none⟩ = some (.int .i64 (([e1, e2, e3] : List Int)[j]?.getD 0))) → Calls Tryz.prog 42 #[.slice (some ⟨b, 0, none⟩) 3 3] w1 fun e w' => e = .returned (.int .i64 (firstNZ [e1, e2, e3])) ∧ w1 = w') := Lib.hid fun w1 b h => first_any b 0 3 3 [e1, e2, e3] rfl (by omega) w1 h
  clear hE he1 he2 he3
  go_enter Tryz.func16, Tryz.ntmps16
  go_upto_region 1 with fail
  try rw [hW0]
  clear hW0
  apply wp_region_gives 11 (fun w' => Blw W0.heap.size W0 w') [.pointer (some ⟨w.heap.size, 0, none⟩), .agg #[.int .i64 x, .int .i64 y, .int .i64 z], .int .i64 e1, .pointer (some ⟨w.heap.size, 4, none⟩), .int .i64 den, .int .i64 e2, .pointer (some ⟨w.heap.size, 3, none⟩), .int .i64 num, .pointer (some ⟨w.heap.size, 4, none⟩), .int .i64 den, .int .i64 e3] (by kernel_rfl) (by kernel_rfl) (by kernel_rfl) (show Below _ _ _ from (Below.refl _ _).drew)
  case haF =>
    simp [putJs, Act.put, List.range, List.range.loop]
    exact rfl
  case h =>
    have hBx := K0.out.2 _ (.head _)
    simp only [List.take_succ_cons, List.take_zero, GivesL]
    clear K0
    refine ⟨?_, ?_, ?_, ?_, ?_, ?_, ?_, ?_, ?_, ?_, ?_, trivial⟩
    all_goals
      intro w1 hw1
      obtain ⟨x_0, x_1, x_2, x_3, x_4⟩ := cells5 (((show Below _ _ _ from hw1).block _ (lt_of_blk hBx)).trans hBx)
      unfold Oper.wp
      simp only [execOp]
      go_simp <;> first
        | exact ⟨rfl, hw1⟩
        | ((with_reducible refine (KR.out _).mono ?_); rintro e w2 ⟨rfl, hb⟩; exact ⟨rfl, below_call hb hw1⟩)
        | ((with_reducible refine (KA.out _).mono ?_); rintro e w2 ⟨rfl, hb⟩; exact ⟨rfl, below_call hb hw1⟩)
        | ((with_reducible refine (KB.out _).mono ?_); rintro e w2 ⟨rfl, hb⟩; exact ⟨rfl, below_call hb hw1⟩)
  case ht =>
    intro w5 hw5
    have hb5 := Lib.hid ((Kp.below K0.out).trans ((show Below _ _ _ from hw5).mono (Kp.below K0.out).size))
    clear hw5 K0
    simp only [List.drop_succ_cons, List.drop_zero]
    go_wp2_with (first
      | (go_at_call 42; (with_reducible refine (KF.out _ _ ?_).mono ?_); rotate_left 1; rintro e w6 ⟨rfl, rfl⟩; rotate_left 1; (intro j hj; match j, hj with | 0, _ => simp [go_sem] | 1, _ => simp [go_sem] | 2, _ => simp [go_sem])))
    go_ret
    exact ⟨rfl, hb5.out.alloc hb5.out.size _⟩

set_option maxRecDepth 100000 in
set_option maxHeartbeats 6400000 in
theorem contains_yes (x y z num den a b c d aa pp l r : Int) (w : World)
    (KD : ∀ w1 : World, Calls Tryz.prog 74 #[.agg #[.int .i64 x, .int .i64 y, .int .i64 z], .agg #[.int .i64 a, .int .i64 b, .int .i64 c]] w1 fun e w' => e = .returned (.int .i64 d) ∧ Below w1.heap.size w1 w')
    (KM : ∀ w1 : World, Calls Tryz.prog 74 #[.agg #[.int .i64 x, .int .i64 y, .int .i64 z], .agg #[.int .i64 x, .int .i64 y, .int .i64 z]] w1 fun e w' => e = .returned (.int .i64 aa) ∧ Below w1.heap.size w1 w')
    (KN : ∀ w1 : World, Calls Tryz.prog 74 #[.agg #[.int .i64 a, .int .i64 b, .int .i64 c], .agg #[.int .i64 a, .int .i64 b, .int .i64 c]] w1 fun e w' => e = .returned (.int .i64 pp) ∧ Below w1.heap.size w1 w')
    (dd na : Int) (hd : 0 < d) (w1 : IntKind.i64.wrap (d * d) = dd) (w2 : IntKind.i64.wrap (dd * den) = l) (w3 : IntKind.i64.wrap (num * aa) = na) (w4 : IntKind.i64.wrap (na * pp) = r) :
    Calls Tryz.prog 44 #[.agg #[.int .i64 x, .int .i64 y, .int .i64 z, .int .i64 num, .int .i64 den], .agg #[.int .i64 a, .int .i64 b, .int .i64 c]] w fun e w' => e = .returned (.bool (decide (r ≤ l))) ∧ Below w.heap.size w w' := by
  obtain ⟨W0, hW0⟩ : ∃ W0, ((w.alloc (.cells #[.int .i64 x, .int .i64 y, .int .i64 z, .int .i64 num, .int .i64 den] 29)).alloc (.cells #[.int .i64 a, .int .i64 b, .int .i64 c] 94)) = W0 := ⟨_, rfl⟩
  have K0 : Hid (Kp w W0 [(w.heap.size + 1, (.cells #[.int .i64 a, .int .i64 b, .int .i64 c] 94 (0, 0))), (w.heap.size, (.cells #[.int .i64 x, .int .i64 y, .int .i64 z, .int .i64 num, .int .i64 den] 29 (0, 0)))]) := Lib.hid (by
    rw [← hW0]
    have k := (((Kp.none w).alloc (.cells #[.int .i64 x, .int .i64 y, .int .i64 z, .int .i64 num, .int .i64 den] 29)).alloc (.cells #[.int .i64 a, .int .i64 b, .int .i64 c] 94))
    simpa using k)
  have KP : Hid (∀ w1 : World, Calls Tryz.prog 45 #[.agg #[.int .i64 x, .int .i64 y, .int .i64 z]] w1 fun e w' => e = .returned (.agg #[.int .i64 x, .int .i64 y, .int .i64 z]) ∧ Below w1.heap.size w1 w') := Lib.hid fun w1 => partsOf_any x y z w1
  have HKD := Lib.hid KD
  have HKM := Lib.hid KM
  have HKN := Lib.hid KN
  clear KD KM KN
  have hd1 : ((0 : Int) < d) = True := by simp; omega
  have hd2 : decide ((0 : Int) < d) = true := by simp; omega
  clear hd
  obtain ⟨x0, x1, x2, x3, x4⟩ := cells5 (K0.out.2 _ (.tail _ (.head _)))
  go_enter Tryz.func44, Tryz.ntmps44
  go_upto_region 2 with (first
    | (go_at_call 45; (with_reducible refine (KP.out _).mono ?_); rintro e w5 ⟨rfl, hb⟩; have K5 := Lib.hid (Kp.call (show Kp w _ [(w.heap.size + 1, (.cells #[.int .i64 a, .int .i64 b, .int .i64 c] 94 (0, 0))), (w.heap.size, (.cells #[.int .i64 x, .int .i64 y, .int .i64 z, .int .i64 num, .int .i64 den] 29 (0, 0)))] from by first | (rw [hW0]; exact K0.out) | exact K0.out) hb); clear hb))
  clear x0 x1 x2 x3 x4 K0
  refine wp_world (fun w' => Kp w w' [(w5.heap.size, (.cells #[.int .i64 x, .int .i64 y, .int .i64 z] 94 (0, 0))), (w.heap.size + 1, (.cells #[.int .i64 a, .int .i64 b, .int .i64 c] 94 (0, 0))), (w.heap.size, (.cells #[.int .i64 x, .int .i64 y, .int .i64 z, .int .i64 num, .int .i64 den] 29 (0, 0)))]) (by first | exact K5.out.alloc _ | exact kp_set3 K5.out _ _ _) fun w6 k6 => ?_
  have K6 := Lib.hid k6
  obtain ⟨B5, hB5⟩ : ∃ B5, w5.heap.size = B5 := ⟨_, rfl⟩
  rw [hB5] at K6 ⊢
  clear k6 K5 hB5 KP
  obtain ⟨x0, x1, x2⟩ := cells3 (K6.out.2 _ (.head _))
  obtain ⟨y0, y1, y2⟩ := cells3 (K6.out.2 _ (.tail _ (.head _)))
  go_upto_region 3 with (first
    | (go_at_call 74; (with_reducible refine (HKD.out _).mono ?_); rintro e w7 ⟨rfl, hb⟩; have K7 := Lib.hid (K6.out.call hb); clear hb))
  clear x0 x1 x2 y0 y1 y2 K6
  apply wp_region_yields 21 (fun w' => Blw w7.heap.size w7 w') [.int .i64 d, .bool true, .bool true, .int .i64 d, .int .i64 d, .int .i64 dd, .pointer (some ⟨w.heap.size, 4, none⟩), .int .i64 den, .int .i64 l, .pointer (some ⟨w.heap.size, 3, none⟩), .int .i64 num, .agg #[.int .i64 x, .int .i64 y, .int .i64 z], .agg #[.int .i64 x, .int .i64 y, .int .i64 z], .int .i64 aa, .int .i64 na, .agg #[.int .i64 a, .int .i64 b, .int .i64 c], .agg #[.int .i64 a, .int .i64 b, .int .i64 c], .int .i64 pp, .int .i64 r, .bool (decide (r ≤ l)), .bool (decide (r ≤ l))] (by kernel_rfl) (by kernel_rfl) (show Below _ _ _ from (Below.refl _ _).drew)
  case haF =>
    simp [putJs, Act.put, List.range, List.range.loop]
    exact rfl
  case h =>
    have hBx := K7.out.2 _ (.head _)
    have hBy := K7.out.2 _ (.tail _ (.head _))
    have hBc := K7.out.2 _ (.tail _ (.tail _ (.head _)))
    simp only [List.take_succ_cons, List.take_zero, YieldsL]
    clear K7
    refine ⟨.no rfl ?_, .no rfl ?_, .no rfl ?_, .yes rfl rfl ?_, .yes rfl rfl ?_, .yes rfl rfl ?_, .yes rfl rfl ?_, .yes rfl rfl ?_, .yes rfl rfl ?_, .yes rfl rfl ?_, .yes rfl rfl ?_, .yes rfl rfl ?_, .yes rfl rfl ?_, .yes rfl rfl ?_, .yes rfl rfl ?_, .yes rfl rfl ?_, .yes rfl rfl ?_, .yes rfl rfl ?_, .yes rfl rfl ?_, .yes rfl rfl ?_, .no rfl ?_, trivial⟩
    all_goals
      intro w1 hw1
      obtain ⟨x_0, x_1, x_2⟩ := cells3 (((show Below _ _ _ from hw1).block _ (lt_of_blk hBx)).trans hBx)
      obtain ⟨y_0, y_1, y_2⟩ := cells3 (((show Below _ _ _ from hw1).block _ (lt_of_blk hBy)).trans hBy)
      obtain ⟨c_0, c_1, c_2, c_3, c_4⟩ := cells5 (((show Below _ _ _ from hw1).block _ (lt_of_blk hBc)).trans hBc)
      unfold Oper.wp
      simp only [execOp]
      go_simp <;> first
        | exact ⟨rfl, hw1⟩
        | ((with_reducible refine (HKM.out _).mono ?_); rintro e w2 ⟨rfl, hb⟩; exact ⟨rfl, below_call hb hw1⟩)
        | ((with_reducible refine (HKN.out _).mono ?_); rintro e w2 ⟨rfl, hb⟩; exact ⟨rfl, below_call hb hw1⟩)
  case ht =>
    intro w8 hw5
    have hb5 := Lib.hid ((Kp.below K7.out).trans ((show Below _ _ _ from hw5).mono (Kp.below K7.out).size))
    clear hw5 K7
    simp only [List.drop_succ_cons, List.drop_zero]
    go_wp2_with fail
    go_ret
    exact ⟨rfl, hb5.out⟩

set_option maxRecDepth 100000 in
set_option maxHeartbeats 6400000 in
theorem contains_no (x y z num den a b c d aa pp l r : Int) (w : World)
    (KD : ∀ w1 : World, Calls Tryz.prog 74 #[.agg #[.int .i64 x, .int .i64 y, .int .i64 z], .agg #[.int .i64 a, .int .i64 b, .int .i64 c]] w1 fun e w' => e = .returned (.int .i64 d) ∧ Below w1.heap.size w1 w')
    (dd na : Int) (hd : d ≤ 0)  :
    Calls Tryz.prog 44 #[.agg #[.int .i64 x, .int .i64 y, .int .i64 z, .int .i64 num, .int .i64 den], .agg #[.int .i64 a, .int .i64 b, .int .i64 c]] w fun e w' => e = .returned (.bool false) ∧ Below w.heap.size w w' := by
  obtain ⟨W0, hW0⟩ : ∃ W0, ((w.alloc (.cells #[.int .i64 x, .int .i64 y, .int .i64 z, .int .i64 num, .int .i64 den] 29)).alloc (.cells #[.int .i64 a, .int .i64 b, .int .i64 c] 94)) = W0 := ⟨_, rfl⟩
  have K0 : Hid (Kp w W0 [(w.heap.size + 1, (.cells #[.int .i64 a, .int .i64 b, .int .i64 c] 94 (0, 0))), (w.heap.size, (.cells #[.int .i64 x, .int .i64 y, .int .i64 z, .int .i64 num, .int .i64 den] 29 (0, 0)))]) := Lib.hid (by
    rw [← hW0]
    have k := (((Kp.none w).alloc (.cells #[.int .i64 x, .int .i64 y, .int .i64 z, .int .i64 num, .int .i64 den] 29)).alloc (.cells #[.int .i64 a, .int .i64 b, .int .i64 c] 94))
    simpa using k)
  have KP : Hid (∀ w1 : World, Calls Tryz.prog 45 #[.agg #[.int .i64 x, .int .i64 y, .int .i64 z]] w1 fun e w' => e = .returned (.agg #[.int .i64 x, .int .i64 y, .int .i64 z]) ∧ Below w1.heap.size w1 w') := Lib.hid fun w1 => partsOf_any x y z w1
  have HKD := Lib.hid KD
  clear KD
  have hd1 : ((0 : Int) < d) = False := by simp; omega
  have hd2 : decide ((0 : Int) < d) = false := by simp; omega
  clear hd
  obtain ⟨x0, x1, x2, x3, x4⟩ := cells5 (K0.out.2 _ (.tail _ (.head _)))
  go_enter Tryz.func44, Tryz.ntmps44
  go_upto_region 2 with (first
    | (go_at_call 45; (with_reducible refine (KP.out _).mono ?_); rintro e w5 ⟨rfl, hb⟩; have K5 := Lib.hid (Kp.call (show Kp w _ [(w.heap.size + 1, (.cells #[.int .i64 a, .int .i64 b, .int .i64 c] 94 (0, 0))), (w.heap.size, (.cells #[.int .i64 x, .int .i64 y, .int .i64 z, .int .i64 num, .int .i64 den] 29 (0, 0)))] from by first | (rw [hW0]; exact K0.out) | exact K0.out) hb); clear hb))
  clear x0 x1 x2 x3 x4 K0
  refine wp_world (fun w' => Kp w w' [(w5.heap.size, (.cells #[.int .i64 x, .int .i64 y, .int .i64 z] 94 (0, 0))), (w.heap.size + 1, (.cells #[.int .i64 a, .int .i64 b, .int .i64 c] 94 (0, 0))), (w.heap.size, (.cells #[.int .i64 x, .int .i64 y, .int .i64 z, .int .i64 num, .int .i64 den] 29 (0, 0)))]) (by first | exact K5.out.alloc _ | exact kp_set3 K5.out _ _ _) fun w6 k6 => ?_
  have K6 := Lib.hid k6
  obtain ⟨B5, hB5⟩ : ∃ B5, w5.heap.size = B5 := ⟨_, rfl⟩
  rw [hB5] at K6 ⊢
  clear k6 K5 hB5 KP
  obtain ⟨x0, x1, x2⟩ := cells3 (K6.out.2 _ (.head _))
  obtain ⟨y0, y1, y2⟩ := cells3 (K6.out.2 _ (.tail _ (.head _)))
  go_upto_region 3 with (first
    | (go_at_call 74; (with_reducible refine (HKD.out _).mono ?_); rintro e w7 ⟨rfl, hb⟩; have K7 := Lib.hid (K6.out.call hb); clear hb))
  clear x0 x1 x2 y0 y1 y2 K6
  apply wp_region_yields 21 (fun w' => Blw w7.heap.size w7 w') [.int .i64 d, .bool false, .bool false, undef, undef, undef, undef, undef, undef, undef, undef, undef, undef, undef, undef, undef, undef, undef, undef, undef, .bool false] (by kernel_rfl) (by kernel_rfl) (show Below _ _ _ from (Below.refl _ _).drew)
  case haF =>
    simp [putJs, Act.put, List.range, List.range.loop]
    exact rfl
  case h =>
    have hBx := K7.out.2 _ (.head _)
    have hBy := K7.out.2 _ (.tail _ (.head _))
    have hBc := K7.out.2 _ (.tail _ (.tail _ (.head _)))
    simp only [List.take_succ_cons, List.take_zero, YieldsL]
    clear K7
    refine ⟨.no rfl ?_, .no rfl ?_, .no rfl ?_, .not rfl rfl, .not rfl rfl, .not rfl rfl, .not rfl rfl, .not rfl rfl, .not rfl rfl, .not rfl rfl, .not rfl rfl, .not rfl rfl, .not rfl rfl, .not rfl rfl, .not rfl rfl, .not rfl rfl, .not rfl rfl, .not rfl rfl, .not rfl rfl, .not rfl rfl, .no rfl ?_, trivial⟩
    all_goals
      intro w1 hw1
      obtain ⟨x_0, x_1, x_2⟩ := cells3 (((show Below _ _ _ from hw1).block _ (lt_of_blk hBx)).trans hBx)
      obtain ⟨y_0, y_1, y_2⟩ := cells3 (((show Below _ _ _ from hw1).block _ (lt_of_blk hBy)).trans hBy)
      obtain ⟨c_0, c_1, c_2, c_3, c_4⟩ := cells5 (((show Below _ _ _ from hw1).block _ (lt_of_blk hBc)).trans hBc)
      unfold Oper.wp
      simp only [execOp]
      go_simp <;> first
        | exact ⟨rfl, hw1⟩
  case ht =>
    intro w8 hw5
    have hb5 := Lib.hid ((Kp.below K7.out).trans ((show Below _ _ _ from hw5).mono (Kp.below K7.out).size))
    clear hw5 K7
    simp only [List.drop_succ_cons, List.drop_zero]
    go_wp2_with fail
    go_ret
    exact ⟨rfl, hb5.out⟩
end Go.Proofs.YtggffhmdgceljaaGreatDoor
