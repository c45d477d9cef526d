/-
  Contract of sunAt: the sum of the two told suns next to a tick.
-/
import Derived.Test.YtggffhmdgceljaaGreatDoorRows
import Derived.WalkKit
import Derived.WalkSpells
import Derived.WalkLawsBesides
import Derived.Lib.Hide
import Derived.BigQuiet
import Derived.Deep.QuietTactic
import Derived.Handy
import Derived.Deep.RegionHeld3
import Derived.Deep.RegionWith
import Derived.StillTailTactics
import Derived.RangeFuncNested
import Derived.RangeFuncBound
import Derived.RangeFuncCalls
import Derived.RangeFuncLeaves
import Derived.RangeFuncBox
import Derived.Shelf.Abstract
import Derived.Shelf.RegionOpen
import Derived.OwnWalkIn
import Derived.TacticsInMore
import Derived.LoopNIn
import Derived.LoopIn
import Derived.Maps.AppendAt
import Derived.Test.YtggffhmdgceljaaGreatDoorProg
import Derived.Laws.FloatArith
import Derived.Laws.BitsAllLaws
import Derived.Deep.DeepCutAuto
import Derived.Stop.BytesEq
import Derived.Deep.MidRow
import Derived.Laws.CopyRow
import Derived.WalkMore
import Derived.Deep.DrawnRows
import Derived.Deep.CutBlock
import Derived.Orders
import Derived.LoopTactic
import Derived.Laws.StructEq
import Derived.Deep.RegionLaw
import Derived.RegionTactic
import Derived.StillTail
import Derived.Laws.RangeString
import Derived.Laws.RangeAny
import Derived.Test.YtggffhmdgceljaaGreatDoorOwaWn
import Derived.Test.YtggffhmdgceljaaGreatDoorOwaXe
import Derived.Test.YtggffhmdgceljaaGreatDoorOwaWa
import Derived.Test.YtggffhmdgceljaaGreatDoorOwaIb
import Derived.Test.YtggffhmdgceljaaGreatDoorOwaIl
import Derived.Test.YtggffhmdgceljaaGreatDoorOwaNd
import Derived.Test.YtggffhmdgceljaaGreatDoorOwaId
import Derived.Test.YtggffhmdgceljaaGreatDoorOwaNc
import Derived.Test.YtggffhmdgceljaaGreatDoorOwaIg
import Derived.Test.YtggffhmdgceljaaGreatDoorOwaNi
namespace Go.Proofs.YtggffhmdgceljaaGreatDoor
open Go.RowKit
set_option linter.unusedVariables false
set_option linter.unusedSimpArgs false

set_option maxRecDepth 100000 in
set_option maxHeartbeats 6400000 in
theorem sunAt_walk (sl : Value) (tick u x y z v d e f m1 m2 p1 p2 p3 r1 r2 r3 s1 s2 s3 : Int) (w : World)
    (KA : ∀ w1 : World, Below w.heap.size w w1 → Calls Tryz.prog 106 #[sl, .int .i64 tick] w1 fun r w' => r = .returned (.tuple #[.agg #[.int .i64 u, .int .i64 x, .int .i64 y, .int .i64 z], .agg #[.int .i64 v, .int .i64 d, .int .i64 e, .int .i64 f]]) ∧ Below w1.heap.size w1 w')
    (wv : IntKind.i64.wrap (v - tick) = m1) (wu : IntKind.i64.wrap (tick - u) = m2)
    (KT : ∀ w1 : World, Calls Tryz.prog 69 #[.agg #[.int .i64 x, .int .i64 y, .int .i64 z], .int .i64 m1] w1 fun r w' => r = .returned (.agg #[.int .i64 p1, .int .i64 p2, .int .i64 p3]) ∧ Below w1.heap.size w1 w')
    (KU : ∀ w1 : World, Calls Tryz.prog 69 #[.agg #[.int .i64 d, .int .i64 e, .int .i64 f], .int .i64 m2] w1 fun r w' => r = .returned (.agg #[.int .i64 r1, .int .i64 r2, .int .i64 r3]) ∧ Below w1.heap.size w1 w')
    (KS : ∀ w1 : World, Calls Tryz.prog 70 #[.agg #[.int .i64 p1, .int .i64 p2, .int .i64 p3], .agg #[.int .i64 r1, .int .i64 r2, .int .i64 r3]] w1 fun r w' => r = .returned (.agg #[.int .i64 s1, .int .i64 s2, .int .i64 s3]) ∧ Below w1.heap.size w1 w') :
    Calls Tryz.prog 84 #[sl, .int .i64 tick] w fun r w' => r = .returned (.agg #[.int .i64 s1, .int .i64 s2, .int .i64 s3]) ∧ Below w.heap.size w w' := by
  have HKA := Lib.hid KA
  have HKT := Lib.hid KT
  have HKU := Lib.hid KU
  have HKS := Lib.hid KS
  clear KA KT KU KS
  have KP : Hid (∀ w1 : World, Calls Tryz.prog 45 #[.agg #[.int .i64 x, .int .i64 y, .int .i64 z]] w1 fun r w' => r = .returned (.agg #[.int .i64 x, .int .i64 y, .int .i64 z]) ∧ Below w1.heap.size w1 w') := Lib.hid fun w1 => partsOf_any x y z w1
  have KQ : Hid (∀ w1 : World, Calls Tryz.prog 45 #[.agg #[.int .i64 d, .int .i64 e, .int .i64 f]] w1 fun r w' => r = .returned (.agg #[.int .i64 d, .int .i64 e, .int .i64 f]) ∧ Below w1.heap.size w1 w') := Lib.hid fun w1 => partsOf_any d e f w1
  obtain ⟨W0, hW0⟩ : ∃ W0, (w.alloc (.cells #[.int .i64 0, .int .i64 0, .int .i64 0] 94)) = W0 := ⟨_, rfl⟩
  have K0 : Hid (Kp w W0 [(w.heap.size, (.cells #[.int .i64 0, .int .i64 0, .int .i64 0] 94 (0, 0)))]) := Lib.hid (by
    rw [← hW0]
    have k := ((Kp.none w).alloc (.cells #[.int .i64 0, .int .i64 0, .int .i64 0] 94))
    simpa using k)
  go_enter Tryz.func84, Tryz.ntmps84
  go_upto_region 1 with fail
  try rw [hW0]
  clear hW0
  have hKA := Lib.hid (HKA.out W0 (Kp.below K0.out))
  go_upto_region 2 with (first
    | (go_at_call 106; (with_reducible refine hKA.out.mono ?_); rintro r w2 ⟨rfl, hb⟩; have K2 := Lib.hid (K0.out.call hb); clear hb K0 hKA HKA))
  refine wp_world (fun w' => Kp w w' [(w2.heap.size + 1, (.cells #[.int .i64 v, .int .i64 d, .int .i64 e, .int .i64 f] 139 (0, 0))), (w2.heap.size, (.cells #[.int .i64 u, .int .i64 x, .int .i64 y, .int .i64 z] 139 (0, 0))), (w.heap.size, (.cells #[.int .i64 0, .int .i64 0, .int .i64 0] 94 (0, 0)))]) (by have k := (K2.out.alloc (.cells #[.int .i64 u, .int .i64 x, .int .i64 y, .int .i64 z] 139)).alloc (.cells #[.int .i64 v, .int .i64 d, .int .i64 e, .int .i64 f] 139); simpa using k) fun w3 k3 => ?_
  have K3 := Lib.hid k3
  clear k3
  obtain ⟨B5, hB5⟩ : ∃ B5, w2.heap.size = B5 := ⟨_, rfl⟩
  have hB6 : w2.heap.size + 1 = B5 + 1 := by rw [hB5]
  try rw [World.size_alloc] at K3
  try rw [World.size_alloc]
  rw [hB5] at K3 ⊢
  clear hB5 hB6 K2
  go_cut [7, 8] (fun s7 s8 wr => ∃ Bp Bq : Nat, s7 = .pointer (some ⟨Bp, 0, none⟩) ∧ s8 = .pointer (some ⟨Bq, 0, none⟩) ∧ Kp w wr [(Bp, (.cells #[.int .i64 x, .int .i64 y, .int .i64 z] 94 (0, 0))), (Bq, (.cells #[.int .i64 d, .int .i64 e, .int .i64 f] 94 (0, 0))), (B5 + 1, (.cells #[.int .i64 v, .int .i64 d, .int .i64 e, .int .i64 f] 139 (0, 0))), (B5, (.cells #[.int .i64 u, .int .i64 x, .int .i64 y, .int .i64 z] 139 (0, 0))), (w.heap.size, (.cells #[.int .i64 0, .int .i64 0, .int .i64 0] 94 (0, 0)))])
  case first =>
    apply wp_region_put2 6 8 7 9 [false, false, false, false, false, false, true, true, true, true] (.int .i64 0) (.int .i64 0) (.int .i64 0) (.int .i64 0) (.int .i64 0) (.int .i64 0) (.int .i64 x) (.int .i64 y) (.int .i64 z) (.int .i64 d) (.int .i64 e) (.int .i64 f) 94 94 [.pointer (some ⟨B5, 1, none⟩), .agg #[.int .i64 x, .int .i64 y, .int .i64 z], .agg #[.int .i64 x, .int .i64 y, .int .i64 z], .pointer (some ⟨B5 + 1, 1, none⟩), .agg #[.int .i64 d, .int .i64 e, .int .i64 f], .agg #[.int .i64 d, .int .i64 e, .int .i64 f], undef, undef, undef, undef] _ _ _ _ (by kernel_rfl) (by kernel_rfl) (by decide) ⟨by kernel_rfl, by kernel_rfl⟩ rfl rfl rfl rfl rfl rfl
    case hz1 =>
      intro b w1
      simp only [execOp]
      go_simp
    case hz2 =>
      intro b w1
      simp only [execOp]
      go_simp
    case haF =>
      intro u v
      simp [putJs, upd1, Act.put, List.range, List.range.loop]
      exact rfl
    case hG =>
      intro u v Tt hT
      have hBx := K3.out.2 _ (.tail _ (.head _))
      have hBy := K3.out.2 _ (.head _)
      simp only [GivesM]
      clear K3
      refine ⟨?_, ?_, ?_, ?_, ?_, ?_, trivial⟩
      all_goals
        intro w1 hw
        obtain ⟨hw1, ht1⟩ := hw
        obtain ⟨x_0, x_1, x_2, x_3⟩ := cells4 (((show Below _ _ _ from hw1).block _ (lt_of_blk hBx)).trans hBx)
        obtain ⟨y_0, y_1, y_2, y_3⟩ := cells4 (((show Below _ _ _ from hw1).block _ (lt_of_blk hBy)).trans hBy)
        unfold Oper.wp
        simp only [execOp]
        go_simp <;> first
          | exact ⟨rfl, hw1, ht1⟩
          | exact ht1
          | exact ⟨hw1, ht1⟩
          | ((with_reducible refine (KP.out _).mono ?_); rintro e w2 ⟨rfl, hb⟩; exact ⟨rfl, below_call hb hw1, hT _ _ ht1 hb⟩)
          | ((with_reducible refine (KQ.out _).mono ?_); rintro e w2 ⟨rfl, hb⟩; exact ⟨rfl, below_call hb hw1, hT _ _ ht1 hb⟩)
    case hS1 =>
      intro B v w1 hb
      obtain ⟨m0, m1, m2⟩ := cells3 hb
      have mz : ∀ j, w1.frozen? ⟨B, j, none⟩ = false := fun j => frozen_of_row w1 B j _ _ hb
      unfold Oper.wp
      simp only [execOp]
      go_simp
      exact rfl
    case hS2 =>
      intro u B w1 hb
      obtain ⟨m0, m1, m2⟩ := cells3 hb
      have mz : ∀ j, w1.frozen? ⟨B, j, none⟩ = false := fun j => frozen_of_row w1 B j _ _ hb
      unfold Oper.wp
      simp only [execOp]
      go_simp
      exact rfl
    case hQ =>
      intro B1 B2 wr hne h1 h2 hb h3 h4
      rename_i hJ
      refine hJ _ _ ?_
      go_meet
      exact ⟨B1, B2, rfl, rfl, kp_two K3.out hb h3 h4⟩
  case rest =>
    rename_i hK
    obtain ⟨Bp, Bq, rfl, rfl, hk⟩ := hcut
    refine hK _ _ ?_
    clear hK K3
    have K4 := Lib.hid hk
    clear hk
    go_upto_region 3 with fail
    apply wp_region_gives 13 (fun w' => Blw wc.heap.size wc w') [.agg #[.int .i64 x, .int .i64 y, .int .i64 z], .pointer (some ⟨B5 + 1, 0, none⟩), .int .i64 v, .int .i64 tick, .int .i64 m1, .agg #[.int .i64 p1, .int .i64 p2, .int .i64 p3], .agg #[.int .i64 d, .int .i64 e, .int .i64 f], .int .i64 tick, .pointer (some ⟨B5, 0, none⟩), .int .i64 u, .int .i64 m2, .agg #[.int .i64 r1, .int .i64 r2, .int .i64 r3], .agg #[.int .i64 s1, .int .i64 s2, .int .i64 s3]] (by kernel_rfl) (by kernel_rfl) (by kernel_rfl) (show Below _ _ _ from (Below.refl _ _).drew)
    case haF =>
      simp [putJs, Act.put, List.range, List.range.loop]
      exact rfl
    case h =>
      have hBx := K4.out.2 _ (.head _)
      have hBy := K4.out.2 _ (.tail _ (.head _))
      have hBz := K4.out.2 _ (.tail _ (.tail _ (.head _)))
      have hBv := K4.out.2 _ (.tail _ (.tail _ (.tail _ (.head _))))
      simp only [List.take_succ_cons, List.take_zero, GivesL]
      clear K4
      refine ⟨?_, ?_, ?_, ?_, ?_, ?_, ?_, ?_, ?_, ?_, ?_, ?_, ?_, trivial⟩
      all_goals
        intro w1 hw1
        obtain ⟨x_0, x_1, x_2⟩ := cells3 (((show Below _ _ _ from hw1).block _ (lt_of_blk hBx)).trans hBx)
        obtain ⟨y_0, y_1, y_2⟩ := cells3 (((show Below _ _ _ from hw1).block _ (lt_of_blk hBy)).trans hBy)
        obtain ⟨z_0, z_1, z_2, z_3⟩ := cells4 (((show Below _ _ _ from hw1).block _ (lt_of_blk hBz)).trans hBz)
        obtain ⟨v_0, v_1, v_2, v_3⟩ := cells4 (((show Below _ _ _ from hw1).block _ (lt_of_blk hBv)).trans hBv)
        unfold Oper.wp
        simp only [execOp]
        go_simp <;> first
          | exact ⟨rfl, hw1⟩
          | ((with_reducible refine (HKT.out _).mono ?_); rintro e w2 ⟨rfl, hb⟩; exact ⟨rfl, below_call hb hw1⟩)
          | ((with_reducible refine (HKU.out _).mono ?_); rintro e w2 ⟨rfl, hb⟩; exact ⟨rfl, below_call hb hw1⟩)
          | ((with_reducible refine (HKS.out _).mono ?_); rintro e w2 ⟨rfl, hb⟩; exact ⟨rfl, below_call hb hw1⟩)
    case ht =>
      intro w5 hw5
      have K5 := Lib.hid (K4.out.call (show Below _ _ _ from hw5))
      clear hw5 K4
      simp only [List.drop_succ_cons, List.drop_zero]
      obtain ⟨o0, o1, o2⟩ := cells3 (K5.out.2 _ (.tail _ (.tail _ (.tail _ (.tail _ (.head _))))))
      have oz : ∀ j, w5.frozen? ⟨w.heap.size, j, none⟩ = false := fun j => frozen_of_row w5 (w.heap.size) j _ _ (K5.out.2 _ (.tail _ (.tail _ (.tail _ (.tail _ (.head _))))))
      have hb5 := Lib.hid (Kp.below K5.out)
      clear K5
      go_wp2_with fail
      refine bodyPost_ret (v := .agg #[.int .i64 s1, .int .i64 s2, .int .i64 s3]) (by simp [results, Tryz.results84, go_sem, o0, o1, o2]) rfl ⟨rfl, ?_⟩
      exact ((hb5.out.setCell (Nat.le_refl _) _).setCell (Nat.le_refl _) _).setCell (Nat.le_refl _) _
end Go.Proofs.YtggffhmdgceljaaGreatDoor
