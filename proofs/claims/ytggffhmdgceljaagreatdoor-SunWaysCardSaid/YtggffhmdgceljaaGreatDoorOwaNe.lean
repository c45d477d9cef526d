/-
  Contract of Hit, for rays and places, where the ray has a speed.
-/
import Derived.Test.YtggffhmdgceljaaGreatDoorRows
import Derived.WalkKit
import Derived.WalkSpells
import Derived.WalkLawsBesides
import Derived.Lib.Hide
import Derived.BigQuiet
import Derived.Deep.QuietTactic
import Derived.Handy
import Derived.Deep.RegionHeld3
import Derived.Deep.RegionWith
import Derived.StillTailTactics
import Derived.RangeFuncNested
import Derived.RangeFuncBound
import Derived.RangeFuncCalls
import Derived.RangeFuncLeaves
import Derived.RangeFuncBox
import Derived.Shelf.Abstract
import Derived.Shelf.RegionOpen
import Derived.OwnWalkIn
import Derived.TacticsInMore
import Derived.LoopNIn
import Derived.LoopIn
import Derived.Maps.AppendAt
import Derived.Test.YtggffhmdgceljaaGreatDoorProg
import Derived.Laws.FloatArith
import Derived.Laws.BitsAllLaws
import Derived.Deep.DeepCutAuto
import Derived.Stop.BytesEq
import Derived.Deep.MidRow
import Derived.Laws.CopyRow
import Derived.WalkMore
import Derived.Deep.DrawnRows
import Derived.Deep.CutBlock
import Derived.Orders
import Derived.LoopTactic
import Derived.Laws.StructEq
import Derived.Deep.RegionLaw
import Derived.RegionTactic
import Derived.StillTail
import Derived.Test.YtggffhmdgceljaaGreatDoorOwaWn
import Derived.Test.YtggffhmdgceljaaGreatDoorOwaWa
import Derived.Test.YtggffhmdgceljaaGreatDoorOwaXe
import Derived.Test.YtggffhmdgceljaaGreatDoorOwaIb
import Derived.Test.YtggffhmdgceljaaGreatDoorOwaIl
import Derived.Test.YtggffhmdgceljaaGreatDoorOwaNd
import Derived.Test.YtggffhmdgceljaaGreatDoorOwaWi
import Derived.Test.YtggffhmdgceljaaGreatDoorOwaId
namespace Go.Proofs.YtggffhmdgceljaaGreatDoor
open Go.RowKit
set_option linter.unusedVariables false
set_option linter.unusedSimpArgs false

theorem kp_made {w wc w5 : World} {l : List (Nat × Obj)} (h : Kp w wc l) (hw : Blw wc.heap.size wc w5) {B : Nat} {T : TypeId} {u v t : Value} (hB : wc.heap.size ≤ B) (hm : w5.heap[B]? = some (.cells #[u, v, t] T (0, 0))) (a b c : Value) :
    Kp w (put3 w5 B a b c) ((B, .cells #[a, b, c] T (0, 0)) :: l) := by
  have hw : Below wc.heap.size wc w5 := hw
  have h1 := h.call hw
  have hwB : w.heap.size ≤ B := Nat.le_trans (Kp.below h).size hB
  refine ⟨put3_below h1.1 hwB _ _ _, fun p hp => ?_⟩
  rcases List.mem_cons.1 hp with rfl | hp
  · exact put3_self hm _ _ _
  · have h2 := h.2 p hp
    have h3 := lt_of_blk h2
    rw [put3_other _ (by omega)]
    exact h1.2 p hp

set_option maxRecDepth 100000 in
set_option maxHeartbeats 6400000 in
theorem hit_ok (u1 u2 u3 d1 d2 d3 p1 p2 p3 n1 n2 n3 s t1 t2 t3 e1 e2 e3 g q r : Int)
    (h1 : vectorErr u1 u2 u3 = 0) (h2 : rayErr d1 d2 d3 = 0) (h3 : vectorErr p1 p2 p3 = 0) (h4 : rayErr n1 n2 n3 = 0) (w : World)
    (KD : ∀ w1 : World, Calls Tryz.prog 74 #[.agg #[.int .i64 d1, .int .i64 d2, .int .i64 d3], .agg #[.int .i64 n1, .int .i64 n2, .int .i64 n3]] w1 fun e w' => e = .returned (.int .i64 s) ∧ Below w1.heap.size w1 w')
    (hs : s ≠ 0)
    (KT : ∀ w1 : World, Calls Tryz.prog 69 #[.agg #[.int .i64 u1, .int .i64 u2, .int .i64 u3], .int .i64 (-1)] w1 fun e w' => e = .returned (.agg #[.int .i64 t1, .int .i64 t2, .int .i64 t3]) ∧ Below w1.heap.size w1 w')
    (KA : ∀ w1 : World, Calls Tryz.prog 70 #[.agg #[.int .i64 p1, .int .i64 p2, .int .i64 p3], .agg #[.int .i64 t1, .int .i64 t2, .int .i64 t3]] w1 fun e w' => e = .returned (.agg #[.int .i64 e1, .int .i64 e2, .int .i64 e3]) ∧ Below w1.heap.size w1 w')
    (KG : ∀ w1 : World, Calls Tryz.prog 74 #[.agg #[.int .i64 e1, .int .i64 e2, .int .i64 e3], .agg #[.int .i64 n1, .int .i64 n2, .int .i64 n3]] w1 fun e w' => e = .returned (.int .i64 g) ∧ Below w1.heap.size w1 w')
    (KQ : ∀ w1 : World, Calls Tryz.prog 76 #[.int .i64 g, .int .i64 s] w1 fun e w' => e = .returned (.agg #[.int .i64 q, .int .i64 r]) ∧ Below w1.heap.size w1 w') :
    Calls Tryz.prog 56 #[.agg #[.int .i64 u1, .int .i64 u2, .int .i64 u3], .agg #[.int .i64 d1, .int .i64 d2, .int .i64 d3], .agg #[.int .i64 p1, .int .i64 p2, .int .i64 p3], .agg #[.int .i64 n1, .int .i64 n2, .int .i64 n3]] w fun e w' => e = .returned (.tuple #[.agg #[.int .i64 q, .int .i64 r], .int .i64 0]) ∧ Below w.heap.size w w' := by
  have KX : Hid (∀ w1 : World, Calls Tryz.prog 87 #[.agg #[.int .i64 u1, .int .i64 u2, .int .i64 u3]] w1 fun e w' => e = .returned (.int .i64 0) ∧ Below w1.heap.size w1 w') := Lib.hid fun w1 => by
    have h := lightCheckVector_all u1 u2 u3 w1
    rwa [h1] at h
  have KY : Hid (∀ w1 : World, Calls Tryz.prog 43 #[.agg #[.int .i64 d1, .int .i64 d2, .int .i64 d3]] w1 fun e w' => e = .returned (.int .i64 0) ∧ Below w1.heap.size w1 w') := Lib.hid fun w1 => by
    have h := checkRay_all d1 d2 d3 w1
    rwa [h2] at h
  have KZ : Hid (∀ w1 : World, Calls Tryz.prog 87 #[.agg #[.int .i64 p1, .int .i64 p2, .int .i64 p3]] w1 fun e w' => e = .returned (.int .i64 0) ∧ Below w1.heap.size w1 w') := Lib.hid fun w1 => by
    have h := lightCheckVector_all p1 p2 p3 w1
    rwa [h3] at h
  have KW : Hid (∀ w1 : World, Calls Tryz.prog 43 #[.agg #[.int .i64 n1, .int .i64 n2, .int .i64 n3]] w1 fun e w' => e = .returned (.int .i64 0) ∧ Below w1.heap.size w1 w') := Lib.hid fun w1 => by
    have h := checkRay_all n1 n2 n3 w1
    rwa [h4] at h
  have KP0 : Hid (∀ w1 : World, Calls Tryz.prog 45 #[.agg #[.int .i64 u1, .int .i64 u2, .int .i64 u3]] w1 fun e w' => e = .returned (.agg #[.int .i64 u1, .int .i64 u2, .int .i64 u3]) ∧ Below w1.heap.size w1 w') := Lib.hid fun w1 => partsOf_any u1 u2 u3 w1
  have KP1 : Hid (∀ w1 : World, Calls Tryz.prog 45 #[.agg #[.int .i64 d1, .int .i64 d2, .int .i64 d3]] w1 fun e w' => e = .returned (.agg #[.int .i64 d1, .int .i64 d2, .int .i64 d3]) ∧ Below w1.heap.size w1 w') := Lib.hid fun w1 => partsOf_any d1 d2 d3 w1
  have KP2 : Hid (∀ w1 : World, Calls Tryz.prog 45 #[.agg #[.int .i64 p1, .int .i64 p2, .int .i64 p3]] w1 fun e w' => e = .returned (.agg #[.int .i64 p1, .int .i64 p2, .int .i64 p3]) ∧ Below w1.heap.size w1 w') := Lib.hid fun w1 => partsOf_any p1 p2 p3 w1
  have KP3 : Hid (∀ w1 : World, Calls Tryz.prog 45 #[.agg #[.int .i64 n1, .int .i64 n2, .int .i64 n3]] w1 fun e w' => e = .returned (.agg #[.int .i64 n1, .int .i64 n2, .int .i64 n3]) ∧ Below w1.heap.size w1 w') := Lib.hid fun w1 => partsOf_any n1 n2 n3 w1
  have KF : Hid (∀ (w1 : World) (b : Nat), (∀ j, j < 4 → w1.cell? ⟨b, 0 + j, none⟩ = some (.int .i64 (([0, 0, 0, 0] : List Int)[j]?.getD 0))) → Calls Tryz.prog 42 #[.slice (some ⟨b, 0, none⟩) 4 4] w1 fun e w' => e = .returned (.int .i64 0) ∧ w1 = w') := Lib.hid fun w1 b h => first_any b 0 4 4 [0, 0, 0, 0] rfl (by omega) w1 h
  have hsf : (s == 0) = false := by simp [hs]
  clear h1 h2 h3 h4 hs
  have HKD := Lib.hid KD
  have HKT := Lib.hid KT
  have HKA := Lib.hid KA
  have HKG := Lib.hid KG
  have HKQ := Lib.hid KQ
  clear KD KT KA KG KQ
  obtain ⟨W0, hW0⟩ : ∃ W0, (((((w.alloc (.cells #[.int .i64 u1, .int .i64 u2, .int .i64 u3] 23)).alloc (.cells #[.int .i64 d1, .int .i64 d2, .int .i64 d3] 23)).alloc (.cells #[.int .i64 p1, .int .i64 p2, .int .i64 p3] 23)).alloc (.cells #[.int .i64 n1, .int .i64 n2, .int .i64 n3] 23)).alloc (.cells #[.int .i64 0, .int .i64 0] 56)) = W0 := ⟨_, rfl⟩
  have K0 : Hid (Kp w W0 [(w.heap.size + 1 + 1 + 1 + 1, (.cells #[.int .i64 0, .int .i64 0] 56 (0, 0))), (w.heap.size + 1 + 1 + 1, (.cells #[.int .i64 n1, .int .i64 n2, .int .i64 n3] 23 (0, 0))), (w.heap.size + 1 + 1, (.cells #[.int .i64 p1, .int .i64 p2, .int .i64 p3] 23 (0, 0))), (w.heap.size + 1, (.cells #[.int .i64 d1, .int .i64 d2, .int .i64 d3] 23 (0, 0))), (w.heap.size, (.cells #[.int .i64 u1, .int .i64 u2, .int .i64 u3] 23 (0, 0)))]) := Lib.hid (by
    rw [← hW0]
    have k := ((((((Kp.none w).alloc (.cells #[.int .i64 u1, .int .i64 u2, .int .i64 u3] 23)).alloc (.cells #[.int .i64 d1, .int .i64 d2, .int .i64 d3] 23)).alloc (.cells #[.int .i64 p1, .int .i64 p2, .int .i64 p3] 23)).alloc (.cells #[.int .i64 n1, .int .i64 n2, .int .i64 n3] 23)).alloc (.cells #[.int .i64 0, .int .i64 0] 56))
    simpa using k)
  go_enter Tryz.func56, Tryz.ntmps56
  go_upto_region 1 with fail
  try rw [hW0]
  clear hW0
  apply wp_region_gives 8 (fun w' => Blw W0.heap.size W0 w') [.agg #[.int .i64 u1, .int .i64 u2, .int .i64 u3], .int .i64 0, .agg #[.int .i64 d1, .int .i64 d2, .int .i64 d3], .int .i64 0, .agg #[.int .i64 p1, .int .i64 p2, .int .i64 p3], .int .i64 0, .agg #[.int .i64 n1, .int .i64 n2, .int .i64 n3], .int .i64 0] (by kernel_rfl) (by kernel_rfl) (by kernel_rfl) (show Below _ _ _ from (Below.refl _ _).drew)
  case haF =>
    simp [putJs, Act.put, List.range, List.range.loop]
    exact rfl
  case h =>
    have hBx := K0.out.2 _ (.tail _ (.tail _ (.tail _ (.tail _ (.head _)))))
    have hBy := K0.out.2 _ (.tail _ (.tail _ (.tail _ (.head _))))
    have hBz := K0.out.2 _ (.tail _ (.tail _ (.head _)))
    have hBv := K0.out.2 _ (.tail _ (.head _))
    simp only [List.take_succ_cons, List.take_zero, GivesL]
    clear K0
    refine ⟨?_, ?_, ?_, ?_, ?_, ?_, ?_, ?_, trivial⟩
    all_goals
      intro w1 hw1
      obtain ⟨x_0, x_1, x_2⟩ := cells3 (((show Below _ _ _ from hw1).block _ (lt_of_blk hBx)).trans hBx)
      obtain ⟨y_0, y_1, y_2⟩ := cells3 (((show Below _ _ _ from hw1).block _ (lt_of_blk hBy)).trans hBy)
      obtain ⟨z_0, z_1, z_2⟩ := cells3 (((show Below _ _ _ from hw1).block _ (lt_of_blk hBz)).trans hBz)
      obtain ⟨v_0, v_1, v_2⟩ := cells3 (((show Below _ _ _ from hw1).block _ (lt_of_blk hBv)).trans hBv)
      unfold Oper.wp
      simp only [execOp]
      go_simp <;> first
        | exact ⟨rfl, hw1⟩
        | ((with_reducible refine (KX.out _).mono ?_); rintro e w2 ⟨rfl, hb⟩; exact ⟨rfl, below_call hb hw1⟩)
        | ((with_reducible refine (KY.out _).mono ?_); rintro e w2 ⟨rfl, hb⟩; exact ⟨rfl, below_call hb hw1⟩)
        | ((with_reducible refine (KZ.out _).mono ?_); rintro e w2 ⟨rfl, hb⟩; exact ⟨rfl, below_call hb hw1⟩)
        | ((with_reducible refine (KW.out _).mono ?_); rintro e w2 ⟨rfl, hb⟩; exact ⟨rfl, below_call hb hw1⟩)
  case ht =>
    intro w2 hw5
    have K2 := Lib.hid (K0.out.call (show Below _ _ _ from hw5))
    clear hw5 K0
    simp only [List.drop_succ_cons, List.drop_zero]
    clear KX KY KZ KW
    go_upto_region 4 with (first
      | (go_at_call 42; (with_reducible refine (KF.out _ _ ?_).mono ?_); rotate_left 1; rintro e w6 ⟨rfl, rfl⟩; rotate_left 1; (intro j hj; match j, hj with | 0, _ => simp [go_sem] | 1, _ => simp [go_sem] | 2, _ => simp [go_sem] | 3, _ => simp [go_sem])))
    refine wp_world (fun w' => Kp w w' [(w.heap.size + 1 + 1 + 1 + 1, (.cells #[.int .i64 0, .int .i64 0] 56 (0, 0))), (w.heap.size + 1 + 1 + 1, (.cells #[.int .i64 n1, .int .i64 n2, .int .i64 n3] 23 (0, 0))), (w.heap.size + 1 + 1, (.cells #[.int .i64 p1, .int .i64 p2, .int .i64 p3] 23 (0, 0))), (w.heap.size + 1, (.cells #[.int .i64 d1, .int .i64 d2, .int .i64 d3] 23 (0, 0))), (w.heap.size, (.cells #[.int .i64 u1, .int .i64 u2, .int .i64 u3] 23 (0, 0)))]) (by exact K2.out.call ((Below.refl _ _).alloc (Nat.le_refl _) _)) fun w3 k3 => ?_
    have K3 := Lib.hid k3
    clear k3 K2 KF
    obtain ⟨n0, n1, n2⟩ := cells3 (K3.out.2 _ (.tail _ (.head _)))
    go_upto_region 5 with (first
      | (go_at_call 45; (with_reducible refine (KP3.out _).mono ?_); rintro e w7 ⟨rfl, hb⟩; have K7 := Lib.hid (K3.out.call hb); clear hb n0 n1 n2 K3))
    refine wp_world (fun w' => Kp w w' [(w7.heap.size, (.cells #[.int .i64 n1, .int .i64 n2, .int .i64 n3] 94 (0, 0))), (w.heap.size + 1 + 1 + 1 + 1, (.cells #[.int .i64 0, .int .i64 0] 56 (0, 0))), (w.heap.size + 1 + 1 + 1, (.cells #[.int .i64 n1, .int .i64 n2, .int .i64 n3] 23 (0, 0))), (w.heap.size + 1 + 1, (.cells #[.int .i64 p1, .int .i64 p2, .int .i64 p3] 23 (0, 0))), (w.heap.size + 1, (.cells #[.int .i64 d1, .int .i64 d2, .int .i64 d3] 23 (0, 0))), (w.heap.size, (.cells #[.int .i64 u1, .int .i64 u2, .int .i64 u3] 23 (0, 0)))]) (by exact K7.out.alloc _) fun w8 k8 => ?_
    have K8 := Lib.hid k8
    clear k8
    obtain ⟨Bn, hBn⟩ : ∃ Bn, w7.heap.size = Bn := ⟨_, rfl⟩
    rw [hBn] at K8 ⊢
    clear hBn K7
    apply wp_region_gives 4 (fun w' => Blw w8.heap.size w8 w') [.agg #[.int .i64 d1, .int .i64 d2, .int .i64 d3], .agg #[.int .i64 d1, .int .i64 d2, .int .i64 d3], .agg #[.int .i64 n1, .int .i64 n2, .int .i64 n3], .int .i64 s] (by kernel_rfl) (by kernel_rfl) (by kernel_rfl) (show Below _ _ _ from (Below.refl _ _).drew)
    case haF =>
      simp [putJs, Act.put, List.range, List.range.loop]
      exact rfl
    case h =>
      have hBy := K8.out.2 _ (.tail _ (.tail _ (.tail _ (.tail _ (.head _)))))
      have hBv := K8.out.2 _ (.head _)
      simp only [List.take_succ_cons, List.take_zero, GivesL]
      clear K8
      refine ⟨?_, ?_, ?_, ?_, trivial⟩
      all_goals
        intro w1 hw1
        obtain ⟨y_0, y_1, y_2⟩ := cells3 (((show Below _ _ _ from hw1).block _ (lt_of_blk hBy)).trans hBy)
        obtain ⟨v_0, v_1, v_2⟩ := cells3 (((show Below _ _ _ from hw1).block _ (lt_of_blk hBv)).trans hBv)
        unfold Oper.wp
        simp only [execOp]
        go_simp <;> first
          | exact ⟨rfl, hw1⟩
          | ((with_reducible refine (KP1.out _).mono ?_); rintro e w2 ⟨rfl, hb⟩; exact ⟨rfl, below_call hb hw1⟩)
          | ((with_reducible refine (HKD.out _).mono ?_); rintro e w2 ⟨rfl, hb⟩; exact ⟨rfl, below_call hb hw1⟩)
    case ht =>
      intro w9 hw5
      have K9 := Lib.hid (K8.out.call (show Below _ _ _ from hw5))
      clear hw5 K8
      simp only [List.drop_succ_cons, List.drop_zero]
      go_upto_region 8 with fail
      apply wp_region_alloc 7 6 #[.int .i64 0, .int .i64 0, .int .i64 0] 94 [.agg #[.int .i64 p1, .int .i64 p2, .int .i64 p3], .agg #[.int .i64 p1, .int .i64 p2, .int .i64 p3], .agg #[.int .i64 u1, .int .i64 u2, .int .i64 u3], .agg #[.int .i64 u1, .int .i64 u2, .int .i64 u3], .agg #[.int .i64 t1, .int .i64 t2, .int .i64 t3], .agg #[.int .i64 e1, .int .i64 e2, .int .i64 e3], undef] _ (by kernel_rfl) (by kernel_rfl) (by decide) (by kernel_rfl) rfl
      case hz =>
        intro b w1
        simp only [execOp]
        go_simp
      case haF =>
        intro v
        simp [putJs, upd1, Act.put, List.range, List.range.loop]
        exact rfl
      case h =>
        intro v Tt hT
        have hBx := K9.out.2 _ (.tail _ (.tail _ (.tail _ (.head _))))
        have hBy := K9.out.2 _ (.tail _ (.tail _ (.tail _ (.tail _ (.tail _ (.head _))))))
        simp only [List.take_succ_cons, List.take_zero, GivesK, GivesL]
        clear K9
        refine ⟨?_, ?_, ?_, ?_, ?_, ?_, trivial⟩
        all_goals
          intro w1 hw
          obtain ⟨hw1, ht1⟩ := hw
          obtain ⟨x_0, x_1, x_2⟩ := cells3 (((show Below _ _ _ from hw1).block _ (lt_of_blk hBx)).trans hBx)
          obtain ⟨y_0, y_1, y_2⟩ := cells3 (((show Below _ _ _ from hw1).block _ (lt_of_blk hBy)).trans hBy)
          unfold Oper.wp
          simp only [execOp]
          go_simp <;> first
            | exact ⟨rfl, hw1, ht1⟩
            | exact ht1
            | exact ⟨hw1, ht1⟩
            | ((with_reducible refine (KP2.out _).mono ?_); rintro e w2 ⟨rfl, hb⟩; exact ⟨rfl, below_call hb hw1, hT _ _ ht1 hb⟩)
            | ((with_reducible refine (KP0.out _).mono ?_); rintro e w2 ⟨rfl, hb⟩; exact ⟨rfl, below_call hb hw1, hT _ _ ht1 hb⟩)
            | ((with_reducible refine (HKT.out _).mono ?_); rintro e w2 ⟨rfl, hb⟩; exact ⟨rfl, below_call hb hw1, hT _ _ ht1 hb⟩)
            | ((with_reducible refine (HKA.out _).mono ?_); rintro e w2 ⟨rfl, hb⟩; exact ⟨rfl, below_call hb hw1, hT _ _ ht1 hb⟩)
      case ht =>
        intro Bd w5 hBd hw5 hm
        simp only [List.drop_succ_cons, List.drop_zero]
        obtain ⟨m0, m1, m2⟩ := cells3 hm
        have mz : ∀ j, w5.frozen? ⟨Bd, j, none⟩ = false := fun j => frozen_of_row w5 Bd j _ _ hm
        go_upto_region 9 with fail
        refine wp_world (fun w' => Kp w w' [(Bd, (.cells #[.int .i64 e1, .int .i64 e2, .int .i64 e3] 94 (0, 0))), (Bn, (.cells #[.int .i64 n1, .int .i64 n2, .int .i64 n3] 94 (0, 0))), (w.heap.size + 1 + 1 + 1 + 1, (.cells #[.int .i64 0, .int .i64 0] 56 (0, 0))), (w.heap.size + 1 + 1 + 1, (.cells #[.int .i64 n1, .int .i64 n2, .int .i64 n3] 23 (0, 0))), (w.heap.size + 1 + 1, (.cells #[.int .i64 p1, .int .i64 p2, .int .i64 p3] 23 (0, 0))), (w.heap.size + 1, (.cells #[.int .i64 d1, .int .i64 d2, .int .i64 d3] 23 (0, 0))), (w.heap.size, (.cells #[.int .i64 u1, .int .i64 u2, .int .i64 u3] 23 (0, 0)))]) (by exact kp_made K9.out hw5 hBd hm _ _ _) fun w10 k10 => ?_
        have K10 := Lib.hid k10
        clear k10 K9 hw5 hBd hm m0 m1 m2 mz
        obtain ⟨x0, x1, x2⟩ := cells3 (K10.out.2 _ (.head _))
        obtain ⟨y0, y1, y2⟩ := cells3 (K10.out.2 _ (.tail _ (.head _)))
        go_wp2_with (first
          | (go_at_call 74; (with_reducible refine (HKG.out _).mono ?_); rintro e w11 ⟨rfl, hb⟩; have K11 := Lib.hid (K10.out.call hb); clear hb)
          | (go_at_call 76; (with_reducible refine (HKQ.out _).mono ?_); rintro e w12 ⟨rfl, hb⟩; have K12 := Lib.hid (K11.out.call hb); clear hb; obtain ⟨o0, o1⟩ := cells2 (K12.out.2 _ (.tail _ (.tail _ (.head _)))); have oz : ∀ j, w12.frozen? ⟨w.heap.size + 1 + 1 + 1 + 1, j, none⟩ = false := fun j => frozen_of_row w12 (w.heap.size + 1 + 1 + 1 + 1) j _ _ (K12.out.2 _ (.tail _ (.tail _ (.head _))))))
        have hb5 := Lib.hid (Kp.below K12.out)
        refine bodyPost_ret (v := .tuple #[.agg #[.int .i64 q, .int .i64 r], .int .i64 0]) (by simp [results, Tryz.results56, go_sem, o0, o1]) rfl ⟨rfl, ?_⟩
        exact (hb5.out.setCell (show w.heap.size ≤ w.heap.size + 1 + 1 + 1 + 1 by omega) _).setCell (show w.heap.size ≤ w.heap.size + 1 + 1 + 1 + 1 by omega) _
end Go.Proofs.YtggffhmdgceljaaGreatDoor
