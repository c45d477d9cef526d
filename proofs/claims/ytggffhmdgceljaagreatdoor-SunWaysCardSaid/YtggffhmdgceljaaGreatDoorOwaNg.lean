/-
  Contract of checkSun, for a sun of a valid sky.
-/
import Derived.Test.YtggffhmdgceljaaGreatDoorRows
import Derived.WalkKit
import Derived.WalkSpells
import Derived.WalkLawsBesides
import Derived.Lib.Hide
import Derived.BigQuiet
import Derived.Deep.QuietTactic
import Derived.Handy
import Derived.Deep.RegionHeld3
import Derived.Deep.RegionWith
import Derived.StillTailTactics
import Derived.RangeFuncNested
import Derived.RangeFuncBound
import Derived.RangeFuncCalls
import Derived.RangeFuncLeaves
import Derived.RangeFuncBox
import Derived.Shelf.Abstract
import Derived.Shelf.RegionOpen
import Derived.OwnWalkIn
import Derived.TacticsInMore
import Derived.LoopNIn
import Derived.LoopIn
import Derived.Maps.AppendAt
import Derived.Test.YtggffhmdgceljaaGreatDoorProg
import Derived.Laws.FloatArith
import Derived.Laws.BitsAllLaws
import Derived.Deep.DeepCutAuto
import Derived.Stop.BytesEq
import Derived.Deep.MidRow
import Derived.Laws.CopyRow
import Derived.WalkMore
import Derived.Deep.DrawnRows
import Derived.Deep.CutBlock
import Derived.Orders
import Derived.LoopTactic
import Derived.Laws.StructEq
import Derived.Deep.RegionLaw
import Derived.RegionTactic
import Derived.StillTail
import Derived.Laws.RangeString
import Derived.Laws.RangeAny
import Derived.Test.YtggffhmdgceljaaGreatDoorOwaWa
import Derived.Test.YtggffhmdgceljaaGreatDoorOwaWn
import Derived.Test.YtggffhmdgceljaaGreatDoorOwaXe
import Derived.Test.YtggffhmdgceljaaGreatDoorOwaIb
import Derived.Test.YtggffhmdgceljaaGreatDoorOwaIl
import Derived.Test.YtggffhmdgceljaaGreatDoorOwaNd
import Derived.Test.YtggffhmdgceljaaGreatDoorOwaWi
import Derived.Test.YtggffhmdgceljaaGreatDoorOwaId
import Derived.Test.YtggffhmdgceljaaGreatDoorOwaNe
import Derived.Test.YtggffhmdgceljaaGreatDoorOwaNc
namespace Go.Proofs.YtggffhmdgceljaaGreatDoor
open Go.RowKit
set_option linter.unusedVariables false
set_option linter.unusedSimpArgs false

set_option maxRecDepth 100000 in
set_option maxHeartbeats 6400000 in
theorem checkSun_next (sl : Value) (K K1 t x y z t1 x0 y0 z0 dd : Int) (b q p p1 : Nat) (w : World)
    (hI : ∀ w1, (Instr.indexAt 78 sl (.int .i64 K)).run Tryz.prog w1 = .ok (.pointer (some ⟨b, p, none⟩)) w1) (hI0 : ∀ w1, (Instr.indexAt 78 sl (.int .i64 0)).run Tryz.prog w1 = .ok (.pointer (some ⟨b, q, none⟩)) w1)
    (hI1 : ∀ w1, (Instr.indexAt 78 sl (.int .i64 K1)).run Tryz.prog w1 = .ok (.pointer (some ⟨b, p1, none⟩)) w1) (wK : IntKind.i64.wrap (K - 1) = K1) (hK : 0 < K) (ht1 : t1 < t) (ht2 : t - t1 ≤ 200) (wt : IntKind.i64.wrap (t - t1) = t - t1)
    (HC : ∀ w1 : World, Below w.heap.size w w1 → w1.cell? ⟨b, p, none⟩ = some (.int .i64 t) ∧ w1.rangeAt b (p + 1) [.int .i64 x, .int .i64 y, .int .i64 z] ∧ w1.cell? ⟨b, p1, none⟩ = some (.int .i64 t1) ∧ w1.rangeAt b (q + 1) [.int .i64 x0, .int .i64 y0, .int .i64 z0])
    (he : rayErr x y z = 0) (ht : rangeErr t 0 10000000 = 0)
    (KD : ∀ w1 : World, Calls Tryz.prog 74 #[.agg #[.int .i64 x, .int .i64 y, .int .i64 z], .agg #[.int .i64 x, .int .i64 y, .int .i64 z]] w1 fun e w' => e = .returned (.int .i64 dd) ∧ Below w1.heap.size w1 w')
    (KE : ∀ w1 : World, Calls Tryz.prog 74 #[.agg #[.int .i64 x0, .int .i64 y0, .int .i64 z0], .agg #[.int .i64 x0, .int .i64 y0, .int .i64 z0]] w1 fun e w' => e = .returned (.int .i64 dd) ∧ Below w1.heap.size w1 w') :
    Calls Tryz.prog 104 #[sl, .int .i64 K] w fun e w' => e = .returned (.int .i64 0) ∧ Below w.heap.size w w' := by
  have hC := Lib.hid HC
  clear HC
  have KR : Hid (∀ w1 : World, Calls Tryz.prog 43 #[.agg #[.int .i64 x, .int .i64 y, .int .i64 z]] w1 fun e w' => e = .returned (.int .i64 0) ∧ Below w1.heap.size w1 w') := Lib.hid fun w1 => by
    have h := checkRay_all x y z w1
    rwa [he] at h
  have KC : Hid (∀ w1 : World, Calls Tryz.prog 54 #[.int .i64 t, .int .i64 0, .int .i64 10000000] w1 fun e w' => e = .returned (.int .i64 0) ∧ w1 = w') := Lib.hid fun w1 => by
    have h := checkRange_any t 0 10000000 w1
    rwa [ht] at h
  have KW1 : Hid (∀ w1 : World, Calls Tryz.prog 86 #[.bool false, .int .i64 11] w1 fun e w' => e = .returned (.int .i64 0) ∧ w1 = w') := Lib.hid fun w1 => cwhen_any false 11 w1
  have KW2 : Hid (∀ w1 : World, Calls Tryz.prog 86 #[.bool false, .int .i64 14] w1 fun e w' => e = .returned (.int .i64 0) ∧ w1 = w') := Lib.hid fun w1 => cwhen_any false 14 w1
  have KW3 : Hid (∀ w1 : World, Calls Tryz.prog 86 #[.bool false, .int .i64 2] w1 fun e w' => e = .returned (.int .i64 0) ∧ w1 = w') := Lib.hid fun w1 => cwhen_any false 2 w1
  have KP : Hid (∀ w1 : World, Calls Tryz.prog 45 #[.agg #[.int .i64 x, .int .i64 y, .int .i64 z]] w1 fun e w' => e = .returned (.agg #[.int .i64 x, .int .i64 y, .int .i64 z]) ∧ Below w1.heap.size w1 w') := Lib.hid fun w1 => partsOf_any x y z w1
  have KQ : Hid (∀ w1 : World, Calls Tryz.prog 45 #[.agg #[.int .i64 x0, .int .i64 y0, .int .i64 z0]] w1 fun e w' => e = .returned (.agg #[.int .i64 x0, .int .i64 y0, .int .i64 z0]) ∧ Below w1.heap.size w1 w') := Lib.hid fun w1 => partsOf_any x0 y0 z0 w1
  have KF : Hid (∀ (w1 : World) (b : Nat), (∀ j, j < 5 → w1.cell? ⟨b, 0 + j, none⟩ = some (.int .i64 (([0, 0, 0, 0, 0] : List Int)[j]?.getD 0))) → Calls Tryz.prog 42 #[.slice (some ⟨b, 0, none⟩) 5 5] w1 fun e w' => e = .returned (.int .i64 0) ∧ w1 = w') := Lib.hid fun w1 b h => first_any b 0 5 5 [0, 0, 0, 0, 0] rfl (by omega) w1 h
  have l1 : ¬ t ≤ t1 := by omega
  have l2 : ¬ 200 < t - t1 := by omega
  obtain ⟨tt, htt⟩ : ∃ tt, t - t1 = tt := ⟨_, rfl⟩
  have wt2 : IntKind.i64.wrap (t - t1) = tt := wt.trans htt
  clear wt
  rw [htt] at l2
  clear he ht ht1 ht2 htt
  have HKD := Lib.hid KD
  have HKE := Lib.hid KE
  clear KD KE
  go_enter Tryz.func104, Tryz.ntmps104
  go_upto_region 1 with fail
  have K0 := Lib.hid (Kp.none w)
  apply wp_region_alloc 13 11 #[.int .i64 0, .int .i64 0, .int .i64 0] 94 [sl, .int .i64 K, .pointer (some ⟨b, p, none⟩), .pointer (some ⟨b, p, none⟩), .int .i64 t, sl, .int .i64 K, .pointer (some ⟨b, p, none⟩), .pointer (some ⟨b, p + 1, none⟩), .agg #[.int .i64 x, .int .i64 y, .int .i64 z], .agg #[.int .i64 x, .int .i64 y, .int .i64 z], undef, .int .i64 t] _ (by kernel_rfl) (by kernel_rfl) (by decide) (by kernel_rfl) rfl
  case hz =>
    intro b w1
    simp only [execOp]
    go_simp
  case haF =>
    intro v
    simp [putJs, upd1, Act.put, List.range, List.range.loop]
    exact rfl
  case h =>
    intro v Tt hT
    simp only [List.take_succ_cons, List.take_zero, GivesK, GivesL]
    clear K0
    refine ⟨?_, ?_, ?_, ?_, ?_, ?_, ?_, ?_, ?_, ?_, ?_, ?_, trivial⟩
    all_goals
      intro w1 hw
      obtain ⟨hw1, ht1⟩ := hw
      obtain ⟨g1, g2, g3, g4⟩ := hC.out w1 (show Below _ _ _ from hw1)
      first
        | (refine wp_load_mid 23 _ rfl b (p + 1) rfl [.int .i64 x, .int .i64 y, .int .i64 z] _ (by assumption) Tryz.underlying23 rfl (by kernel_rfl) ?_; first | exact ⟨rfl, hw1, ht1⟩ | exact ⟨rfl, hw1⟩)
        | (unfold Oper.wp
           simp only [execOp]
           go_simp <;> first
             | exact ⟨rfl, hw1, ht1⟩
             | exact ht1
             | exact ⟨hw1, ht1⟩
             | ((with_reducible refine (KP.out _).mono ?_); rintro e w2 ⟨rfl, hb⟩; exact ⟨rfl, below_call hb hw1, hT _ _ ht1 hb⟩))
  case ht =>
    intro Bd w5 hBd hw5 hm
    simp only [List.drop_succ_cons, List.drop_zero]
    obtain ⟨m0, m1, m2⟩ := cells3 hm
    have mz : ∀ j, w5.frozen? ⟨Bd, j, none⟩ = false := fun j => frozen_of_row w5 Bd j _ _ hm
    go_upto_region 2 with fail
    refine wp_world (fun w' => Kp w w' [(Bd, (.cells #[.int .i64 x, .int .i64 y, .int .i64 z] 94 (0, 0)))]) (by exact kp_made (Kp.none w) hw5 hBd hm _ _ _) fun w6 k6 => ?_
    have K6 := Lib.hid k6
    clear k6 K0 hw5 hBd hm m0 m1 m2 mz
    obtain ⟨g1, g2, g3, g4⟩ := hC.out w6 (Kp.below K6.out)
    go_upto_region 3 with (first
      | (refine wpList_load_mid rfl 23 _ rfl b (q + 1) rfl [.int .i64 x0, .int .i64 y0, .int .i64 z0] _ g4 Tryz.underlying23 rfl (by kernel_rfl) ?_)
      | (go_at_call 45; (with_reducible refine (KQ.out _).mono ?_); rintro e w7 ⟨rfl, hb⟩; have K7 := Lib.hid (K6.out.call hb); clear hb g1 g2 g3 g4))
    refine wp_world (fun w' => Kp w w' [(w7.heap.size, (.cells #[.int .i64 x0, .int .i64 y0, .int .i64 z0] 94 (0, 0))), (Bd, (.cells #[.int .i64 x, .int .i64 y, .int .i64 z] 94 (0, 0)))]) (by exact K7.out.alloc _) fun w8 k8 => ?_
    have K8 := Lib.hid k8
    clear k8
    obtain ⟨Bn, hBn⟩ : ∃ Bn, w7.heap.size = Bn := ⟨_, rfl⟩
    rw [hBn] at K8 ⊢
    clear hBn K7 K6
    apply wp_region_yields 43 (fun w' => Blw w8.heap.size w8 w') [.int .i64 t, .int .i64 0, .int .i64 K, .bool true, .bool true, .int .i64 t, sl, .int .i64 K, .int .i64 K1, .pointer (some ⟨b, p1, none⟩), .pointer (some ⟨b, p1, none⟩), .int .i64 t1, .bool false, .bool false, .int .i64 0, .int .i64 K, .bool true, .bool true, .int .i64 t, sl, .int .i64 K, .int .i64 K1, .pointer (some ⟨b, p1, none⟩), .pointer (some ⟨b, p1, none⟩), .int .i64 t1, .int .i64 tt, .bool false, .bool false, .int .i64 0, sl, .int .i64 K, .pointer (some ⟨b, p, none⟩), .pointer (some ⟨b, p + 1, none⟩), .agg #[.int .i64 x, .int .i64 y, .int .i64 z], .int .i64 0, .agg #[.int .i64 x, .int .i64 y, .int .i64 z], .agg #[.int .i64 x, .int .i64 y, .int .i64 z], .int .i64 dd, .agg #[.int .i64 x0, .int .i64 y0, .int .i64 z0], .agg #[.int .i64 x0, .int .i64 y0, .int .i64 z0], .int .i64 dd, .bool false, .int .i64 0] (by kernel_rfl) (by kernel_rfl) (show Below _ _ _ from (Below.refl _ _).drew)
    case haF =>
      simp [putJs, Act.put, List.range, List.range.loop]
      exact rfl
    case h =>
      have hBx := K8.out.2 _ (.tail _ (.head _))
      have hBy := K8.out.2 _ (.head _)
      simp only [List.take_succ_cons, List.take_zero, YieldsL]
      have HK8 := K8
      clear K8
      refine ⟨.no rfl ?_, .no rfl ?_, .no rfl ?_, .no rfl ?_, .no rfl ?_, .yes rfl rfl ?_, .yes rfl rfl ?_, .yes rfl rfl ?_, .yes rfl rfl ?_, .yes rfl rfl ?_, .yes rfl rfl ?_, .yes rfl rfl ?_, .yes rfl rfl ?_, .no rfl ?_, .no rfl ?_, .no rfl ?_, .no rfl ?_, .no rfl ?_, .yes rfl rfl ?_, .yes rfl rfl ?_, .yes rfl rfl ?_, .yes rfl rfl ?_, .yes rfl rfl ?_, .yes rfl rfl ?_, .yes rfl rfl ?_, .yes rfl rfl ?_, .yes rfl rfl ?_, .no rfl ?_, .no rfl ?_, .no rfl ?_, .no rfl ?_, .no rfl ?_, .no rfl ?_, .no rfl ?_, .no rfl ?_, .no rfl ?_, .no rfl ?_, .no rfl ?_, .no rfl ?_, .no rfl ?_, .no rfl ?_, .no rfl ?_, .no rfl ?_, trivial⟩
      all_goals
        intro w1 hw1
        obtain ⟨x_0, x_1, x_2⟩ := cells3 (((show Below _ _ _ from hw1).block _ (lt_of_blk hBx)).trans hBx)
        obtain ⟨y_0, y_1, y_2⟩ := cells3 (((show Below _ _ _ from hw1).block _ (lt_of_blk hBy)).trans hBy)
        obtain ⟨g1, g2, g3, g4⟩ := hC.out w1 ((Kp.below HK8.out).trans ((show Below _ _ _ from hw1).mono (Kp.below HK8.out).size))
        first
          | (refine wp_load_mid 23 _ rfl b (p + 1) rfl [.int .i64 x, .int .i64 y, .int .i64 z] _ (by assumption) Tryz.underlying23 rfl (by kernel_rfl) ?_; first | exact ⟨rfl, hw1, ht1⟩ | exact ⟨rfl, hw1⟩)
          | (unfold Oper.wp
             simp only [execOp]
             go_simp <;> first
               | exact ⟨rfl, hw1⟩
               | ((with_reducible refine (KC.out _).mono ?_); rintro e w2 ⟨rfl, rfl⟩; exact ⟨rfl, hw1⟩)
               | ((with_reducible refine (KW1.out _).mono ?_); rintro e w2 ⟨rfl, rfl⟩; exact ⟨rfl, hw1⟩)
               | ((with_reducible refine (KW2.out _).mono ?_); rintro e w2 ⟨rfl, rfl⟩; exact ⟨rfl, hw1⟩)
               | ((with_reducible refine (KW3.out _).mono ?_); rintro e w2 ⟨rfl, rfl⟩; exact ⟨rfl, hw1⟩)
               | ((with_reducible refine (KR.out _).mono ?_); rintro e w2 ⟨rfl, hb⟩; exact ⟨rfl, below_call hb hw1⟩)
               | ((with_reducible refine (HKD.out _).mono ?_); rintro e w2 ⟨rfl, hb⟩; exact ⟨rfl, below_call hb hw1⟩)
               | ((with_reducible refine (HKE.out _).mono ?_); rintro e w2 ⟨rfl, hb⟩; exact ⟨rfl, below_call hb hw1⟩))
    case ht =>
      intro w9 hw5
      have K9 := Lib.hid (K8.out.call (show Below _ _ _ from hw5))
      clear hw5 K8
      simp only [List.drop_succ_cons, List.drop_zero]
      go_wp2_with (first
        | (go_at_call 42; (with_reducible refine (KF.out _ _ ?_).mono ?_); rotate_left 1; rintro e w10 ⟨rfl, rfl⟩; rotate_left 1; (intro j hj; match j, hj with | 0, _ => simp [go_sem] | 1, _ => simp [go_sem] | 2, _ => simp [go_sem] | 3, _ => simp [go_sem] | 4, _ => simp [go_sem])))
      go_ret
      exact ⟨rfl, (Kp.below K9.out).alloc (Kp.below K9.out).size _⟩

set_option maxRecDepth 100000 in
set_option maxHeartbeats 6400000 in
theorem checkSun_first (sl : Value) (K K1 t x y z t1 x0 y0 z0 dd : Int) (b q p p1 : Nat) (w : World)
    (hI : ∀ w1, (Instr.indexAt 78 sl (.int .i64 K)).run Tryz.prog w1 = .ok (.pointer (some ⟨b, p, none⟩)) w1) (hI0 : ∀ w1, (Instr.indexAt 78 sl (.int .i64 0)).run Tryz.prog w1 = .ok (.pointer (some ⟨b, q, none⟩)) w1)
    (hK : K = 0) (hpq : p = q)
    (HC : ∀ w1 : World, Below w.heap.size w w1 → w1.cell? ⟨b, p, none⟩ = some (.int .i64 t) ∧ w1.rangeAt b (p + 1) [.int .i64 x, .int .i64 y, .int .i64 z] ∧ w1.cell? ⟨b, p1, none⟩ = some (.int .i64 t1) ∧ w1.rangeAt b (q + 1) [.int .i64 x0, .int .i64 y0, .int .i64 z0])
    (he : rayErr x y z = 0) (ht : rangeErr t 0 10000000 = 0)
    (KD : ∀ w1 : World, Calls Tryz.prog 74 #[.agg #[.int .i64 x, .int .i64 y, .int .i64 z], .agg #[.int .i64 x, .int .i64 y, .int .i64 z]] w1 fun e w' => e = .returned (.int .i64 dd) ∧ Below w1.heap.size w1 w')
    (KE : ∀ w1 : World, Calls Tryz.prog 74 #[.agg #[.int .i64 x0, .int .i64 y0, .int .i64 z0], .agg #[.int .i64 x0, .int .i64 y0, .int .i64 z0]] w1 fun e w' => e = .returned (.int .i64 dd) ∧ Below w1.heap.size w1 w') :
    Calls Tryz.prog 104 #[sl, .int .i64 K] w fun e w' => e = .returned (.int .i64 0) ∧ Below w.heap.size w w' := by
  have hC := Lib.hid HC
  clear HC
  have KR : Hid (∀ w1 : World, Calls Tryz.prog 43 #[.agg #[.int .i64 x, .int .i64 y, .int .i64 z]] w1 fun e w' => e = .returned (.int .i64 0) ∧ Below w1.heap.size w1 w') := Lib.hid fun w1 => by
    have h := checkRay_all x y z w1
    rwa [he] at h
  have KC : Hid (∀ w1 : World, Calls Tryz.prog 54 #[.int .i64 t, .int .i64 0, .int .i64 10000000] w1 fun e w' => e = .returned (.int .i64 0) ∧ w1 = w') := Lib.hid fun w1 => by
    have h := checkRange_any t 0 10000000 w1
    rwa [ht] at h
  have KW1 : Hid (∀ w1 : World, Calls Tryz.prog 86 #[.bool false, .int .i64 11] w1 fun e w' => e = .returned (.int .i64 0) ∧ w1 = w') := Lib.hid fun w1 => cwhen_any false 11 w1
  have KW2 : Hid (∀ w1 : World, Calls Tryz.prog 86 #[.bool false, .int .i64 14] w1 fun e w' => e = .returned (.int .i64 0) ∧ w1 = w') := Lib.hid fun w1 => cwhen_any false 14 w1
  have KW3 : Hid (∀ w1 : World, Calls Tryz.prog 86 #[.bool false, .int .i64 2] w1 fun e w' => e = .returned (.int .i64 0) ∧ w1 = w') := Lib.hid fun w1 => cwhen_any false 2 w1
  have KP : Hid (∀ w1 : World, Calls Tryz.prog 45 #[.agg #[.int .i64 x, .int .i64 y, .int .i64 z]] w1 fun e w' => e = .returned (.agg #[.int .i64 x, .int .i64 y, .int .i64 z]) ∧ Below w1.heap.size w1 w') := Lib.hid fun w1 => partsOf_any x y z w1
  have KQ : Hid (∀ w1 : World, Calls Tryz.prog 45 #[.agg #[.int .i64 x0, .int .i64 y0, .int .i64 z0]] w1 fun e w' => e = .returned (.agg #[.int .i64 x0, .int .i64 y0, .int .i64 z0]) ∧ Below w1.heap.size w1 w') := Lib.hid fun w1 => partsOf_any x0 y0 z0 w1
  have KF : Hid (∀ (w1 : World) (b : Nat), (∀ j, j < 5 → w1.cell? ⟨b, 0 + j, none⟩ = some (.int .i64 (([0, 0, 0, 0, 0] : List Int)[j]?.getD 0))) → Calls Tryz.prog 42 #[.slice (some ⟨b, 0, none⟩) 5 5] w1 fun e w' => e = .returned (.int .i64 0) ∧ w1 = w') := Lib.hid fun w1 b h => first_any b 0 5 5 [0, 0, 0, 0, 0] rfl (by omega) w1 h
  subst hK
  subst hpq
  clear he ht
  have HKD := Lib.hid KD
  have HKE := Lib.hid KE
  clear KD KE
  go_enter Tryz.func104, Tryz.ntmps104
  go_upto_region 1 with fail
  have K0 := Lib.hid (Kp.none w)
  apply wp_region_alloc 13 11 #[.int .i64 0, .int .i64 0, .int .i64 0] 94 [sl, .int .i64 0, .pointer (some ⟨b, p, none⟩), .pointer (some ⟨b, p, none⟩), .int .i64 t, sl, .int .i64 0, .pointer (some ⟨b, p, none⟩), .pointer (some ⟨b, p + 1, none⟩), .agg #[.int .i64 x, .int .i64 y, .int .i64 z], .agg #[.int .i64 x, .int .i64 y, .int .i64 z], undef, .int .i64 t] _ (by kernel_rfl) (by kernel_rfl) (by decide) (by kernel_rfl) rfl
  case hz =>
    intro b w1
    simp only [execOp]
    go_simp
  case haF =>
    intro v
    simp [putJs, upd1, Act.put, List.range, List.range.loop]
    exact rfl
  case h =>
    intro v Tt hT
    simp only [List.take_succ_cons, List.take_zero, GivesK, GivesL]
    clear K0
    refine ⟨?_, ?_, ?_, ?_, ?_, ?_, ?_, ?_, ?_, ?_, ?_, ?_, trivial⟩
    all_goals
      intro w1 hw
      obtain ⟨hw1, ht1⟩ := hw
      obtain ⟨g1, g2, g3, g4⟩ := hC.out w1 (show Below _ _ _ from hw1)
      first
        | (refine wp_load_mid 23 _ rfl b (p + 1) rfl [.int .i64 x, .int .i64 y, .int .i64 z] _ (by assumption) Tryz.underlying23 rfl (by kernel_rfl) ?_; first | exact ⟨rfl, hw1, ht1⟩ | exact ⟨rfl, hw1⟩)
        | (unfold Oper.wp
           simp only [execOp]
           go_simp <;> first
             | exact ⟨rfl, hw1, ht1⟩
             | exact ht1
             | exact ⟨hw1, ht1⟩
             | ((with_reducible refine (KP.out _).mono ?_); rintro e w2 ⟨rfl, hb⟩; exact ⟨rfl, below_call hb hw1, hT _ _ ht1 hb⟩))
  case ht =>
    intro Bd w5 hBd hw5 hm
    simp only [List.drop_succ_cons, List.drop_zero]
    obtain ⟨m0, m1, m2⟩ := cells3 hm
    have mz : ∀ j, w5.frozen? ⟨Bd, j, none⟩ = false := fun j => frozen_of_row w5 Bd j _ _ hm
    go_upto_region 2 with fail
    refine wp_world (fun w' => Kp w w' [(Bd, (.cells #[.int .i64 x, .int .i64 y, .int .i64 z] 94 (0, 0)))]) (by exact kp_made (Kp.none w) hw5 hBd hm _ _ _) fun w6 k6 => ?_
    have K6 := Lib.hid k6
    clear k6 K0 hw5 hBd hm m0 m1 m2 mz
    obtain ⟨g1, g2, g3, g4⟩ := hC.out w6 (Kp.below K6.out)
    go_upto_region 3 with (first
      | (refine wpList_load_mid rfl 23 _ rfl b (p + 1) rfl [.int .i64 x0, .int .i64 y0, .int .i64 z0] _ g4 Tryz.underlying23 rfl (by kernel_rfl) ?_)
      | (go_at_call 45; (with_reducible refine (KQ.out _).mono ?_); rintro e w7 ⟨rfl, hb⟩; have K7 := Lib.hid (K6.out.call hb); clear hb g1 g2 g3 g4))
    refine wp_world (fun w' => Kp w w' [(w7.heap.size, (.cells #[.int .i64 x0, .int .i64 y0, .int .i64 z0] 94 (0, 0))), (Bd, (.cells #[.int .i64 x, .int .i64 y, .int .i64 z] 94 (0, 0)))]) (by exact K7.out.alloc _) fun w8 k8 => ?_
    have K8 := Lib.hid k8
    clear k8
    obtain ⟨Bn, hBn⟩ : ∃ Bn, w7.heap.size = Bn := ⟨_, rfl⟩
    rw [hBn] at K8 ⊢
    clear hBn K7 K6
    apply wp_region_yields 43 (fun w' => Blw w8.heap.size w8 w') [.int .i64 t, .int .i64 0, .int .i64 0, .bool false, .bool false, undef, undef, undef, undef, undef, undef, undef, undef, .bool false, .int .i64 0, .int .i64 0, .bool false, .bool false, undef, undef, undef, undef, undef, undef, undef, undef, undef, .bool false, .int .i64 0, sl, .int .i64 0, .pointer (some ⟨b, p, none⟩), .pointer (some ⟨b, p + 1, none⟩), .agg #[.int .i64 x, .int .i64 y, .int .i64 z], .int .i64 0, .agg #[.int .i64 x, .int .i64 y, .int .i64 z], .agg #[.int .i64 x, .int .i64 y, .int .i64 z], .int .i64 dd, .agg #[.int .i64 x0, .int .i64 y0, .int .i64 z0], .agg #[.int .i64 x0, .int .i64 y0, .int .i64 z0], .int .i64 dd, .bool false, .int .i64 0] (by kernel_rfl) (by kernel_rfl) (show Below _ _ _ from (Below.refl _ _).drew)
    case haF =>
      simp [putJs, Act.put, List.range, List.range.loop]
      exact rfl
    case h =>
      have hBx := K8.out.2 _ (.tail _ (.head _))
      have hBy := K8.out.2 _ (.head _)
      simp only [List.take_succ_cons, List.take_zero, YieldsL]
      have HK8 := K8
      clear K8
      refine ⟨.no rfl ?_, .no rfl ?_, .no rfl ?_, .no rfl ?_, .no rfl ?_, .not rfl rfl, .not rfl rfl, .not rfl rfl, .not rfl rfl, .not rfl rfl, .not rfl rfl, .not rfl rfl, .not rfl rfl, .no rfl ?_, .no rfl ?_, .no rfl ?_, .no rfl ?_, .no rfl ?_, .not rfl rfl, .not rfl rfl, .not rfl rfl, .not rfl rfl, .not rfl rfl, .not rfl rfl, .not rfl rfl, .not rfl rfl, .not rfl rfl, .no rfl ?_, .no rfl ?_, .no rfl ?_, .no rfl ?_, .no rfl ?_, .no rfl ?_, .no rfl ?_, .no rfl ?_, .no rfl ?_, .no rfl ?_, .no rfl ?_, .no rfl ?_, .no rfl ?_, .no rfl ?_, .no rfl ?_, .no rfl ?_, trivial⟩
      all_goals
        intro w1 hw1
        obtain ⟨x_0, x_1, x_2⟩ := cells3 (((show Below _ _ _ from hw1).block _ (lt_of_blk hBx)).trans hBx)
        obtain ⟨y_0, y_1, y_2⟩ := cells3 (((show Below _ _ _ from hw1).block _ (lt_of_blk hBy)).trans hBy)
        obtain ⟨g1, g2, g3, g4⟩ := hC.out w1 ((Kp.below HK8.out).trans ((show Below _ _ _ from hw1).mono (Kp.below HK8.out).size))
        first
          | (refine wp_load_mid 23 _ rfl b (p + 1) rfl [.int .i64 x, .int .i64 y, .int .i64 z] _ (by assumption) Tryz.underlying23 rfl (by kernel_rfl) ?_; first | exact ⟨rfl, hw1, ht1⟩ | exact ⟨rfl, hw1⟩)
          | (unfold Oper.wp
             simp only [execOp]
             go_simp <;> first
               | exact ⟨rfl, hw1⟩
               | ((with_reducible refine (KC.out _).mono ?_); rintro e w2 ⟨rfl, rfl⟩; exact ⟨rfl, hw1⟩)
               | ((with_reducible refine (KW1.out _).mono ?_); rintro e w2 ⟨rfl, rfl⟩; exact ⟨rfl, hw1⟩)
               | ((with_reducible refine (KW2.out _).mono ?_); rintro e w2 ⟨rfl, rfl⟩; exact ⟨rfl, hw1⟩)
               | ((with_reducible refine (KW3.out _).mono ?_); rintro e w2 ⟨rfl, rfl⟩; exact ⟨rfl, hw1⟩)
               | ((with_reducible refine (KR.out _).mono ?_); rintro e w2 ⟨rfl, hb⟩; exact ⟨rfl, below_call hb hw1⟩)
               | ((with_reducible refine (HKD.out _).mono ?_); rintro e w2 ⟨rfl, hb⟩; exact ⟨rfl, below_call hb hw1⟩)
               | ((with_reducible refine (HKE.out _).mono ?_); rintro e w2 ⟨rfl, hb⟩; exact ⟨rfl, below_call hb hw1⟩))
    case ht =>
      intro w9 hw5
      have K9 := Lib.hid (K8.out.call (show Below _ _ _ from hw5))
      clear hw5 K8
      simp only [List.drop_succ_cons, List.drop_zero]
      go_wp2_with (first
        | (go_at_call 42; (with_reducible refine (KF.out _ _ ?_).mono ?_); rotate_left 1; rintro e w10 ⟨rfl, rfl⟩; rotate_left 1; (intro j hj; match j, hj with | 0, _ => simp [go_sem] | 1, _ => simp [go_sem] | 2, _ => simp [go_sem] | 3, _ => simp [go_sem] | 4, _ => simp [go_sem])))
      go_ret
      exact ⟨rfl, (Kp.below K9.out).alloc (Kp.below K9.out).size _⟩
end Go.Proofs.YtggffhmdgceljaaGreatDoor
