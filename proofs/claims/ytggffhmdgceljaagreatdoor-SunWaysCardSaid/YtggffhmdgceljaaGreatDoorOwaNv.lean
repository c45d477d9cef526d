/-
  Contract of stepOf: the step from which a direction has its lift.
-/
import Derived.Test.YtggffhmdgceljaaGreatDoorRows
import Derived.WalkKit
import Derived.WalkSpells
import Derived.WalkLawsBesides
import Derived.Lib.Hide
import Derived.BigQuiet
import Derived.Deep.QuietTactic
import Derived.Handy
import Derived.Deep.RegionHeld3
import Derived.Deep.RegionWith
import Derived.StillTailTactics
import Derived.RangeFuncNested
import Derived.RangeFuncBound
import Derived.RangeFuncCalls
import Derived.RangeFuncLeaves
import Derived.RangeFuncBox
import Derived.Shelf.Abstract
import Derived.Shelf.RegionOpen
import Derived.OwnWalkIn
import Derived.TacticsInMore
import Derived.LoopNIn
import Derived.LoopIn
import Derived.Maps.AppendAt
import Derived.Test.YtggffhmdgceljaaGreatDoorProg
import Derived.Laws.FloatArith
import Derived.Laws.BitsAllLaws
import Derived.Deep.DeepCutAuto
import Derived.Stop.BytesEq
import Derived.Deep.MidRow
import Derived.Laws.CopyRow
import Derived.WalkMore
import Derived.Deep.DrawnRows
import Derived.Deep.CutBlock
import Derived.Orders
import Derived.LoopTactic
import Derived.Laws.StructEq
import Derived.Deep.RegionLaw
import Derived.RegionTactic
import Derived.StillTail
import Derived.Laws.RangeString
import Derived.Laws.RangeAny
import Derived.Test.YtggffhmdgceljaaGreatDoorOwaWn
import Derived.Test.YtggffhmdgceljaaGreatDoorOwaXe
import Derived.Test.YtggffhmdgceljaaGreatDoorOwaIb
import Derived.Test.YtggffhmdgceljaaGreatDoorOwaIl
import Derived.Test.YtggffhmdgceljaaGreatDoorOwaNd
import Derived.Test.YtggffhmdgceljaaGreatDoorOwaId
import Derived.Test.YtggffhmdgceljaaGreatDoorOwaNc
import Derived.Test.YtggffhmdgceljaaGreatDoorOwaIx
import Derived.Test.YtggffhmdgceljaaGreatDoorOwaNt
import Derived.Test.YtggffhmdgceljaaGreatDoorOwaWo
import Derived.Test.YtggffhmdgceljaaGreatDoorOwaNu
namespace Go.Proofs.YtggffhmdgceljaaGreatDoor
open Go.RowKit
set_option linter.unusedVariables false
set_option linter.unusedSimpArgs false

def PlsAt (w : World) (b q : Nat) (P : List PlV) : Prop := ∀ k, k < P.length → w.rangeAt b (q + k * 3) (P[k]?.getD plZ).val
theorem PlsAt.kept {w w' : World} {b q B : Nat} {P : List PlV} (h : PlsAt w b q P) (hb : Below B w w') (hB : b < B) : PlsAt w' b q P := fun k hk j v hv => by
  rw [hb.cell (by exact hB)]; exact h k hk j v hv
/-- The last of the first steps from which a direction may have its lift. -/
def stTo (P : List PlV) (f z : Int) : Nat → PlV
  | 0 => P[0]?.getD plZ
  | k + 1 => if 0 < f ∧ (P[k + 1]?.getD plZ).a * f ≤ 64 * z then P[k + 1]?.getD plZ else stTo P f z k
def PlV.agg (s : PlV) : Value := .agg #[.int .i64 s.a, .int .i64 s.l, .int .i64 s.i]

set_option maxRecDepth 100000 in
set_option maxHeartbeats 6400000 in
theorem stepOf_walk (P : List PlV) (b q n c : Nat) (x y z f : Int) (w : World) (hA : PlsAt w b q P) (hb : b < w.heap.size) (hn : P.length = n) (h0 : 1 < n) (hm : n ≤ 20) (hc : n ≤ c)
    (hW : ∀ k, k < n → IntKind.i64.wrap ((P[k]?.getD plZ).a * f) = (P[k]?.getD plZ).a * f) (wz : IntKind.i64.wrap (64 * z) = 64 * z)
    (KF : ∀ w1 : World, Calls Tryz.prog 110 #[.agg #[.int .i64 x, .int .i64 y, .int .i64 z]] w1 fun r w' => r = .returned (.int .i64 f) ∧ Below w1.heap.size w1 w') :
    Calls Tryz.prog 90 #[.slice (some ⟨b, q, none⟩) n c, .agg #[.int .i64 x, .int .i64 y, .int .i64 z]] w fun e w' => e = .returned ((stTo P f z (n - 1)).agg) ∧ Below w.heap.size w w' := by
  have HKF := Lib.hid KF
  clear KF
  have HA : Hid (∀ (k : Nat) (w1 : World), k < n → Below w.heap.size w w1 → w1.rangeAt b (q + k * 3) (P[k]?.getD plZ).val) := Lib.hid fun k w1 hk hw => hA.kept hw hb k (by omega)
  have HW := Lib.hid hW
  have s3 : (Tryz.prog.info? 148).map (·.size) = some 3 := by kernel_rfl
  have i1 : (1 : Int) ≤ n := by omega
  have i2 : 1 ≤ n := by omega
  have i3 : 1 ≤ c := by omega
  have i8 : 1 < c := by omega
  have i9 : (1 : Int) < n := by omega
  have i10 : ¬ n = 1 := by omega
  have i11 : ¬ c = 1 := by omega
  have i4 : (n : Int) ≤ c := by omega
  have i5 : (n : Int) ≤ 20 := by omega
  have hcc : (0 : Int) ≤ n := by omega
  have i6 : (0 : Int) < n := by omega
  have hr := HA.out 0 w (by omega) (Below.refl _ _)
  rw [Nat.zero_mul, Nat.add_zero] at hr
  obtain ⟨t, ht⟩ : ∃ t, P[0]?.getD plZ = t := ⟨_, rfl⟩
  have HT := Lib.hid ht
  rw [ht] at hr
  have hv : t.val = [.int .i64 t.a, .int .i64 t.l, .int .i64 t.i] := rfl
  clear hA hb hn hW ht
  obtain ⟨W0, hW0⟩ : ∃ W0, ((w.alloc (.cells #[.int .i64 x, .int .i64 y, .int .i64 z] 94)).alloc (.cells #[.int .i64 0, .int .i64 0, .int .i64 0] 148)) = W0 := ⟨_, rfl⟩
  have K0 : Hid (Kp w W0 [(w.heap.size + 1, (.cells #[.int .i64 0, .int .i64 0, .int .i64 0] 148 (0, 0))), (w.heap.size, (.cells #[.int .i64 x, .int .i64 y, .int .i64 z] 94 (0, 0)))]) := Lib.hid (by
    rw [← hW0]
    have k := (((Kp.none w).alloc (.cells #[.int .i64 x, .int .i64 y, .int .i64 z] 94)).alloc (.cells #[.int .i64 0, .int .i64 0, .int .i64 0] 148))
    simpa using k)
  have HR : Hid (W0.rangeAt b q t.val) := Lib.hid (by
    have h := HA.out 0 W0 (by omega) (Kp.below K0.out)
    rw [Nat.zero_mul, Nat.add_zero, HT.out] at h
    exact h)
  clear hr
  go_enter Tryz.func90, Tryz.ntmps90
  go_upto_region 1 with fail
  try rw [hW0]
  clear hW0
  go_upto_region 2 with (first
    | (refine wpList_load_mid rfl 148 _ rfl b q rfl t.val _ HR.out Tryz.underlying148 rfl (by rw [s3]; rfl) ?_))
  refine wp_world (fun w' => Kp w w' [(W0.heap.size, (.cells #[.int .i64 t.a, .int .i64 t.l, .int .i64 t.i] 148 (0, 0))), (w.heap.size + 1, (.cells #[.int .i64 0, .int .i64 0, .int .i64 0] 148 (0, 0))), (w.heap.size, (.cells #[.int .i64 x, .int .i64 y, .int .i64 z] 94 (0, 0)))]) (by exact K0.out.alloc (.cells #[.int .i64 t.a, .int .i64 t.l, .int .i64 t.i] 148)) fun w3 k3 => ?_
  have hne5 : W0.heap.size ≠ w.heap.size ∧ W0.heap.size ≠ w.heap.size + 1 := by
    have h1 := lt_of_blk (K0.out.2 _ (.head _))
    simp only at h1
    omega
  have hge5 : w.heap.size ≤ W0.heap.size := (Kp.below K0.out).size
  obtain ⟨B5, hB5⟩ : ∃ B5, W0.heap.size = B5 := ⟨_, rfl⟩
  rw [hB5] at k3 hne5 hge5 ⊢
  have K3 := Lib.hid k3
  clear k3 hB5 K0 HR
  go_wp2_with fail
  go_loopw [14] (fun i wr => ∃ k : Nat, k ≤ n - 1 ∧ i = .int .i64 k ∧ Hid (Kp w wr [(B5, (.cells #[.int .i64 (stTo P f z k).a, .int .i64 (stTo P f z k).l, .int .i64 (stTo P f z k).i] 148 (0, 0))), (w.heap.size + 1, (.cells #[.int .i64 0, .int .i64 0, .int .i64 0] 148 (0, 0))), (w.heap.size, (.cells #[.int .i64 x, .int .i64 y, .int .i64 z] 94 (0, 0)))])) (fun i _ => n - (intOf i).toNat)
  case atStart => exact ⟨0, Nat.zero_le _, rfl, (by rw [show stTo P f z 0 = t from HT.out]; exact K3)⟩
  case round =>
    obtain ⟨k, hk, rfl, hkp⟩ := hrel
    clear K3
    obtain ⟨lv, hlv⟩ : ∃ lv, stTo P f z k = lv := ⟨_, rfl⟩
    rw [hlv] at hkp
    by_cases hlt : k < n - 1
    · have i7 : (k : Int) < (n : Int) - 1 := by omega
      have hr := HA.out (k + 1) wr (by omega) (Kp.below hkp.out)
      have hx := HW.out (k + 1) (by omega)
      rw [show q + (k + 1) * 3 = q + 3 + k * 3 by omega] at hr
      obtain ⟨sv, hsv⟩ : ∃ s, P[k + 1]?.getD plZ = s := ⟨_, rfl⟩
      rw [hsv] at hr hx
      have hv2 : sv.val = [.int .i64 sv.a, .int .i64 sv.l, .int .i64 sv.i] := rfl
      have hnext : stTo P f z (k + 1) = if 0 < f ∧ sv.a * f ≤ 64 * z then sv else lv := by rw [stTo, hsv, hlv]
      have HN := Lib.hid hnext
      have HR := Lib.hid hr
      clear hr hnext hsv hlv
      go_upto_region 5 with (first
        | (refine wpList_load_mid rfl 148 _ rfl b (q + 3 + k * 3) rfl sv.val _ HR.out Tryz.underlying148 rfl (by rw [s3]; rfl) ?_))
      refine wp_world (fun w' => Kp w w' [(wr.heap.size, (.cells #[.int .i64 sv.a, .int .i64 sv.l, .int .i64 sv.i] 148 (0, 0))), (B5, (.cells #[.int .i64 lv.a, .int .i64 lv.l, .int .i64 lv.i] 148 (0, 0))), (w.heap.size + 1, (.cells #[.int .i64 0, .int .i64 0, .int .i64 0] 148 (0, 0))), (w.heap.size, (.cells #[.int .i64 x, .int .i64 y, .int .i64 z] 94 (0, 0)))]) (by exact hkp.out.alloc (.cells #[.int .i64 sv.a, .int .i64 sv.l, .int .i64 sv.i] 148)) fun w4 k4 => ?_
      have hne7 : B5 ≠ wr.heap.size := by
        have h1 := lt_of_blk (hkp.out.2 _ (.head _))
        simp only at h1
        omega
      obtain ⟨B7, hB7⟩ : ∃ B7, wr.heap.size = B7 := ⟨_, rfl⟩
      rw [hB7] at k4 hne7 ⊢
      have K4 := Lib.hid k4
      clear k4 hB7 HR hkp
      obtain ⟨af, haf⟩ : ∃ af, sv.a * f = af := ⟨_, rfl⟩
      obtain ⟨zz, hzz⟩ : ∃ zz, 64 * z = zz := ⟨_, rfl⟩
      have wz2 : IntKind.i64.wrap (64 * z) = zz := wz.trans hzz
      have hx2 : IntKind.i64.wrap (sv.a * f) = af := hx.trans haf
      rw [haf, hzz] at HN
      clear hx haf hzz wz
      by_cases hf : 0 < f
      · by_cases hl : af ≤ zz
        · rw [if_pos ⟨hf, hl⟩] at HN
          apply wp_region_yields 14 (fun w' => Blw w4.heap.size w4 w') [.agg #[.int .i64 x, .int .i64 y, .int .i64 z], .int .i64 f, .bool true, .bool true, .pointer (some ⟨B7, 0, none⟩), .pointer (some ⟨B7, 0, none⟩), .int .i64 sv.a, .agg #[.int .i64 x, .int .i64 y, .int .i64 z], .int .i64 f, .int .i64 af, .pointer (some ⟨w.heap.size, 2, none⟩), .int .i64 z, .int .i64 zz, .bool true] (by kernel_rfl) (by kernel_rfl) (show Below _ _ _ from (Below.refl _ _).drew)
          case haF =>
            simp [putJs, Act.put, List.range, List.range.loop]
            exact rfl
          case h =>
            have hBg := K4.out.2 _ (.head _)
            have hBx := K4.out.2 _ (.tail _ (.tail _ (.tail _ (.head _))))
            simp only [List.take_succ_cons, List.take_zero, YieldsL]
            clear K4
            refine ⟨.no rfl ?_, .no rfl ?_, .no rfl ?_, .no rfl ?_, .yes rfl rfl ?_, .yes rfl rfl ?_, .yes rfl rfl ?_, .yes rfl rfl ?_, .yes rfl rfl ?_, .yes rfl rfl ?_, .yes rfl rfl ?_, .yes rfl rfl ?_, .yes rfl rfl ?_, .yes rfl rfl ?_, trivial⟩
            all_goals
              intro w1 hw1
              obtain ⟨g_0, g_1, g_2⟩ := cells3 (((show Below _ _ _ from hw1).block _ (lt_of_blk hBg)).trans hBg)
              obtain ⟨x_0, x_1, x_2⟩ := cells3 (((show Below _ _ _ from hw1).block _ (lt_of_blk hBx)).trans hBx)
              unfold Oper.wp
              simp only [execOp]
              go_simp <;> first
                | exact ⟨rfl, hw1⟩
                | ((with_reducible refine (HKF.out _).mono ?_); rintro e w2 ⟨rfl, hb⟩; exact ⟨rfl, below_call hb hw1⟩)
          case ht =>
            intro w5 hw5
            have K5 := Lib.hid (K4.out.call (show Below _ _ _ from hw5))
            clear hw5 K4
            simp only [List.drop_succ_cons, List.drop_zero]
            obtain ⟨g0, g1, g2⟩ := cells3 (K5.out.2 _ (.head _))
            obtain ⟨l0, l1, l2⟩ := cells3 (K5.out.2 _ (.tail _ (.head _)))
            have lz : ∀ j, w5.frozen? ⟨B5, j, none⟩ = false := fun j => frozen_of_row w5 (B5) j _ _ (K5.out.2 _ (.tail _ (.head _)))
            go_wp2_with fail
            go_roundw
            case rel =>
              refine ⟨k + 1, by omega, by go_num, Lib.hid ?_⟩
              rw [HN.out]
              exact (kp_put1 K5.out hge5 (Ne.symm hne7) (fun p hp => by simp at hp; rcases hp with rfl | rfl <;> simp only <;> omega) _ _ _).subs fun p hp => .tail _ hp
            case measure => simp [intOf]; omega
        · rw [if_neg (fun h => hl h.2)] at HN
          apply wp_region_yields 14 (fun w' => Blw w4.heap.size w4 w') [.agg #[.int .i64 x, .int .i64 y, .int .i64 z], .int .i64 f, .bool true, .bool true, .pointer (some ⟨B7, 0, none⟩), .pointer (some ⟨B7, 0, none⟩), .int .i64 sv.a, .agg #[.int .i64 x, .int .i64 y, .int .i64 z], .int .i64 f, .int .i64 af, .pointer (some ⟨w.heap.size, 2, none⟩), .int .i64 z, .int .i64 zz, .bool false] (by kernel_rfl) (by kernel_rfl) (show Below _ _ _ from (Below.refl _ _).drew)
          case haF =>
            simp [putJs, Act.put, List.range, List.range.loop]
            exact rfl
          case h =>
            have hBg := K4.out.2 _ (.head _)
            have hBx := K4.out.2 _ (.tail _ (.tail _ (.tail _ (.head _))))
            simp only [List.take_succ_cons, List.take_zero, YieldsL]
            clear K4
            refine ⟨.no rfl ?_, .no rfl ?_, .no rfl ?_, .no rfl ?_, .yes rfl rfl ?_, .yes rfl rfl ?_, .yes rfl rfl ?_, .yes rfl rfl ?_, .yes rfl rfl ?_, .yes rfl rfl ?_, .yes rfl rfl ?_, .yes rfl rfl ?_, .yes rfl rfl ?_, .yes rfl rfl ?_, trivial⟩
            all_goals
              intro w1 hw1
              obtain ⟨g_0, g_1, g_2⟩ := cells3 (((show Below _ _ _ from hw1).block _ (lt_of_blk hBg)).trans hBg)
              obtain ⟨x_0, x_1, x_2⟩ := cells3 (((show Below _ _ _ from hw1).block _ (lt_of_blk hBx)).trans hBx)
              unfold Oper.wp
              simp only [execOp]
              go_simp <;> first
                | exact ⟨rfl, hw1⟩
                | ((with_reducible refine (HKF.out _).mono ?_); rintro e w2 ⟨rfl, hb⟩; exact ⟨rfl, below_call hb hw1⟩)
          case ht =>
            intro w5 hw5
            have K5 := Lib.hid (K4.out.call (show Below _ _ _ from hw5))
            clear hw5 K4
            simp only [List.drop_succ_cons, List.drop_zero]
            obtain ⟨g0, g1, g2⟩ := cells3 (K5.out.2 _ (.head _))
            obtain ⟨l0, l1, l2⟩ := cells3 (K5.out.2 _ (.tail _ (.head _)))
            have lz : ∀ j, w5.frozen? ⟨B5, j, none⟩ = false := fun j => frozen_of_row w5 (B5) j _ _ (K5.out.2 _ (.tail _ (.head _)))
            go_wp2_with fail
            go_roundw
            case rel =>
              refine ⟨k + 1, by omega, by go_num, Lib.hid ?_⟩
              rw [HN.out]
              exact K5.out.subs fun p hp => .tail _ hp
            case measure => simp [intOf]; omega
      · rw [if_neg (fun h => hf h.1)] at HN
        apply wp_region_yields 14 (fun w' => Blw w4.heap.size w4 w') [.agg #[.int .i64 x, .int .i64 y, .int .i64 z], .int .i64 f, .bool false, .bool false, undef, undef, undef, undef, undef, undef, undef, undef, undef, undef] (by kernel_rfl) (by kernel_rfl) (show Below _ _ _ from (Below.refl _ _).drew)
        case haF =>
          simp [putJs, Act.put, List.range, List.range.loop]
          exact rfl
        case h =>
          have hBg := K4.out.2 _ (.head _)
          have hBx := K4.out.2 _ (.tail _ (.tail _ (.tail _ (.head _))))
          simp only [List.take_succ_cons, List.take_zero, YieldsL]
          clear K4
          refine ⟨.no rfl ?_, .no rfl ?_, .no rfl ?_, .no rfl ?_, .not rfl rfl, .not rfl rfl, .not rfl rfl, .not rfl rfl, .not rfl rfl, .not rfl rfl, .not rfl rfl, .not rfl rfl, .not rfl rfl, .not rfl rfl, trivial⟩
          all_goals
            intro w1 hw1
            obtain ⟨g_0, g_1, g_2⟩ := cells3 (((show Below _ _ _ from hw1).block _ (lt_of_blk hBg)).trans hBg)
            obtain ⟨x_0, x_1, x_2⟩ := cells3 (((show Below _ _ _ from hw1).block _ (lt_of_blk hBx)).trans hBx)
            unfold Oper.wp
            simp only [execOp]
            go_simp <;> first
              | exact ⟨rfl, hw1⟩
              | ((with_reducible refine (HKF.out _).mono ?_); rintro e w2 ⟨rfl, hb⟩; exact ⟨rfl, below_call hb hw1⟩)
        case ht =>
          intro w5 hw5
          have K5 := Lib.hid (K4.out.call (show Below _ _ _ from hw5))
          clear hw5 K4
          simp only [List.drop_succ_cons, List.drop_zero]
          obtain ⟨g0, g1, g2⟩ := cells3 (K5.out.2 _ (.head _))
          obtain ⟨l0, l1, l2⟩ := cells3 (K5.out.2 _ (.tail _ (.head _)))
          have lz : ∀ j, w5.frozen? ⟨B5, j, none⟩ = false := fun j => frozen_of_row w5 (B5) j _ _ (K5.out.2 _ (.tail _ (.head _)))
          go_wp2_with fail
          go_roundw
          case rel =>
            refine ⟨k + 1, by omega, by go_num, Lib.hid ?_⟩
            rw [HN.out]
            exact K5.out.subs fun p hp => .tail _ hp
          case measure => simp [intOf]; omega
    · obtain rfl : k = n - 1 := by omega
      obtain ⟨l0, l1, l2⟩ := cells3 (hkp.out.2 _ (.head _))
      obtain ⟨o0, o1, o2⟩ := cells3 (hkp.out.2 _ (.tail _ (.head _)))
      have oz : ∀ j, wr.frozen? ⟨w.heap.size + 1, j, none⟩ = false := fun j => frozen_of_row wr (w.heap.size + 1) j _ _ (hkp.out.2 _ (.tail _ (.head _)))
      have hb5 := Lib.hid (Kp.below hkp.out)
      go_wp2_with fail
      refine bodyPost_ret (v := lv.agg) (by simp [results, Tryz.results90, go_sem, o0, o1, o2, PlV.agg]) rfl ⟨(by first | rfl | rw [hlv]), ?_⟩
      exact ((hb5.out.setCell (show w.heap.size ≤ w.heap.size + 1 by omega) _).setCell (show w.heap.size ≤ w.heap.size + 1 by omega) _).setCell (show w.heap.size ≤ w.heap.size + 1 by omega) _
end Go.Proofs.YtggffhmdgceljaaGreatDoor
