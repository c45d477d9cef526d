/-
  Contract of Bent, for valid air and a ray.
-/
import Derived.Test.YtggffhmdgceljaaGreatDoorRows
import Derived.WalkKit
import Derived.WalkSpells
import Derived.WalkLawsBesides
import Derived.Lib.Hide
import Derived.BigQuiet
import Derived.Deep.QuietTactic
import Derived.Handy
import Derived.Deep.RegionHeld3
import Derived.Deep.RegionWith
import Derived.StillTailTactics
import Derived.RangeFuncNested
import Derived.RangeFuncBound
import Derived.RangeFuncCalls
import Derived.RangeFuncLeaves
import Derived.RangeFuncBox
import Derived.Shelf.Abstract
import Derived.Shelf.RegionOpen
import Derived.OwnWalkIn
import Derived.TacticsInMore
import Derived.LoopNIn
import Derived.LoopIn
import Derived.Maps.AppendAt
import Derived.Test.YtggffhmdgceljaaGreatDoorProg
import Derived.Laws.FloatArith
import Derived.Laws.BitsAllLaws
import Derived.Deep.DeepCutAuto
import Derived.Stop.BytesEq
import Derived.Deep.MidRow
import Derived.Laws.CopyRow
import Derived.WalkMore
import Derived.Deep.DrawnRows
import Derived.Deep.CutBlock
import Derived.Orders
import Derived.LoopTactic
import Derived.Laws.StructEq
import Derived.Deep.RegionLaw
import Derived.RegionTactic
import Derived.StillTail
import Derived.Laws.RangeString
import Derived.Laws.RangeAny
import Derived.Test.YtggffhmdgceljaaGreatDoorOwaWn
import Derived.Test.YtggffhmdgceljaaGreatDoorOwaWa
import Derived.Test.YtggffhmdgceljaaGreatDoorOwaXe
import Derived.Test.YtggffhmdgceljaaGreatDoorOwaIb
import Derived.Test.YtggffhmdgceljaaGreatDoorOwaIl
import Derived.Test.YtggffhmdgceljaaGreatDoorOwaId
import Derived.Test.YtggffhmdgceljaaGreatDoorOwaNc
import Derived.Test.YtggffhmdgceljaaGreatDoorOwaNu
import Derived.Test.YtggffhmdgceljaaGreatDoorOwaNv
namespace Go.Proofs.YtggffhmdgceljaaGreatDoor
open Go.RowKit
set_option linter.unusedVariables false
set_option linter.unusedSimpArgs false

theorem cell_set3 (w : World) {B q : Nat} (hq : q ≠ B) (i : Nat) (a b c : Value) : (((w.setCell ⟨B, 0, none⟩ a).setCell ⟨B, 1, none⟩ b).setCell ⟨B, 2, none⟩ c).cell? ⟨q, i, none⟩ = w.cell? ⟨q, i, none⟩ := by
  unfold World.cell?
  rw [show ((((w.setCell ⟨B, 0, none⟩ a).setCell ⟨B, 1, none⟩ b).setCell ⟨B, 2, none⟩ c).heap[q]?) = w.heap[q]? from put3_other w hq a b c]
theorem blw_set3 {w v : World} (h : Blw w.heap.size w v) {B : Nat} (hB : w.heap.size ≤ B) (a b c : Value) : Blw w.heap.size w (((v.setCell ⟨B, 0, none⟩ a).setCell ⟨B, 1, none⟩ b).setCell ⟨B, 2, none⟩ c) :=
  show Below _ _ _ from put3_below (show Below _ _ _ from h) hB a b c

set_option maxRecDepth 100000 in
set_option maxHeartbeats 6400000 in
theorem bent_walk (P : List PlV) (b q n c m : Nat) (x y z pa pl pi s1 s2 s3 r1 r2 r3 : Int) (he : rayErr x y z = 0) (w : World)
    (KA : ∀ w1 : World, Below w.heap.size w w1 → Calls Tryz.prog 88 #[.slice (some ⟨b, q, none⟩) n c] w1 fun e w' => e = .returned (.int .i64 0) ∧ Below w1.heap.size w1 w')
    (KST : ∀ w1 : World, Blw w.heap.size w w1 → Calls Tryz.prog 91 #[.slice (some ⟨b, q, none⟩) n c] w1 fun e w' => ∃ g cap, e = .returned (.slice (some ⟨g, 0, none⟩) m cap) ∧ (PlsAt w' g 0 P ∧ g < w'.heap.size ∧ m ≤ cap) ∧ Below w1.heap.size w1 w')
    (KSO : ∀ (w1 : World) (g cap : Nat), PlsAt w1 g 0 P ∧ g < w1.heap.size ∧ m ≤ cap → Calls Tryz.prog 90 #[.slice (some ⟨g, 0, none⟩) m cap, .agg #[.int .i64 x, .int .i64 y, .int .i64 z]] w1 fun e w' => e = .returned (.agg #[.int .i64 pa, .int .i64 pl, .int .i64 pi]) ∧ Below w1.heap.size w1 w')
    (KL : ∀ w1 : World, Blw w.heap.size w w1 → Calls Tryz.prog 89 #[.agg #[.int .i64 x, .int .i64 y, .int .i64 z], .int .i64 pl] w1 fun e w' => e = .returned (.agg #[.int .i64 s1, .int .i64 s2, .int .i64 s3]) ∧ Below w1.heap.size w1 w')
    (KR : ∀ w1 : World, Calls Tryz.prog 72 #[.agg #[.int .i64 s1, .int .i64 s2, .int .i64 s3]] w1 fun e w' => e = .returned (.agg #[.int .i64 r1, .int .i64 r2, .int .i64 r3]) ∧ Below w1.heap.size w1 w') :
    Calls Tryz.prog 58 #[.slice (some ⟨b, q, none⟩) n c, .agg #[.int .i64 x, .int .i64 y, .int .i64 z]] w fun e w' => e = .returned (.tuple #[.agg #[.int .i64 r1, .int .i64 r2, .int .i64 r3], .int .i64 0]) ∧ Below w.heap.size w w' := by
  have HKA := Lib.hid KA
  have HKST := Lib.hid KST
  have HKSO := Lib.hid KSO
  have HKL := Lib.hid KL
  have HKR := Lib.hid KR
  clear KA KST KSO KL KR
  have KX : Hid (∀ w1 : World, Calls Tryz.prog 43 #[.agg #[.int .i64 x, .int .i64 y, .int .i64 z]] w1 fun e w' => e = .returned (.int .i64 0) ∧ Below w1.heap.size w1 w') := Lib.hid fun w1 => by
    have h := checkRay_all x y z w1
    rwa [he] at h
  have KP : Hid (∀ w1 : World, Calls Tryz.prog 45 #[.agg #[.int .i64 x, .int .i64 y, .int .i64 z]] w1 fun e w' => e = .returned (.agg #[.int .i64 x, .int .i64 y, .int .i64 z]) ∧ Below w1.heap.size w1 w') := Lib.hid fun w1 => partsOf_any x y z w1
  have KV : Hid (∀ w1 : World, Calls Tryz.prog 73 #[.agg #[.int .i64 r1, .int .i64 r2, .int .i64 r3]] w1 fun e w' => e = .returned (.agg #[.int .i64 r1, .int .i64 r2, .int .i64 r3]) ∧ Below w1.heap.size w1 w') := Lib.hid fun w1 => vector_any r1 r2 r3 w1
  have KF : Hid (∀ (w1 : World) (b : Nat), (∀ j, j < 2 → w1.cell? ⟨b, 0 + j, none⟩ = some (.int .i64 (([0, 0] : List Int)[j]?.getD 0))) → Calls Tryz.prog 42 #[.slice (some ⟨b, 0, none⟩) 2 2] w1 fun e w' => e = .returned (.int .i64 0) ∧ w1 = w') := Lib.hid fun w1 b h => first_any b 0 2 2 [0, 0] rfl (by omega) w1 h
  obtain ⟨W0, hW0⟩ : ∃ W0, ((w.alloc (.cells #[.int .i64 x, .int .i64 y, .int .i64 z] 23)).alloc (.cells #[.int .i64 0, .int .i64 0, .int .i64 0] 23)) = W0 := ⟨_, rfl⟩
  have K0 : Hid (Kp w W0 [(w.heap.size + 1, (.cells #[.int .i64 0, .int .i64 0, .int .i64 0] 23 (0, 0))), (w.heap.size, (.cells #[.int .i64 x, .int .i64 y, .int .i64 z] 23 (0, 0)))]) := Lib.hid (by
    rw [← hW0]
    have k := (((Kp.none w).alloc (.cells #[.int .i64 x, .int .i64 y, .int .i64 z] 23)).alloc (.cells #[.int .i64 0, .int .i64 0, .int .i64 0] 23))
    simpa using k)
  have KA : Hid (∀ w1 : World, Blw W0.heap.size W0 w1 → Calls Tryz.prog 88 #[.slice (some ⟨b, q, none⟩) n c] w1 fun e w' => e = .returned (.int .i64 0) ∧ Below w1.heap.size w1 w') := Lib.hid fun w1 hb => HKA.out w1 ((Kp.below K0.out).trans ((show Below _ _ _ from hb).mono (Kp.below K0.out).size))
  go_enter Tryz.func58, Tryz.ntmps58
  go_upto_region 1 with fail
  try rw [hW0]
  clear hW0
  apply wp_region_gives 4 (fun w' => Blw W0.heap.size W0 w') [.slice (some ⟨b, q, none⟩) n c, .int .i64 0, .agg #[.int .i64 x, .int .i64 y, .int .i64 z], .int .i64 0] (by kernel_rfl) (by kernel_rfl) (by kernel_rfl) (show Below _ _ _ from (Below.refl _ _).drew)
  case haF =>
    simp [putJs, Act.put, List.range, List.range.loop]
    exact rfl
  case h =>
    have hBx := K0.out.2 _ (.tail _ (.head _))
    simp only [List.take_succ_cons, List.take_zero, GivesL]
    clear K0
    refine ⟨?_, ?_, ?_, ?_, trivial⟩
    all_goals
      intro w1 hw1
      obtain ⟨x_0, x_1, x_2⟩ := cells3 (((show Below _ _ _ from hw1).block _ (lt_of_blk hBx)).trans hBx)
      unfold Oper.wp
      simp only [execOp]
      go_simp <;> first
        | exact ⟨rfl, hw1⟩
        | ((with_reducible refine (KX.out _).mono ?_); rintro e w2 ⟨rfl, hb⟩; exact ⟨rfl, below_call hb hw1⟩)
        | ((with_reducible refine (KA.out _ hw1).mono ?_); rintro e w2 ⟨rfl, hb⟩; exact ⟨rfl, below_call hb hw1⟩)
  case ht =>
    intro w2 hw5
    have K2 := Lib.hid (K0.out.call (show Below _ _ _ from hw5))
    clear hw5 K0
    simp only [List.drop_succ_cons, List.drop_zero]
    clear KX HKA KA
    go_upto_region 4 with (first
      | (go_at_call 42; (with_reducible refine (KF.out _ _ ?_).mono ?_); rotate_left 1; rintro e w6 ⟨rfl, rfl⟩; rotate_left 1; (intro j hj; match j, hj with | 0, _ => simp [go_sem] | 1, _ => simp [go_sem])))
    refine wp_world (fun w' => Kp w w' [(w.heap.size + 1, (.cells #[.int .i64 0, .int .i64 0, .int .i64 0] 23 (0, 0))), (w.heap.size, (.cells #[.int .i64 x, .int .i64 y, .int .i64 z] 23 (0, 0)))]) (by exact K2.out.call ((Below.refl _ _).alloc (Nat.le_refl _) _)) fun w3 k3 => ?_
    have K3 := Lib.hid k3
    clear k3 K2 KF
    obtain ⟨n0, n1, n2⟩ := cells3 (K3.out.2 _ (.tail _ (.head _)))
    go_upto_region 5 with (first
      | (go_at_call 45; (with_reducible refine (KP.out _).mono ?_); rintro e w7 ⟨rfl, hb⟩; have K7 := Lib.hid (K3.out.call hb); clear hb n0 n1 n2 K3))
    refine wp_world (fun w' => Kp w w' [(w7.heap.size, (.cells #[.int .i64 x, .int .i64 y, .int .i64 z] 94 (0, 0))), (w.heap.size + 1, (.cells #[.int .i64 0, .int .i64 0, .int .i64 0] 23 (0, 0))), (w.heap.size, (.cells #[.int .i64 x, .int .i64 y, .int .i64 z] 23 (0, 0)))]) (by exact K7.out.alloc (.cells #[.int .i64 x, .int .i64 y, .int .i64 z] 94)) fun w8 k8 => ?_
    have K8 := Lib.hid k8
    clear k8
    obtain ⟨B7, hB7⟩ : ∃ B7, w7.heap.size = B7 := ⟨_, rfl⟩
    have hNE : w7.heap.size ≠ w.heap.size + 1 := by
      have h1 := lt_of_blk (K7.out.2 _ (.head _))
      simp only at h1
      omega
    rw [hB7] at K8 hNE ⊢
    clear hB7 K7
    obtain ⟨x0, x1, x2⟩ := cells3 (K8.out.2 _ (.head _))
    have hS7 : B7 < w8.heap.size := lt_of_blk (K8.out.2 _ (.head _))
    have hW8 := Lib.hid (Kp.below K8.out)
    have hR0 : Blw w.heap.size w w8 := show Below _ _ _ from hW8.out
    have hR1 : Blw w.heap.size w w8.drew := show Below _ _ _ from hW8.out.drew
    have hne7 : B7 ≠ w.heap.size + 1 := hNE
    have hD0 : Blw w8.heap.size w8 w8 := show Below _ _ _ from Below.refl _ _
    have hD1 : Blw w8.heap.size w8 w8.drew := show Below _ _ _ from (Below.refl _ w8).drew
    have f1 : ∀ w1 : World, (Instr.field 148 (.agg #[.int .i64 pa, .int .i64 pl, .int .i64 pi]) 0).run Tryz.prog w1 = .ok (.agg #[.int .i64 pa, .int .i64 pl]) w1 := fun w1 => by kernel_rfl
    have f2 : ∀ w1 : World, (Instr.field 146 (.agg #[.int .i64 pa, .int .i64 pl]) 1).run Tryz.prog w1 = .ok (.int .i64 pl) w1 := fun w1 => by kernel_rfl
    go_region_held3 (fun w' => w'.cell? ⟨B7, 0, none⟩ = some (.int .i64 x) ∧ w'.cell? ⟨B7, 1, none⟩ = some (.int .i64 y) ∧ w'.cell? ⟨B7, 2, none⟩ = some (.int .i64 z) ∧ Blw w.heap.size w w')
      (first | (go_split_ands; refine ⟨?_, ?_, ?_, ?_⟩ <;> first | (with_reducible assumption) | ((rw [h1.cell hS7]; assumption)) | ((rw [h2.cell hS7]; assumption)) | ((rw [h3.cell hS7]; assumption)) | ((rw [h4.cell hS7]; assumption)) | ((rw [h5.cell hS7]; assumption)) | ((rw [cell_set3 _ hne7, h5.cell hS7]; assumption)) | exact blw_set3 q5 (by omega) _ _ _) | go_keep)
      (first
        | (go_at_call 91; (with_reducible refine (HKST.out _ (by with_reducible assumption)).mono ?_); rintro e w1 ⟨g, cap, rfl, hP, hb⟩; have h1 : Below w8.heap.size w8 w1 := (show Below w8.heap.size w8 _ from (by with_reducible assumption : Blw w8.heap.size w8 _)).trans (hb.mono (by simp)); have q1 : Blw w.heap.size w w1 := hW8.out.trans (h1.mono hW8.out.size); have HP := Lib.hid hP; clear hP hb)
        | (go_at_call 90; (with_reducible refine (HKSO.out _ _ _ HP.out).mono ?_); rintro e w2 ⟨rfl, hb⟩; have h2 : Below w8.heap.size w8 w2 := h1.trans (hb.mono h1.size); have q2 : Blw w.heap.size w w2 := hW8.out.trans (h2.mono hW8.out.size); clear hb HP)
        | (go_at_call 89; (with_reducible refine (HKL.out _ (by with_reducible assumption)).mono ?_); rintro e w3 ⟨rfl, hb⟩; have h3 : Below w8.heap.size w8 w3 := h2.trans (hb.mono h2.size); have q3 : Blw w.heap.size w w3 := hW8.out.trans (h3.mono hW8.out.size); clear hb)
        | (go_at_call 72; (with_reducible refine (HKR.out _).mono ?_); rintro e w4 ⟨rfl, hb⟩; have h4 : Below w8.heap.size w8 w4 := h3.trans (hb.mono h3.size); have q4 : Blw w.heap.size w w4 := hW8.out.trans (h4.mono hW8.out.size); clear hb)
        | (go_at_call 73; (with_reducible refine (KV.out _).mono ?_); rintro e w5 ⟨rfl, hb⟩; have h5 : Below w8.heap.size w8 w5 := h4.trans (hb.mono h4.size); have q5 : Blw w.heap.size w w5 := hW8.out.trans (h5.mono hW8.out.size); clear hb; have K9 := Lib.hid (K8.out.call h5); obtain ⟨o0, o1, o2⟩ := cells3 (K9.out.2 _ (.tail _ (.head _))); have oz : ∀ j, w5.frozen? ⟨w.heap.size + 1, j, none⟩ = false := fun j => frozen_of_row w5 (w.heap.size + 1) j _ _ (K9.out.2 _ (.tail _ (.head _)))))
    all_goals
      go_wp2_with fail
      have hb5 := Lib.hid (Kp.below K9.out)
      refine bodyPost_ret (v := .tuple #[.agg #[.int .i64 r1, .int .i64 r2, .int .i64 r3], .int .i64 0]) (by simp [results, Tryz.results58, go_sem, o0, o1, o2]) rfl ⟨rfl, ?_⟩
      exact ((hb5.out.setCell (show w.heap.size ≤ w.heap.size + 1 by omega) _).setCell (show w.heap.size ≤ w.heap.size + 1 by omega) _).setCell (show w.heap.size ≤ w.heap.size + 1 by omega) _
end Go.Proofs.YtggffhmdgceljaaGreatDoor
