/-
  Contract of Frame, for rays: the frame of a ray that is not upright.
-/
import Derived.Test.YtggffhmdgceljaaGreatDoorRows
import Derived.WalkKit
import Derived.WalkSpells
import Derived.WalkLawsBesides
import Derived.Lib.Hide
import Derived.BigQuiet
import Derived.Deep.QuietTactic
import Derived.Handy
import Derived.Deep.RegionHeld3
import Derived.Deep.RegionWith
import Derived.StillTailTactics
import Derived.RangeFuncNested
import Derived.RangeFuncBound
import Derived.RangeFuncCalls
import Derived.RangeFuncLeaves
import Derived.RangeFuncBox
import Derived.Shelf.Abstract
import Derived.Shelf.RegionOpen
import Derived.OwnWalkIn
import Derived.TacticsInMore
import Derived.LoopNIn
import Derived.LoopIn
import Derived.Maps.AppendAt
import Derived.Test.YtggffhmdgceljaaGreatDoorProg
import Derived.Laws.FloatArith
import Derived.Laws.BitsAllLaws
import Derived.Deep.DeepCutAuto
import Derived.Stop.BytesEq
import Derived.Deep.MidRow
import Derived.Laws.CopyRow
import Derived.WalkMore
import Derived.Deep.DrawnRows
import Derived.Deep.CutBlock
import Derived.Orders
import Derived.LoopTactic
import Derived.Laws.StructEq
import Derived.Deep.RegionLaw
import Derived.RegionTactic
import Derived.StillTail
import Derived.Test.YtggffhmdgceljaaGreatDoorOwaWn
import Derived.Test.YtggffhmdgceljaaGreatDoorOwaXe
import Derived.Test.YtggffhmdgceljaaGreatDoorOwaWa
import Derived.Test.YtggffhmdgceljaaGreatDoorOwaIb
import Derived.Test.YtggffhmdgceljaaGreatDoorOwaIk
import Derived.Test.YtggffhmdgceljaaGreatDoorOwaIl
import Derived.Test.YtggffhmdgceljaaGreatDoorOwaId
import Derived.Test.YtggffhmdgceljaaGreatDoorOwaIy
namespace Go.Proofs.YtggffhmdgceljaaGreatDoor
open Go.RowKit
set_option linter.unusedVariables false
set_option linter.unusedSimpArgs false

/-- The variable axes holds the three axes. -/
def AxesAt (w : World) : Prop := ∀ k, k < 9 → w.cell? ⟨0, k, none⟩ = some (.int .i64 (([1, 0, 0, 0, 1, 0, 0, 0, 1] : List Int)[k]?.getD 0))
theorem AxesAt.on {w w' : World} (h : AxesAt w) (hb : Below w.heap.size w w') : AxesAt w' := fun k hk =>
  (hb.cell (p := ⟨0, k, none⟩) (World.block_lt_of_cell? _ _ (h k hk))).trans (h k hk)
theorem cells6 {w : World} {B : Nat} {T : TypeId} {a b c d e f : Value} (h : w.heap[B]? = some (.cells #[a, b, c, d, e, f] T (0, 0))) :
    w.cell? ⟨B, 0, none⟩ = some a ∧ w.cell? ⟨B, 1, none⟩ = some b ∧ w.cell? ⟨B, 2, none⟩ = some c ∧ w.cell? ⟨B, 3, none⟩ = some d ∧ w.cell? ⟨B, 4, none⟩ = some e ∧ w.cell? ⟨B, 5, none⟩ = some f :=
  ⟨by rw [cell_of_row w _ 0 _ _ (0, 0) h]; rfl, by rw [cell_of_row w _ 1 _ _ (0, 0) h]; rfl, by rw [cell_of_row w _ 2 _ _ (0, 0) h]; rfl, by rw [cell_of_row w _ 3 _ _ (0, 0) h]; rfl, by rw [cell_of_row w _ 4 _ _ (0, 0) h]; rfl, by rw [cell_of_row w _ 5 _ _ (0, 0) h]; rfl⟩
theorem kp_put1 {w w1 : World} {A : Nat × Obj} {B : Nat} {T : TypeId} {u v t : Value} {l : List (Nat × Obj)} (h : Kp w w1 (A :: (B, .cells #[u, v, t] T (0, 0)) :: l)) (hB : w.heap.size ≤ B) (hA : A.1 ≠ B) (hl : ∀ p ∈ l, p.1 ≠ B) (a b c : Value) :
    Kp w (put3 w1 B a b c) (A :: (B, .cells #[a, b, c] T (0, 0)) :: l) := by
  refine ⟨put3_below h.1 hB _ _ _, fun p hp => ?_⟩
  rcases List.mem_cons.1 hp with rfl | hp
  · exact (put3_other _ hA _ _ _).trans (h.2 _ (.head _))
  · rcases List.mem_cons.1 hp with rfl | hp
    · exact put3_self (h.2 _ (.tail _ (.head _))) _ _ _
    · exact (put3_other _ (hl p hp) _ _ _).trans (h.2 p (.tail _ (.tail _ hp)))

set_option maxRecDepth 100000 in
set_option maxHeartbeats 6400000 in
theorem frame_slant (x y z r1 r2 r3 d1 d2 d3 s1 s2 s3 : Int) (he : rayErr x y z = 0) (hxy : x ≠ 0) (w : World) (hA : AxesAt w)
    (c1 c2 c3 : Int)
    (KC : ∀ w1 : World, Calls Tryz.prog 78 #[.agg #[.int .i64 0, .int .i64 0, .int .i64 1], .agg #[.int .i64 x, .int .i64 y, .int .i64 z]] w1 fun e w' => e = .returned (.agg #[.int .i64 c1, .int .i64 c2, .int .i64 c3]) ∧ Below w1.heap.size w1 w')
    (KR : ∀ w1 : World, Calls Tryz.prog 72 #[.agg #[.int .i64 c1, .int .i64 c2, .int .i64 c3]] w1 fun e w' => e = .returned (.agg #[.int .i64 r1, .int .i64 r2, .int .i64 r3]) ∧ Below w1.heap.size w1 w')
    (KD : ∀ w1 : World, Calls Tryz.prog 78 #[.agg #[.int .i64 x, .int .i64 y, .int .i64 z], .agg #[.int .i64 r1, .int .i64 r2, .int .i64 r3]] w1 fun e w' => e = .returned (.agg #[.int .i64 d1, .int .i64 d2, .int .i64 d3]) ∧ Below w1.heap.size w1 w')
    (KS : ∀ w1 : World, Calls Tryz.prog 72 #[.agg #[.int .i64 d1, .int .i64 d2, .int .i64 d3]] w1 fun e w' => e = .returned (.agg #[.int .i64 s1, .int .i64 s2, .int .i64 s3]) ∧ Below w1.heap.size w1 w') :
    Calls Tryz.prog 27 #[.agg #[.int .i64 x, .int .i64 y, .int .i64 z]] w fun e w' => e = .returned (.tuple #[.agg #[.int .i64 r1, .int .i64 r2, .int .i64 r3, .int .i64 s1, .int .i64 s2, .int .i64 s3], .int .i64 0]) ∧ Below w.heap.size w w' := by
  have KX : Hid (∀ w1 : World, Calls Tryz.prog 43 #[.agg #[.int .i64 x, .int .i64 y, .int .i64 z]] w1 fun e w' => e = .returned (.int .i64 0) ∧ Below w1.heap.size w1 w') := Lib.hid fun w1 => by
    have h := checkRay_all x y z w1
    rwa [he] at h
  have KP : Hid (∀ w1 : World, Calls Tryz.prog 45 #[.agg #[.int .i64 x, .int .i64 y, .int .i64 z]] w1 fun e w' => e = .returned (.agg #[.int .i64 x, .int .i64 y, .int .i64 z]) ∧ Below w1.heap.size w1 w') := Lib.hid fun w1 => partsOf_any x y z w1
  have HKC := Lib.hid KC
  have HKR := Lib.hid KR
  have HKD := Lib.hid KD
  have HKS := Lib.hid KS
  clear KC KR KD KS
  have hne : (x == 0) = false := by simp [hxy]
  clear he
  obtain ⟨W0, hW0⟩ : ∃ W0, ((w.alloc (.cells #[.int .i64 x, .int .i64 y, .int .i64 z] 23)).alloc (.cells #[.int .i64 0, .int .i64 0, .int .i64 0, .int .i64 0, .int .i64 0, .int .i64 0] 46)) = W0 := ⟨_, rfl⟩
  have K0 : Hid (Kp w W0 [(w.heap.size + 1, (.cells #[.int .i64 0, .int .i64 0, .int .i64 0, .int .i64 0, .int .i64 0, .int .i64 0] 46 (0, 0))), (w.heap.size, (.cells #[.int .i64 x, .int .i64 y, .int .i64 z] 23 (0, 0)))]) := Lib.hid (by
    rw [← hW0]
    have k := (((Kp.none w).alloc (.cells #[.int .i64 x, .int .i64 y, .int .i64 z] 23)).alloc (.cells #[.int .i64 0, .int .i64 0, .int .i64 0, .int .i64 0, .int .i64 0, .int .i64 0] 46))
    simpa using k)
  have HA := Lib.hid hA
  clear hA
  obtain ⟨x0, x1, x2⟩ := cells3 (K0.out.2 _ (.tail _ (.head _)))
  go_enter Tryz.func27, Tryz.ntmps27
  go_upto_region 1 with fail
  try rw [hW0]
  clear hW0
  go_upto_region 4 with (first
    | (go_at_call 43; (with_reducible refine (KX.out _).mono ?_); rintro e w3 ⟨rfl, hb⟩; have K3 := Lib.hid (K0.out.call hb); clear hb x0 x1 x2 K0))
  go_cut [5, 6] (fun s5 s6 wr => ∃ Bp Bq : Nat, s5 = .pointer (some ⟨Bp, 0, none⟩) ∧ s6 = .pointer (some ⟨Bq, 0, none⟩) ∧ Bp ≠ Bq ∧ w.heap.size + 1 < Bq ∧ Kp w wr [(Bp, (.cells #[.int .i64 x, .int .i64 y, .int .i64 z] 94 (0, 0))), (Bq, (.cells #[.int .i64 1, .int .i64 0, .int .i64 0] 94 (0, 0))), (w.heap.size + 1, (.cells #[.int .i64 0, .int .i64 0, .int .i64 0, .int .i64 0, .int .i64 0, .int .i64 0] 46 (0, 0))), (w.heap.size, (.cells #[.int .i64 x, .int .i64 y, .int .i64 z] 23 (0, 0)))])
  case first =>
    have hS0 : w.heap.size < w3.heap.size := lt_of_blk (K3.out.2 _ (.tail _ (.head _)))
    have hz3 : w.heap.size ≤ w3.heap.size := Nat.le_of_lt hS0
    obtain ⟨x0, x1, x2⟩ := cells3 (K3.out.2 _ (.tail _ (.head _)))
    have HA3 := Lib.hid (HA.out.on (Kp.below K3.out))
    have g0 : w3.cell? ⟨0, 0, none⟩ = some (.int .i64 1) := HA3.out 0 (by omega)
    have g1 : w3.cell? ⟨0, 1, none⟩ = some (.int .i64 0) := HA3.out 1 (by omega)
    have g2 : w3.cell? ⟨0, 2, none⟩ = some (.int .i64 0) := HA3.out 2 (by omega)
    have hG : 0 < w3.heap.size := World.block_lt_of_cell? _ _ g0
    refine axis_parts (l1 := 14) (c1 := 15) (l2 := 16) (c2 := 17) (n7 := 5) (n8 := 6) (pa := 1) (s := "cones.go:71") (BA := w.heap.size)
      (by unfold Apart6; decide) (by simp) rfl (by decide) (K3.out.2 _ (.tail _ (.head _))) g0 g1 g2 (fun Bp Bq wr hne h1 h2 hb h3 h4 => ?_)
    simp only [Act.put, List.setIfInBounds_toArray, List.set_cons_succ, List.set_cons_zero]
    rename_i hJ
    refine hJ _ _ ?_
    go_meet
    exact ⟨Bp, Bq, rfl, rfl, hne, Nat.lt_of_lt_of_le (lt_of_blk (K3.out.2 _ (.head _))) h2, kp_two K3.out hb h3 h4⟩
  case rest =>
    rename_i hK
    obtain ⟨Bp, Bq, rfl, rfl, hne, hle, hk⟩ := hcut
    refine hK _ _ ?_
    clear hK K3 KX KP
    have K4 := Lib.hid hk
    have HNE := Lib.hid (And.intro hne hle)
    clear hk hne hle
    obtain ⟨y0, y1, y2⟩ := cells3 (K4.out.2 _ (.head _))
    obtain ⟨p0, p1, p2⟩ := cells3 (K4.out.2 _ (.tail _ (.head _)))
    have pz : ∀ j, wc.frozen? ⟨Bq, j, none⟩ = false := fun j => frozen_of_row wc (Bq) j _ _ (K4.out.2 _ (.tail _ (.head _)))
    obtain ⟨x0, x1, x2⟩ := cells3 (K4.out.2 _ (.tail _ (.tail _ (.tail _ (.head _)))))
    have HA4 := Lib.hid (HA.out.on (Kp.below K4.out))
    have g6 : wc.cell? ⟨0, 6, none⟩ = some (.int .i64 0) := HA4.out 6 (by omega)
    have g7 : wc.cell? ⟨0, 7, none⟩ = some (.int .i64 0) := HA4.out 7 (by omega)
    have g8 : wc.cell? ⟨0, 8, none⟩ = some (.int .i64 1) := HA4.out 8 (by omega)
    have KV : Hid (∀ w1 : World, Calls Tryz.prog 73 #[.agg #[.int .i64 r1, .int .i64 r2, .int .i64 r3]] w1 fun e w' => e = .returned (.agg #[.int .i64 r1, .int .i64 r2, .int .i64 r3]) ∧ Below w1.heap.size w1 w') := Lib.hid fun w1 => vector_any r1 r2 r3 w1
    have KW : Hid (∀ w1 : World, Calls Tryz.prog 73 #[.agg #[.int .i64 s1, .int .i64 s2, .int .i64 s3]] w1 fun e w' => e = .returned (.agg #[.int .i64 s1, .int .i64 s2, .int .i64 s3]) ∧ Below w1.heap.size w1 w') := Lib.hid fun w1 => vector_any s1 s2 s3 w1
    go_upto_region 7 with (first
      | (go_at_call 78; (with_reducible refine (HKC.out _).mono ?_); rintro e w5 ⟨rfl, hb⟩; have K5 := Lib.hid (K4.out.call hb); clear hb y0 y1 y2 p0 p1 p2 pz x0 x1 x2 g6 g7 g8 HA4 K4)
      | (go_at_call 72; (with_reducible refine (HKR.out _).mono ?_); rintro e w6 ⟨rfl, hb⟩; have K6 := Lib.hid (K5.out.call hb); clear hb K5; obtain ⟨p0, p1, p2⟩ := cells3 (K6.out.2 _ (.tail _ (.head _))); have pz : ∀ j, w6.frozen? ⟨Bq, j, none⟩ = false := fun j => frozen_of_row w6 Bq j _ _ (K6.out.2 _ (.tail _ (.head _)))))
    refine wp_world (fun w' => Kp w w' [(Bp, (.cells #[.int .i64 x, .int .i64 y, .int .i64 z] 94 (0, 0))), (Bq, (.cells #[.int .i64 r1, .int .i64 r2, .int .i64 r3] 94 (0, 0))), (w.heap.size + 1, (.cells #[.int .i64 0, .int .i64 0, .int .i64 0, .int .i64 0, .int .i64 0, .int .i64 0] 46 (0, 0))), (w.heap.size, (.cells #[.int .i64 x, .int .i64 y, .int .i64 z] 23 (0, 0)))]) (by
      have h1 := HNE.out.1
      have h2 := HNE.out.2
      exact kp_put1 K6.out (by omega) h1 (fun p hp => by
        rcases List.mem_cons.1 hp with rfl | hp
        · show w.heap.size + 1 ≠ Bq
          omega
        · rcases List.mem_cons.1 hp with rfl | hp
          · show w.heap.size ≠ Bq
            omega
          · nomatch hp) _ _ _) fun w7 k7 => ?_
    have K7 := Lib.hid k7
    clear k7 K6 p0 p1 p2 pz
    obtain ⟨y0, y1, y2⟩ := cells3 (K7.out.2 _ (.head _))
    obtain ⟨p0, p1, p2⟩ := cells3 (K7.out.2 _ (.tail _ (.head _)))
    go_upto_region 8 with (first
      | (go_at_call 78; (with_reducible refine (HKD.out _).mono ?_); rintro e w8 ⟨rfl, hb⟩; have K8 := Lib.hid (K7.out.call hb); clear hb y0 y1 y2 p0 p1 p2 K7)
      | (go_at_call 72; (with_reducible refine (HKS.out _).mono ?_); rintro e w9 ⟨rfl, hb⟩; have K9 := Lib.hid (K8.out.call hb); clear hb K8))
    refine wp_world (fun w' => Kp w w' [(w9.heap.size, (.cells #[.int .i64 s1, .int .i64 s2, .int .i64 s3] 94 (0, 0))), (Bp, (.cells #[.int .i64 x, .int .i64 y, .int .i64 z] 94 (0, 0))), (Bq, (.cells #[.int .i64 r1, .int .i64 r2, .int .i64 r3] 94 (0, 0))), (w.heap.size + 1, (.cells #[.int .i64 0, .int .i64 0, .int .i64 0, .int .i64 0, .int .i64 0, .int .i64 0] 46 (0, 0))), (w.heap.size, (.cells #[.int .i64 x, .int .i64 y, .int .i64 z] 23 (0, 0)))]) (by first | exact K9.out.alloc _ | exact kp_set3 K9.out _ _ _) fun wa ka => ?_
    have Ka := Lib.hid ka
    obtain ⟨B7, hB7⟩ : ∃ B7, w9.heap.size = B7 := ⟨_, rfl⟩
    rw [hB7] at Ka ⊢
    clear ka K9 hB7
    apply wp_region_gives 5 (fun w' => Blw wa.heap.size wa w') [.agg #[.int .i64 r1, .int .i64 r2, .int .i64 r3], .agg #[.int .i64 r1, .int .i64 r2, .int .i64 r3], .agg #[.int .i64 s1, .int .i64 s2, .int .i64 s3], .agg #[.int .i64 s1, .int .i64 s2, .int .i64 s3], .agg #[.int .i64 r1, .int .i64 r2, .int .i64 r3, .int .i64 s1, .int .i64 s2, .int .i64 s3]] (by kernel_rfl) (by kernel_rfl) (by kernel_rfl) (show Below _ _ _ from (Below.refl _ _).drew)
    case haF =>
      simp [putJs, Act.put, List.range, List.range.loop]
      exact rfl
    case h =>
      have hBx := Ka.out.2 _ (.tail _ (.tail _ (.head _)))
      have hBy := Ka.out.2 _ (.head _)
      simp only [List.take_succ_cons, List.take_zero, GivesL]
      clear Ka
      refine ⟨?_, ?_, ?_, ?_, ?_, trivial⟩
      all_goals
        intro w1 hw1
        obtain ⟨x_0, x_1, x_2⟩ := cells3 (((show Below _ _ _ from hw1).block _ (lt_of_blk hBx)).trans hBx)
        obtain ⟨y_0, y_1, y_2⟩ := cells3 (((show Below _ _ _ from hw1).block _ (lt_of_blk hBy)).trans hBy)
        unfold Oper.wp
        simp only [execOp]
        go_simp <;> first
          | exact ⟨rfl, hw1⟩
          | ((with_reducible refine (KV.out _).mono ?_); rintro e w2 ⟨rfl, hb⟩; exact ⟨rfl, below_call hb hw1⟩)
          | ((with_reducible refine (KW.out _).mono ?_); rintro e w2 ⟨rfl, hb⟩; exact ⟨rfl, below_call hb hw1⟩)
    case ht =>
      intro wb hw5
      have Kb := Lib.hid (Ka.out.call (show Below _ _ _ from hw5))
      clear hw5 Ka
      simp only [List.drop_succ_cons, List.drop_zero]
      obtain ⟨o0, o1, o2, o3, o4, o5⟩ := cells6 (Kb.out.2 _ (.tail _ (.tail _ (.tail _ (.head _)))))
      have oz : ∀ j, wb.frozen? ⟨w.heap.size + 1, j, none⟩ = false := fun j => frozen_of_row wb (w.heap.size + 1) j _ _ (Kb.out.2 _ (.tail _ (.tail _ (.tail _ (.head _)))))
      have hbb := Lib.hid (Kp.below Kb.out)
      clear Kb
      go_wp2_with fail
      refine bodyPost_ret (v := .tuple #[.agg #[.int .i64 r1, .int .i64 r2, .int .i64 r3, .int .i64 s1, .int .i64 s2, .int .i64 s3], .int .i64 0]) (by simp [results, Tryz.results27, go_sem, o0, o1, o2, o3, o4, o5]) rfl ⟨rfl, ?_⟩
      exact ((((((hbb.out.setCell (show w.heap.size ≤ w.heap.size + 1 by omega) _).setCell (show w.heap.size ≤ w.heap.size + 1 by omega) _).setCell (show w.heap.size ≤ w.heap.size + 1 by omega) _).setCell (show w.heap.size ≤ w.heap.size + 1 by omega) _).setCell (show w.heap.size ≤ w.heap.size + 1 by omega) _).setCell (show w.heap.size ≤ w.heap.size + 1 by omega) _)

set_option maxRecDepth 100000 in
set_option maxHeartbeats 6400000 in
theorem frame_slanty (y z r1 r2 r3 d1 d2 d3 s1 s2 s3 : Int) (he : rayErr 0 y z = 0) (hxy : y ≠ 0) (w : World) (hA : AxesAt w)
    (c1 c2 c3 : Int)
    (KC : ∀ w1 : World, Calls Tryz.prog 78 #[.agg #[.int .i64 0, .int .i64 0, .int .i64 1], .agg #[.int .i64 0, .int .i64 y, .int .i64 z]] w1 fun e w' => e = .returned (.agg #[.int .i64 c1, .int .i64 c2, .int .i64 c3]) ∧ Below w1.heap.size w1 w')
    (KR : ∀ w1 : World, Calls Tryz.prog 72 #[.agg #[.int .i64 c1, .int .i64 c2, .int .i64 c3]] w1 fun e w' => e = .returned (.agg #[.int .i64 r1, .int .i64 r2, .int .i64 r3]) ∧ Below w1.heap.size w1 w')
    (KD : ∀ w1 : World, Calls Tryz.prog 78 #[.agg #[.int .i64 0, .int .i64 y, .int .i64 z], .agg #[.int .i64 r1, .int .i64 r2, .int .i64 r3]] w1 fun e w' => e = .returned (.agg #[.int .i64 d1, .int .i64 d2, .int .i64 d3]) ∧ Below w1.heap.size w1 w')
    (KS : ∀ w1 : World, Calls Tryz.prog 72 #[.agg #[.int .i64 d1, .int .i64 d2, .int .i64 d3]] w1 fun e w' => e = .returned (.agg #[.int .i64 s1, .int .i64 s2, .int .i64 s3]) ∧ Below w1.heap.size w1 w') :
    Calls Tryz.prog 27 #[.agg #[.int .i64 0, .int .i64 y, .int .i64 z]] w fun e w' => e = .returned (.tuple #[.agg #[.int .i64 r1, .int .i64 r2, .int .i64 r3, .int .i64 s1, .int .i64 s2, .int .i64 s3], .int .i64 0]) ∧ Below w.heap.size w w' := by
  have KX : Hid (∀ w1 : World, Calls Tryz.prog 43 #[.agg #[.int .i64 0, .int .i64 y, .int .i64 z]] w1 fun e w' => e = .returned (.int .i64 0) ∧ Below w1.heap.size w1 w') := Lib.hid fun w1 => by
    have h := checkRay_all 0 y z w1
    rwa [he] at h
  have KP : Hid (∀ w1 : World, Calls Tryz.prog 45 #[.agg #[.int .i64 0, .int .i64 y, .int .i64 z]] w1 fun e w' => e = .returned (.agg #[.int .i64 0, .int .i64 y, .int .i64 z]) ∧ Below w1.heap.size w1 w') := Lib.hid fun w1 => partsOf_any 0 y z w1
  have HKC := Lib.hid KC
  have HKR := Lib.hid KR
  have HKD := Lib.hid KD
  have HKS := Lib.hid KS
  clear KC KR KD KS
  have hne : (y == 0) = false := by simp [hxy]
  clear he
  obtain ⟨W0, hW0⟩ : ∃ W0, ((w.alloc (.cells #[.int .i64 0, .int .i64 y, .int .i64 z] 23)).alloc (.cells #[.int .i64 0, .int .i64 0, .int .i64 0, .int .i64 0, .int .i64 0, .int .i64 0] 46)) = W0 := ⟨_, rfl⟩
  have K0 : Hid (Kp w W0 [(w.heap.size + 1, (.cells #[.int .i64 0, .int .i64 0, .int .i64 0, .int .i64 0, .int .i64 0, .int .i64 0] 46 (0, 0))), (w.heap.size, (.cells #[.int .i64 0, .int .i64 y, .int .i64 z] 23 (0, 0)))]) := Lib.hid (by
    rw [← hW0]
    have k := (((Kp.none w).alloc (.cells #[.int .i64 0, .int .i64 y, .int .i64 z] 23)).alloc (.cells #[.int .i64 0, .int .i64 0, .int .i64 0, .int .i64 0, .int .i64 0, .int .i64 0] 46))
    simpa using k)
  have HA := Lib.hid hA
  clear hA
  obtain ⟨x0, x1, x2⟩ := cells3 (K0.out.2 _ (.tail _ (.head _)))
  go_enter Tryz.func27, Tryz.ntmps27
  go_upto_region 1 with fail
  try rw [hW0]
  clear hW0
  go_upto_region 4 with (first
    | (go_at_call 43; (with_reducible refine (KX.out _).mono ?_); rintro e w3 ⟨rfl, hb⟩; have K3 := Lib.hid (K0.out.call hb); clear hb x0 x1 x2 K0))
  go_cut [5, 6] (fun s5 s6 wr => ∃ Bp Bq : Nat, s5 = .pointer (some ⟨Bp, 0, none⟩) ∧ s6 = .pointer (some ⟨Bq, 0, none⟩) ∧ Bp ≠ Bq ∧ w.heap.size + 1 < Bq ∧ Kp w wr [(Bp, (.cells #[.int .i64 0, .int .i64 y, .int .i64 z] 94 (0, 0))), (Bq, (.cells #[.int .i64 1, .int .i64 0, .int .i64 0] 94 (0, 0))), (w.heap.size + 1, (.cells #[.int .i64 0, .int .i64 0, .int .i64 0, .int .i64 0, .int .i64 0, .int .i64 0] 46 (0, 0))), (w.heap.size, (.cells #[.int .i64 0, .int .i64 y, .int .i64 z] 23 (0, 0)))])
  case first =>
    have hS0 : w.heap.size < w3.heap.size := lt_of_blk (K3.out.2 _ (.tail _ (.head _)))
    have hz3 : w.heap.size ≤ w3.heap.size := Nat.le_of_lt hS0
    obtain ⟨x0, x1, x2⟩ := cells3 (K3.out.2 _ (.tail _ (.head _)))
    have HA3 := Lib.hid (HA.out.on (Kp.below K3.out))
    have g0 : w3.cell? ⟨0, 0, none⟩ = some (.int .i64 1) := HA3.out 0 (by omega)
    have g1 : w3.cell? ⟨0, 1, none⟩ = some (.int .i64 0) := HA3.out 1 (by omega)
    have g2 : w3.cell? ⟨0, 2, none⟩ = some (.int .i64 0) := HA3.out 2 (by omega)
    have hG : 0 < w3.heap.size := World.block_lt_of_cell? _ _ g0
    refine axis_parts (l1 := 14) (c1 := 15) (l2 := 16) (c2 := 17) (n7 := 5) (n8 := 6) (pa := 1) (s := "cones.go:71") (BA := w.heap.size)
      (by unfold Apart6; decide) (by simp) rfl (by decide) (K3.out.2 _ (.tail _ (.head _))) g0 g1 g2 (fun Bp Bq wr hne h1 h2 hb h3 h4 => ?_)
    simp only [Act.put, List.setIfInBounds_toArray, List.set_cons_succ, List.set_cons_zero]
    rename_i hJ
    refine hJ _ _ ?_
    go_meet
    exact ⟨Bp, Bq, rfl, rfl, hne, Nat.lt_of_lt_of_le (lt_of_blk (K3.out.2 _ (.head _))) h2, kp_two K3.out hb h3 h4⟩
  case rest =>
    rename_i hK
    obtain ⟨Bp, Bq, rfl, rfl, hne, hle, hk⟩ := hcut
    refine hK _ _ ?_
    clear hK K3 KX KP
    have K4 := Lib.hid hk
    have HNE := Lib.hid (And.intro hne hle)
    clear hk hne hle
    obtain ⟨y0, y1, y2⟩ := cells3 (K4.out.2 _ (.head _))
    obtain ⟨p0, p1, p2⟩ := cells3 (K4.out.2 _ (.tail _ (.head _)))
    have pz : ∀ j, wc.frozen? ⟨Bq, j, none⟩ = false := fun j => frozen_of_row wc (Bq) j _ _ (K4.out.2 _ (.tail _ (.head _)))
    obtain ⟨x0, x1, x2⟩ := cells3 (K4.out.2 _ (.tail _ (.tail _ (.tail _ (.head _)))))
    have HA4 := Lib.hid (HA.out.on (Kp.below K4.out))
    have g6 : wc.cell? ⟨0, 6, none⟩ = some (.int .i64 0) := HA4.out 6 (by omega)
    have g7 : wc.cell? ⟨0, 7, none⟩ = some (.int .i64 0) := HA4.out 7 (by omega)
    have g8 : wc.cell? ⟨0, 8, none⟩ = some (.int .i64 1) := HA4.out 8 (by omega)
    have KV : Hid (∀ w1 : World, Calls Tryz.prog 73 #[.agg #[.int .i64 r1, .int .i64 r2, .int .i64 r3]] w1 fun e w' => e = .returned (.agg #[.int .i64 r1, .int .i64 r2, .int .i64 r3]) ∧ Below w1.heap.size w1 w') := Lib.hid fun w1 => vector_any r1 r2 r3 w1
    have KW : Hid (∀ w1 : World, Calls Tryz.prog 73 #[.agg #[.int .i64 s1, .int .i64 s2, .int .i64 s3]] w1 fun e w' => e = .returned (.agg #[.int .i64 s1, .int .i64 s2, .int .i64 s3]) ∧ Below w1.heap.size w1 w') := Lib.hid fun w1 => vector_any s1 s2 s3 w1
    go_upto_region 7 with (first
      | (go_at_call 78; (with_reducible refine (HKC.out _).mono ?_); rintro e w5 ⟨rfl, hb⟩; have K5 := Lib.hid (K4.out.call hb); clear hb y0 y1 y2 p0 p1 p2 pz x0 x1 x2 g6 g7 g8 HA4 K4)
      | (go_at_call 72; (with_reducible refine (HKR.out _).mono ?_); rintro e w6 ⟨rfl, hb⟩; have K6 := Lib.hid (K5.out.call hb); clear hb K5; obtain ⟨p0, p1, p2⟩ := cells3 (K6.out.2 _ (.tail _ (.head _))); have pz : ∀ j, w6.frozen? ⟨Bq, j, none⟩ = false := fun j => frozen_of_row w6 Bq j _ _ (K6.out.2 _ (.tail _ (.head _)))))
    refine wp_world (fun w' => Kp w w' [(Bp, (.cells #[.int .i64 0, .int .i64 y, .int .i64 z] 94 (0, 0))), (Bq, (.cells #[.int .i64 r1, .int .i64 r2, .int .i64 r3] 94 (0, 0))), (w.heap.size + 1, (.cells #[.int .i64 0, .int .i64 0, .int .i64 0, .int .i64 0, .int .i64 0, .int .i64 0] 46 (0, 0))), (w.heap.size, (.cells #[.int .i64 0, .int .i64 y, .int .i64 z] 23 (0, 0)))]) (by
      have h1 := HNE.out.1
      have h2 := HNE.out.2
      exact kp_put1 K6.out (by omega) h1 (fun p hp => by
        rcases List.mem_cons.1 hp with rfl | hp
        · show w.heap.size + 1 ≠ Bq
          omega
        · rcases List.mem_cons.1 hp with rfl | hp
          · show w.heap.size ≠ Bq
            omega
          · nomatch hp) _ _ _) fun w7 k7 => ?_
    have K7 := Lib.hid k7
    clear k7 K6 p0 p1 p2 pz
    obtain ⟨y0, y1, y2⟩ := cells3 (K7.out.2 _ (.head _))
    obtain ⟨p0, p1, p2⟩ := cells3 (K7.out.2 _ (.tail _ (.head _)))
    go_upto_region 8 with (first
      | (go_at_call 78; (with_reducible refine (HKD.out _).mono ?_); rintro e w8 ⟨rfl, hb⟩; have K8 := Lib.hid (K7.out.call hb); clear hb y0 y1 y2 p0 p1 p2 K7)
      | (go_at_call 72; (with_reducible refine (HKS.out _).mono ?_); rintro e w9 ⟨rfl, hb⟩; have K9 := Lib.hid (K8.out.call hb); clear hb K8))
    refine wp_world (fun w' => Kp w w' [(w9.heap.size, (.cells #[.int .i64 s1, .int .i64 s2, .int .i64 s3] 94 (0, 0))), (Bp, (.cells #[.int .i64 0, .int .i64 y, .int .i64 z] 94 (0, 0))), (Bq, (.cells #[.int .i64 r1, .int .i64 r2, .int .i64 r3] 94 (0, 0))), (w.heap.size + 1, (.cells #[.int .i64 0, .int .i64 0, .int .i64 0, .int .i64 0, .int .i64 0, .int .i64 0] 46 (0, 0))), (w.heap.size, (.cells #[.int .i64 0, .int .i64 y, .int .i64 z] 23 (0, 0)))]) (by first | exact K9.out.alloc _ | exact kp_set3 K9.out _ _ _) fun wa ka => ?_
    have Ka := Lib.hid ka
    obtain ⟨B7, hB7⟩ : ∃ B7, w9.heap.size = B7 := ⟨_, rfl⟩
    rw [hB7] at Ka ⊢
    clear ka K9 hB7
    apply wp_region_gives 5 (fun w' => Blw wa.heap.size wa w') [.agg #[.int .i64 r1, .int .i64 r2, .int .i64 r3], .agg #[.int .i64 r1, .int .i64 r2, .int .i64 r3], .agg #[.int .i64 s1, .int .i64 s2, .int .i64 s3], .agg #[.int .i64 s1, .int .i64 s2, .int .i64 s3], .agg #[.int .i64 r1, .int .i64 r2, .int .i64 r3, .int .i64 s1, .int .i64 s2, .int .i64 s3]] (by kernel_rfl) (by kernel_rfl) (by kernel_rfl) (show Below _ _ _ from (Below.refl _ _).drew)
    case haF =>
      simp [putJs, Act.put, List.range, List.range.loop]
      exact rfl
    case h =>
      have hBx := Ka.out.2 _ (.tail _ (.tail _ (.head _)))
      have hBy := Ka.out.2 _ (.head _)
      simp only [List.take_succ_cons, List.take_zero, GivesL]
      clear Ka
      refine ⟨?_, ?_, ?_, ?_, ?_, trivial⟩
      all_goals
        intro w1 hw1
        obtain ⟨x_0, x_1, x_2⟩ := cells3 (((show Below _ _ _ from hw1).block _ (lt_of_blk hBx)).trans hBx)
        obtain ⟨y_0, y_1, y_2⟩ := cells3 (((show Below _ _ _ from hw1).block _ (lt_of_blk hBy)).trans hBy)
        unfold Oper.wp
        simp only [execOp]
        go_simp <;> first
          | exact ⟨rfl, hw1⟩
          | ((with_reducible refine (KV.out _).mono ?_); rintro e w2 ⟨rfl, hb⟩; exact ⟨rfl, below_call hb hw1⟩)
          | ((with_reducible refine (KW.out _).mono ?_); rintro e w2 ⟨rfl, hb⟩; exact ⟨rfl, below_call hb hw1⟩)
    case ht =>
      intro wb hw5
      have Kb := Lib.hid (Ka.out.call (show Below _ _ _ from hw5))
      clear hw5 Ka
      simp only [List.drop_succ_cons, List.drop_zero]
      obtain ⟨o0, o1, o2, o3, o4, o5⟩ := cells6 (Kb.out.2 _ (.tail _ (.tail _ (.tail _ (.head _)))))
      have oz : ∀ j, wb.frozen? ⟨w.heap.size + 1, j, none⟩ = false := fun j => frozen_of_row wb (w.heap.size + 1) j _ _ (Kb.out.2 _ (.tail _ (.tail _ (.tail _ (.head _)))))
      have hbb := Lib.hid (Kp.below Kb.out)
      clear Kb
      go_wp2_with fail
      refine bodyPost_ret (v := .tuple #[.agg #[.int .i64 r1, .int .i64 r2, .int .i64 r3, .int .i64 s1, .int .i64 s2, .int .i64 s3], .int .i64 0]) (by simp [results, Tryz.results27, go_sem, o0, o1, o2, o3, o4, o5]) rfl ⟨rfl, ?_⟩
      exact ((((((hbb.out.setCell (show w.heap.size ≤ w.heap.size + 1 by omega) _).setCell (show w.heap.size ≤ w.heap.size + 1 by omega) _).setCell (show w.heap.size ≤ w.heap.size + 1 by omega) _).setCell (show w.heap.size ≤ w.heap.size + 1 by omega) _).setCell (show w.heap.size ≤ w.heap.size + 1 by omega) _).setCell (show w.heap.size ≤ w.heap.size + 1 by omega) _)

set_option maxRecDepth 100000 in
set_option maxHeartbeats 6400000 in
theorem frame_upright ( z r1 r2 r3 d1 d2 d3 s1 s2 s3 : Int) (he : rayErr 0 0 z = 0) (hxy : r1 = 1 ∧ r2 = 0 ∧ r3 = 0) (w : World) (hA : AxesAt w)
    (KD : ∀ w1 : World, Calls Tryz.prog 78 #[.agg #[.int .i64 0, .int .i64 0, .int .i64 z], .agg #[.int .i64 r1, .int .i64 r2, .int .i64 r3]] w1 fun e w' => e = .returned (.agg #[.int .i64 d1, .int .i64 d2, .int .i64 d3]) ∧ Below w1.heap.size w1 w')
    (KS : ∀ w1 : World, Calls Tryz.prog 72 #[.agg #[.int .i64 d1, .int .i64 d2, .int .i64 d3]] w1 fun e w' => e = .returned (.agg #[.int .i64 s1, .int .i64 s2, .int .i64 s3]) ∧ Below w1.heap.size w1 w') :
    Calls Tryz.prog 27 #[.agg #[.int .i64 0, .int .i64 0, .int .i64 z]] w fun e w' => e = .returned (.tuple #[.agg #[.int .i64 r1, .int .i64 r2, .int .i64 r3, .int .i64 s1, .int .i64 s2, .int .i64 s3], .int .i64 0]) ∧ Below w.heap.size w w' := by
  obtain ⟨rfl, rfl, rfl⟩ := hxy
  have KX : Hid (∀ w1 : World, Calls Tryz.prog 43 #[.agg #[.int .i64 0, .int .i64 0, .int .i64 z]] w1 fun e w' => e = .returned (.int .i64 0) ∧ Below w1.heap.size w1 w') := Lib.hid fun w1 => by
    have h := checkRay_all 0 0 z w1
    rwa [he] at h
  have KP : Hid (∀ w1 : World, Calls Tryz.prog 45 #[.agg #[.int .i64 0, .int .i64 0, .int .i64 z]] w1 fun e w' => e = .returned (.agg #[.int .i64 0, .int .i64 0, .int .i64 z]) ∧ Below w1.heap.size w1 w') := Lib.hid fun w1 => partsOf_any 0 0 z w1
  have HKD := Lib.hid KD
  have HKS := Lib.hid KS
  clear KD KS
  clear he
  obtain ⟨W0, hW0⟩ : ∃ W0, ((w.alloc (.cells #[.int .i64 0, .int .i64 0, .int .i64 z] 23)).alloc (.cells #[.int .i64 0, .int .i64 0, .int .i64 0, .int .i64 0, .int .i64 0, .int .i64 0] 46)) = W0 := ⟨_, rfl⟩
  have K0 : Hid (Kp w W0 [(w.heap.size + 1, (.cells #[.int .i64 0, .int .i64 0, .int .i64 0, .int .i64 0, .int .i64 0, .int .i64 0] 46 (0, 0))), (w.heap.size, (.cells #[.int .i64 0, .int .i64 0, .int .i64 z] 23 (0, 0)))]) := Lib.hid (by
    rw [← hW0]
    have k := (((Kp.none w).alloc (.cells #[.int .i64 0, .int .i64 0, .int .i64 z] 23)).alloc (.cells #[.int .i64 0, .int .i64 0, .int .i64 0, .int .i64 0, .int .i64 0, .int .i64 0] 46))
    simpa using k)
  have HA := Lib.hid hA
  clear hA
  obtain ⟨x0, x1, x2⟩ := cells3 (K0.out.2 _ (.tail _ (.head _)))
  go_enter Tryz.func27, Tryz.ntmps27
  go_upto_region 1 with fail
  try rw [hW0]
  clear hW0
  go_upto_region 4 with (first
    | (go_at_call 43; (with_reducible refine (KX.out _).mono ?_); rintro e w3 ⟨rfl, hb⟩; have K3 := Lib.hid (K0.out.call hb); clear hb x0 x1 x2 K0))
  go_cut [5, 6] (fun s5 s6 wr => ∃ Bp Bq : Nat, s5 = .pointer (some ⟨Bp, 0, none⟩) ∧ s6 = .pointer (some ⟨Bq, 0, none⟩) ∧ Bp ≠ Bq ∧ w.heap.size + 1 < Bq ∧ Kp w wr [(Bp, (.cells #[.int .i64 0, .int .i64 0, .int .i64 z] 94 (0, 0))), (Bq, (.cells #[.int .i64 1, .int .i64 0, .int .i64 0] 94 (0, 0))), (w.heap.size + 1, (.cells #[.int .i64 0, .int .i64 0, .int .i64 0, .int .i64 0, .int .i64 0, .int .i64 0] 46 (0, 0))), (w.heap.size, (.cells #[.int .i64 0, .int .i64 0, .int .i64 z] 23 (0, 0)))])
  case first =>
    have hS0 : w.heap.size < w3.heap.size := lt_of_blk (K3.out.2 _ (.tail _ (.head _)))
    have hz3 : w.heap.size ≤ w3.heap.size := Nat.le_of_lt hS0
    obtain ⟨x0, x1, x2⟩ := cells3 (K3.out.2 _ (.tail _ (.head _)))
    have HA3 := Lib.hid (HA.out.on (Kp.below K3.out))
    have g0 : w3.cell? ⟨0, 0, none⟩ = some (.int .i64 1) := HA3.out 0 (by omega)
    have g1 : w3.cell? ⟨0, 1, none⟩ = some (.int .i64 0) := HA3.out 1 (by omega)
    have g2 : w3.cell? ⟨0, 2, none⟩ = some (.int .i64 0) := HA3.out 2 (by omega)
    have hG : 0 < w3.heap.size := World.block_lt_of_cell? _ _ g0
    refine axis_parts (l1 := 14) (c1 := 15) (l2 := 16) (c2 := 17) (n7 := 5) (n8 := 6) (pa := 1) (s := "cones.go:71") (BA := w.heap.size)
      (by unfold Apart6; decide) (by simp) rfl (by decide) (K3.out.2 _ (.tail _ (.head _))) g0 g1 g2 (fun Bp Bq wr hne h1 h2 hb h3 h4 => ?_)
    simp only [Act.put, List.setIfInBounds_toArray, List.set_cons_succ, List.set_cons_zero]
    rename_i hJ
    refine hJ _ _ ?_
    go_meet
    exact ⟨Bp, Bq, rfl, rfl, hne, Nat.lt_of_lt_of_le (lt_of_blk (K3.out.2 _ (.head _))) h2, kp_two K3.out hb h3 h4⟩
  case rest =>
    rename_i hK
    obtain ⟨Bp, Bq, rfl, rfl, hne, hle, hk⟩ := hcut
    refine hK _ _ ?_
    clear hK K3 KX KP
    have K4 := Lib.hid hk
    have HNE := Lib.hid (And.intro hne hle)
    clear hk hne hle
    obtain ⟨y0, y1, y2⟩ := cells3 (K4.out.2 _ (.head _))
    obtain ⟨p0, p1, p2⟩ := cells3 (K4.out.2 _ (.tail _ (.head _)))
    have pz : ∀ j, wc.frozen? ⟨Bq, j, none⟩ = false := fun j => frozen_of_row wc (Bq) j _ _ (K4.out.2 _ (.tail _ (.head _)))
    obtain ⟨x0, x1, x2⟩ := cells3 (K4.out.2 _ (.tail _ (.tail _ (.tail _ (.head _)))))
    have HA4 := Lib.hid (HA.out.on (Kp.below K4.out))
    have g6 : wc.cell? ⟨0, 6, none⟩ = some (.int .i64 0) := HA4.out 6 (by omega)
    have g7 : wc.cell? ⟨0, 7, none⟩ = some (.int .i64 0) := HA4.out 7 (by omega)
    have g8 : wc.cell? ⟨0, 8, none⟩ = some (.int .i64 1) := HA4.out 8 (by omega)
    have KV : Hid (∀ w1 : World, Calls Tryz.prog 73 #[.agg #[.int .i64 1, .int .i64 0, .int .i64 0]] w1 fun e w' => e = .returned (.agg #[.int .i64 1, .int .i64 0, .int .i64 0]) ∧ Below w1.heap.size w1 w') := Lib.hid fun w1 => vector_any 1 0 0 w1
    have KW : Hid (∀ w1 : World, Calls Tryz.prog 73 #[.agg #[.int .i64 s1, .int .i64 s2, .int .i64 s3]] w1 fun e w' => e = .returned (.agg #[.int .i64 s1, .int .i64 s2, .int .i64 s3]) ∧ Below w1.heap.size w1 w') := Lib.hid fun w1 => vector_any s1 s2 s3 w1
    go_upto_region 7 with fail
    have K7 := K4
    clear y0 y1 y2 p0 p1 p2 pz x0 x1 x2 g6 g7 g8 HA4 K4
    obtain ⟨y0, y1, y2⟩ := cells3 (K7.out.2 _ (.head _))
    obtain ⟨p0, p1, p2⟩ := cells3 (K7.out.2 _ (.tail _ (.head _)))
    go_upto_region 8 with (first
      | (go_at_call 78; (with_reducible refine (HKD.out _).mono ?_); rintro e w8 ⟨rfl, hb⟩; have K8 := Lib.hid (K7.out.call hb); clear hb y0 y1 y2 p0 p1 p2 K7)
      | (go_at_call 72; (with_reducible refine (HKS.out _).mono ?_); rintro e w9 ⟨rfl, hb⟩; have K9 := Lib.hid (K8.out.call hb); clear hb K8))
    refine wp_world (fun w' => Kp w w' [(w9.heap.size, (.cells #[.int .i64 s1, .int .i64 s2, .int .i64 s3] 94 (0, 0))), (Bp, (.cells #[.int .i64 0, .int .i64 0, .int .i64 z] 94 (0, 0))), (Bq, (.cells #[.int .i64 1, .int .i64 0, .int .i64 0] 94 (0, 0))), (w.heap.size + 1, (.cells #[.int .i64 0, .int .i64 0, .int .i64 0, .int .i64 0, .int .i64 0, .int .i64 0] 46 (0, 0))), (w.heap.size, (.cells #[.int .i64 0, .int .i64 0, .int .i64 z] 23 (0, 0)))]) (by first | exact K9.out.alloc _ | exact kp_set3 K9.out _ _ _) fun wa ka => ?_
    have Ka := Lib.hid ka
    obtain ⟨B7, hB7⟩ : ∃ B7, w9.heap.size = B7 := ⟨_, rfl⟩
    rw [hB7] at Ka ⊢
    clear ka K9 hB7
    apply wp_region_gives 5 (fun w' => Blw wa.heap.size wa w') [.agg #[.int .i64 1, .int .i64 0, .int .i64 0], .agg #[.int .i64 1, .int .i64 0, .int .i64 0], .agg #[.int .i64 s1, .int .i64 s2, .int .i64 s3], .agg #[.int .i64 s1, .int .i64 s2, .int .i64 s3], .agg #[.int .i64 1, .int .i64 0, .int .i64 0, .int .i64 s1, .int .i64 s2, .int .i64 s3]] (by kernel_rfl) (by kernel_rfl) (by kernel_rfl) (show Below _ _ _ from (Below.refl _ _).drew)
    case haF =>
      simp [putJs, Act.put, List.range, List.range.loop]
      exact rfl
    case h =>
      have hBx := Ka.out.2 _ (.tail _ (.tail _ (.head _)))
      have hBy := Ka.out.2 _ (.head _)
      simp only [List.take_succ_cons, List.take_zero, GivesL]
      clear Ka
      refine ⟨?_, ?_, ?_, ?_, ?_, trivial⟩
      all_goals
        intro w1 hw1
        obtain ⟨x_0, x_1, x_2⟩ := cells3 (((show Below _ _ _ from hw1).block _ (lt_of_blk hBx)).trans hBx)
        obtain ⟨y_0, y_1, y_2⟩ := cells3 (((show Below _ _ _ from hw1).block _ (lt_of_blk hBy)).trans hBy)
        unfold Oper.wp
        simp only [execOp]
        go_simp <;> first
          | exact ⟨rfl, hw1⟩
          | ((with_reducible refine (KV.out _).mono ?_); rintro e w2 ⟨rfl, hb⟩; exact ⟨rfl, below_call hb hw1⟩)
          | ((with_reducible refine (KW.out _).mono ?_); rintro e w2 ⟨rfl, hb⟩; exact ⟨rfl, below_call hb hw1⟩)
    case ht =>
      intro wb hw5
      have Kb := Lib.hid (Ka.out.call (show Below _ _ _ from hw5))
      clear hw5 Ka
      simp only [List.drop_succ_cons, List.drop_zero]
      obtain ⟨o0, o1, o2, o3, o4, o5⟩ := cells6 (Kb.out.2 _ (.tail _ (.tail _ (.tail _ (.head _)))))
      have oz : ∀ j, wb.frozen? ⟨w.heap.size + 1, j, none⟩ = false := fun j => frozen_of_row wb (w.heap.size + 1) j _ _ (Kb.out.2 _ (.tail _ (.tail _ (.tail _ (.head _)))))
      have hbb := Lib.hid (Kp.below Kb.out)
      clear Kb
      go_wp2_with fail
      refine bodyPost_ret (v := .tuple #[.agg #[.int .i64 1, .int .i64 0, .int .i64 0, .int .i64 s1, .int .i64 s2, .int .i64 s3], .int .i64 0]) (by simp [results, Tryz.results27, go_sem, o0, o1, o2, o3, o4, o5]) rfl ⟨rfl, ?_⟩
      exact ((((((hbb.out.setCell (show w.heap.size ≤ w.heap.size + 1 by omega) _).setCell (show w.heap.size ≤ w.heap.size + 1 by omega) _).setCell (show w.heap.size ≤ w.heap.size + 1 by omega) _).setCell (show w.heap.size ≤ w.heap.size + 1 by omega) _).setCell (show w.heap.size ≤ w.heap.size + 1 by omega) _).setCell (show w.heap.size ≤ w.heap.size + 1 by omega) _)
end Go.Proofs.YtggffhmdgceljaaGreatDoor
