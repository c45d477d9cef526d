/-
  Contract of Unbent, for valid air and a ray.
-/
import Derived.Test.YtggffhmdgceljaaGreatDoorRows
import Derived.WalkKit
import Derived.WalkSpells
import Derived.WalkLawsBesides
import Derived.Lib.Hide
import Derived.BigQuiet
import Derived.Deep.QuietTactic
import Derived.Handy
import Derived.Deep.RegionHeld3
import Derived.Deep.RegionWith
import Derived.StillTailTactics
import Derived.RangeFuncNested
import Derived.RangeFuncBound
import Derived.RangeFuncCalls
import Derived.RangeFuncLeaves
import Derived.RangeFuncBox
import Derived.Shelf.Abstract
import Derived.Shelf.RegionOpen
import Derived.OwnWalkIn
import Derived.TacticsInMore
import Derived.LoopNIn
import Derived.LoopIn
import Derived.Maps.AppendAt
import Derived.Test.YtggffhmdgceljaaGreatDoorProg
import Derived.Laws.FloatArith
import Derived.Laws.BitsAllLaws
import Derived.Deep.DeepCutAuto
import Derived.Stop.BytesEq
import Derived.Deep.MidRow
import Derived.Laws.CopyRow
import Derived.WalkMore
import Derived.Deep.DrawnRows
import Derived.Deep.CutBlock
import Derived.Orders
import Derived.LoopTactic
import Derived.Laws.StructEq
import Derived.Deep.RegionLaw
import Derived.RegionTactic
import Derived.StillTail
import Derived.Laws.RangeString
import Derived.Laws.RangeAny
import Derived.Test.YtggffhmdgceljaaGreatDoorOwaWn
import Derived.Test.YtggffhmdgceljaaGreatDoorOwaWa
import Derived.Test.YtggffhmdgceljaaGreatDoorOwaWo
import Derived.Test.YtggffhmdgceljaaGreatDoorOwaXe
import Derived.Test.YtggffhmdgceljaaGreatDoorOwaIb
import Derived.Test.YtggffhmdgceljaaGreatDoorOwaIl
import Derived.Test.YtggffhmdgceljaaGreatDoorOwaNd
import Derived.Test.YtggffhmdgceljaaGreatDoorOwaId
import Derived.Test.YtggffhmdgceljaaGreatDoorOwaNe
import Derived.Test.YtggffhmdgceljaaGreatDoorOwaNc
import Derived.Test.YtggffhmdgceljaaGreatDoorOwaNt
import Derived.Test.YtggffhmdgceljaaGreatDoorOwaNu
import Derived.Test.YtggffhmdgceljaaGreatDoorOwaNv
import Derived.Test.YtggffhmdgceljaaGreatDoorOwaNx
namespace Go.Proofs.YtggffhmdgceljaaGreatDoor
open Go.RowKit
set_option linter.unusedVariables false
set_option linter.unusedSimpArgs false

set_option maxRecDepth 20000 in
theorem eq_step (d : Nat) (a b c e : Int) (w : World) : (Op.equalIn (d + 2) 146 (.agg #[.int .i64 a, .int .i64 b]) (.agg #[.int .i64 c, .int .i64 e])).run Tryz.prog w = .ok (decide (a = c ∧ b = e)) w := by
  by_cases h1 : a = c
  · have q1 : (a == c) = true := by simp [h1]
    by_cases h2 : b = e
    · have q2 : (b == e) = true := by simp [h2]
      rw [decide_eq_true ⟨h1, h2⟩]
      go_simp
    · have q2 : (b == e) = false := by simp [h2]
      rw [decide_eq_false (fun h => h2 h.2)]
      go_simp
  · have q1 : (a == c) = false := by simp [h1]
    rw [decide_eq_false (fun h => h1 h.1)]
    go_simp
theorem eq_placed (a b c d e f : Int) (w : World) : (Op.equalIn 10000 148 (.agg #[.int .i64 a, .int .i64 b, .int .i64 c]) (.agg #[.int .i64 d, .int .i64 e, .int .i64 f])).run Tryz.prog w = .ok (decide (a = d ∧ b = e ∧ c = f)) w := by
  have hs := eq_step 9997 a b d e
  by_cases h1 : a = d
  · have q1 : (a == d) = true := by simp [h1]
    by_cases h2 : b = e
    · have q2 : (b == e) = true := by simp [h2]
      by_cases h3 : c = f
      · have q3 : (c == f) = true := by simp [h3]
        rw [decide_eq_true ⟨h1, h2⟩] at hs
        rw [decide_eq_true ⟨h1, h2, h3⟩]
        go_simp
      · have q3 : (c == f) = false := by simp [h3]
        rw [decide_eq_true ⟨h1, h2⟩] at hs
        rw [decide_eq_false (fun h => h3 h.2.2)]
        go_simp
    · have q2 : (b == e) = false := by simp [h2]
      rw [decide_eq_false (fun h => h2 h.2)] at hs
      rw [decide_eq_false (fun h => h2 h.2.1)]
      go_simp
  · have q1 : (a == d) = false := by simp [h1]
    rw [decide_eq_false (fun h => h1 h.1)] at hs
    rw [decide_eq_false (fun h => h1 h.1)]
    go_simp
theorem owns_put3 {w : World} {B T sz n Bd : Nat} {v : Value} {xs : List Value} (h : w.ownsRow B T sz v n xs) (hne : ∀ g, v.ownBlock = some g → g ≠ Bd) (a b c : Value) : (put3 w Bd a b c).ownsRow B T sz v n xs := by
  refine ⟨h.1, ?_⟩
  rcases h.2 with h0 | ⟨g, cap, cur, h1, h2, h3, h4⟩
  · exact .inl h0
  · exact .inr ⟨g, cap, cur, h1, h2, (put3_other w (hne g (by rw [h1]; rfl)) a b c).trans h3, h4⟩
theorem pl_index (b q n c j : Nat) (hj : j < n) (w : World) :
    (Instr.indexAt 150 (.slice (some ⟨b, q, none⟩) n c) (.int .i64 (j : Int))).run Tryz.prog w = .ok (.pointer (some ⟨b, q + j * 3, none⟩)) w := by
  rw [run_indexAt_slice (h := by kernel_rfl), if_pos ⟨by omega, by omega⟩]
  have h : (sizeOf (Tryz.prog.elem 150)).run Tryz.prog w = .ok 3 w := by kernel_rfl
  rw [h]
  simp only [Result.andThen_ok, Int.toNat_natCast, Addr.add_mid]
def PlV.same (s t : PlV) : Prop := s.a = t.a ∧ s.l = t.l ∧ s.i = t.i
instance (s t : PlV) : Decidable (s.same t) := by unfold PlV.same; exact inferInstance
/-- What is found among the first k steps. -/
def unTo (P S : List PlV) (D : List P3) : Nat → List P3
  | 0 => []
  | k + 1 => if (S[k]?.getD plZ).same (P[k]?.getD plZ) then unTo P S D k ++ [D[k]?.getD p3Z] else unTo P S D k
theorem unTo_len (P S : List PlV) (D : List P3) : ∀ k, (unTo P S D k).length ≤ k
  | 0 => Nat.le_refl _
  | k + 1 => by
    have := unTo_len P S D k
    unfold unTo
    split <;> simp <;> omega
def P3.agg (s : P3) : Value := .agg #[.int .i64 s.x, .int .i64 s.y, .int .i64 s.z]

set_option maxRecDepth 100000 in
set_option maxHeartbeats 6400000 in
theorem unbent_walk (P S : List PlV) (D R : List P3) (b q n c m : Nat) (x y z : Int) (he : rayErr x y z = 0) (hP : P.length = m) (hR : R.length = (unTo P S D m).length) (hm : m ≤ 20) (w : World)
    (KA : ∀ w1 : World, Blw w.heap.size w w1 → Calls Tryz.prog 88 #[.slice (some ⟨b, q, none⟩) n c] w1 fun e w' => e = .returned (.int .i64 0) ∧ Below w1.heap.size w1 w')
    (KST : ∀ w1 : World, Blw w.heap.size w w1 → Calls Tryz.prog 91 #[.slice (some ⟨b, q, none⟩) n c] w1 fun e w' => ∃ g cap, e = .returned (.slice (some ⟨g, 0, none⟩) m cap) ∧ (PlsAt w' g 0 P ∧ g < w'.heap.size ∧ m ≤ cap) ∧ Below w1.heap.size w1 w')
    (KSO : ∀ (k : Nat) (w1 : World) (g cap : Nat), k < m → PlsAt w1 g 0 P ∧ g < w1.heap.size ∧ m ≤ cap → Calls Tryz.prog 90 #[.slice (some ⟨g, 0, none⟩) m cap, .agg #[.int .i64 (D[k]?.getD p3Z).x, .int .i64 (D[k]?.getD p3Z).y, .int .i64 (D[k]?.getD p3Z).z]] w1 fun e w' => e = .returned (.agg #[.int .i64 (S[k]?.getD plZ).a, .int .i64 (S[k]?.getD plZ).l, .int .i64 (S[k]?.getD plZ).i]) ∧ Below w1.heap.size w1 w')
    (KL : ∀ (k : Nat) (w1 : World), k < m → Blw w.heap.size w w1 → Calls Tryz.prog 89 #[.agg #[.int .i64 x, .int .i64 y, .int .i64 z], .int .i64 (-(P[k]?.getD plZ).l)] w1 fun e w' => e = .returned (.agg #[.int .i64 (D[k]?.getD p3Z).x, .int .i64 (D[k]?.getD p3Z).y, .int .i64 (D[k]?.getD p3Z).z]) ∧ Below w1.heap.size w1 w')
    (KW : ∀ k, k < m → IntKind.i64.wrap (-(P[k]?.getD plZ).l) = -(P[k]?.getD plZ).l)
    (KR : ∀ j, j < (unTo P S D m).length → ∀ w1 : World, Calls Tryz.prog 72 #[.agg #[.int .i64 ((unTo P S D m)[j]?.getD p3Z).x, .int .i64 ((unTo P S D m)[j]?.getD p3Z).y, .int .i64 ((unTo P S D m)[j]?.getD p3Z).z]] w1 fun e w' => e = .returned (.agg #[.int .i64 (R[j]?.getD p3Z).x, .int .i64 (R[j]?.getD p3Z).y, .int .i64 (R[j]?.getD p3Z).z]) ∧ Below w1.heap.size w1 w') :
    Calls Tryz.prog 60 #[.slice (some ⟨b, q, none⟩) n c, .agg #[.int .i64 x, .int .i64 y, .int .i64 z]] w fun e w' => ∃ v, e = .returned (.tuple #[v, .int .i64 0]) ∧ w'.ownsRow w.heap.size 23 3 v R.length (R.flatMap P3.val) ∧ Below w.heap.size w w' := by
  have HKA := Lib.hid KA
  have HKST := Lib.hid KST
  have HKSO := Lib.hid KSO
  have HKL := Lib.hid KL
  have HKW := Lib.hid KW
  have HKR := Lib.hid KR
  clear KA KST KSO KL KW KR
  have KX : Hid (∀ w1 : World, Calls Tryz.prog 43 #[.agg #[.int .i64 x, .int .i64 y, .int .i64 z]] w1 fun e w' => e = .returned (.int .i64 0) ∧ Below w1.heap.size w1 w') := Lib.hid fun w1 => by
    have h := checkRay_all x y z w1
    rwa [he] at h
  have KP : Hid (∀ w1 : World, Calls Tryz.prog 45 #[.agg #[.int .i64 x, .int .i64 y, .int .i64 z]] w1 fun e w' => e = .returned (.agg #[.int .i64 x, .int .i64 y, .int .i64 z]) ∧ Below w1.heap.size w1 w') := Lib.hid fun w1 => partsOf_any x y z w1
  have KF : Hid (∀ (w1 : World) (b : Nat), (∀ j, j < 2 → w1.cell? ⟨b, 0 + j, none⟩ = some (.int .i64 (([0, 0] : List Int)[j]?.getD 0))) → Calls Tryz.prog 42 #[.slice (some ⟨b, 0, none⟩) 2 2] w1 fun e w' => e = .returned (.int .i64 0) ∧ w1 = w') := Lib.hid fun w1 b h => first_any b 0 2 2 [0, 0] rfl (by omega) w1 h
  obtain ⟨W0, hW0⟩ : ∃ W0, (w.alloc (.cells #[.int .i64 x, .int .i64 y, .int .i64 z] 23)) = W0 := ⟨_, rfl⟩
  have K0 : Hid (Kp w W0 [(w.heap.size, (.cells #[.int .i64 x, .int .i64 y, .int .i64 z] 23 (0, 0)))]) := Lib.hid (by
    rw [← hW0]
    have k := ((Kp.none w).alloc (.cells #[.int .i64 x, .int .i64 y, .int .i64 z] 23))
    simpa using k)
  have KA : Hid (∀ w1 : World, Blw W0.heap.size W0 w1 → Calls Tryz.prog 88 #[.slice (some ⟨b, q, none⟩) n c] w1 fun e w' => e = .returned (.int .i64 0) ∧ Below w1.heap.size w1 w') := Lib.hid fun w1 hb => HKA.out w1 ((Kp.below K0.out).trans ((show Below _ _ _ from hb).mono (Kp.below K0.out).size))
  obtain ⟨i0, hi, hz0, hz1, hz2⟩ := info_parts Tryz.infoParts3
  have s3 : (Tryz.prog.info? 148).map (·.size) = some 3 := by kernel_rfl
  have i5 : (m : Int) ≤ 20 := by omega
  have HPL := Lib.hid hP
  have HRL := Lib.hid hR
  clear hP hR
  go_enter Tryz.func60, Tryz.ntmps60
  go_upto_region 1 with fail
  try rw [hW0]
  clear hW0
  apply wp_region_gives 4 (fun w' => Blw W0.heap.size W0 w') [.slice (some ⟨b, q, none⟩) n c, .int .i64 0, .agg #[.int .i64 x, .int .i64 y, .int .i64 z], .int .i64 0] (by kernel_rfl) (by kernel_rfl) (by kernel_rfl) (show Below _ _ _ from (Below.refl _ _).drew)
  case haF =>
    simp [putJs, Act.put, List.range, List.range.loop]
    exact rfl
  case h =>
    have hBx := K0.out.2 _ (.head _)
    simp only [List.take_succ_cons, List.take_zero, GivesL]
    clear K0
    refine ⟨?_, ?_, ?_, ?_, trivial⟩
    all_goals
      intro w1 hw1
      obtain ⟨x_0, x_1, x_2⟩ := cells3 (((show Below _ _ _ from hw1).block _ (lt_of_blk hBx)).trans hBx)
      unfold Oper.wp
      simp only [execOp]
      go_simp <;> first
        | exact ⟨rfl, hw1⟩
        | ((with_reducible refine (KX.out _).mono ?_); rintro e w2 ⟨rfl, hb⟩; exact ⟨rfl, below_call hb hw1⟩)
        | ((with_reducible refine (KA.out _ hw1).mono ?_); rintro e w2 ⟨rfl, hb⟩; exact ⟨rfl, below_call hb hw1⟩)
  case ht =>
    intro w2 hw5
    have K2 := Lib.hid (K0.out.call (show Below _ _ _ from hw5))
    clear hw5 K0
    simp only [List.drop_succ_cons, List.drop_zero]
    clear KX HKA KA
    go_upto_region 4 with (first
      | (go_at_call 42; (with_reducible refine (KF.out _ _ ?_).mono ?_); rotate_left 1; rintro e w6 ⟨rfl, rfl⟩; rotate_left 1; (intro j hj; match j, hj with | 0, _ => simp [go_sem] | 1, _ => simp [go_sem])))
    refine wp_world (fun w' => Kp w w' [(w.heap.size, (.cells #[.int .i64 x, .int .i64 y, .int .i64 z] 23 (0, 0)))]) (by exact K2.out.call ((Below.refl _ _).alloc (Nat.le_refl _) _)) fun w3 k3 => ?_
    have K3 := Lib.hid k3
    clear k3 K2 KF
    have hST := Lib.hid (HKST.out w3 (show Below _ _ _ from Kp.below K3.out))
    clear HKST
    go_wp2_with (first
      | (go_at_call 91; (with_reducible refine hST.out.mono ?_); rintro e W6 ⟨g, cap, rfl, hP, hb⟩; have K6 := Lib.hid (K3.out.call hb); have HP := Lib.hid hP; clear hP hb K3 hST))
    have hcap := HP.out.2.2
    have HB6 := Lib.hid (show Below _ _ _ from Kp.below K6.out)
    go_loopw [7, 25] (fun out i wr => ∃ k : Nat, k ≤ m ∧ i = .int .i64 k ∧ wr.ownsRow W6.heap.size 94 3 out (unTo P S D k).length ((unTo P S D k).flatMap P3.val) ∧ Hid (Below W6.heap.size W6 wr)) (fun _ i _ => m - (intOf i).toNat)
    case atStart => exact ⟨0, Nat.zero_le _, rfl, World.ownsRow_nil _ _ _ _, Lib.hid (Below.refl _ _)⟩
    case round =>
      obtain ⟨k, hk, rfl, hown, hnx⟩ := hrel
      by_cases hlt : k < m
      · have hr : wr.rangeAt g (0 + k * 3) (P[k]?.getD plZ).val := (HP.out.1.kept hnx.out HP.out.2.1) k (by have := HPL.out; omega)
        have hD := HKL.out k
        have hSO := HKSO.out k
        have hwl := HKW.out k hlt
        have hun : unTo P S D (k + 1) = if (S[k]?.getD plZ).same (P[k]?.getD plZ) then unTo P S D k ++ [D[k]?.getD p3Z] else unTo P S D k := rfl
        have hlen := unTo_len P S D k
        obtain ⟨t, ht⟩ : ∃ t, P[k]?.getD plZ = t := ⟨_, rfl⟩
        obtain ⟨s, hs⟩ : ∃ s, S[k]?.getD plZ = s := ⟨_, rfl⟩
        obtain ⟨d, hd⟩ : ∃ d, D[k]?.getD p3Z = d := ⟨_, rfl⟩
        rw [ht, hs, hd] at hun
        rw [ht] at hr hwl
        rw [ht, hd] at hD
        rw [hs, hd] at hSO
        have HUN := Lib.hid hun
        have hv : t.val = [.int .i64 t.a, .int .i64 t.l, .int .i64 t.i] := rfl
        have HRG := Lib.hid hr
        have HD := Lib.hid hD
        have HSO := Lib.hid hSO
        have HOWN := Lib.hid hown
        have hx : ∀ w1, (Instr.indexAt 150 (.slice (some ⟨g, 0, none⟩) m cap) (.int .i64 (k : Int))).run Tryz.prog w1 = .ok (.pointer (some ⟨g, 0 + k * 3, none⟩)) w1 := fun w1 => pl_index g 0 m cap k hlt w1
        obtain ⟨og, hog⟩ : ∃ og, 0 + k * 3 = og := ⟨_, rfl⟩
        simp only [hog] at hx
        rw [hog] at HRG
        clear hr hD hSO hun ht hs hd hog hown
        go_upto_region 9 with (first
          | (refine wpList_load_mid rfl 148 _ rfl g og rfl t.val _ HRG.out Tryz.underlying148 rfl (by rw [s3]; rfl) ?_))
        refine wp_world (fun w' => Hid (Kp W6 w' [(wr.heap.size, .cells #[.int .i64 t.a, .int .i64 t.l, .int .i64 t.i] 148 (0, 0))]) ∧ Hid (w'.ownsRow W6.heap.size 94 3 u7 (unTo P S D k).length ((unTo P S D k).flatMap P3.val)))
          (by exact ⟨Lib.hid ((show Kp W6 wr [] from ⟨hnx.out, fun p h => nomatch h⟩).alloc (.cells #[.int .i64 t.a, .int .i64 t.l, .int .i64 t.i] 148)), Lib.hid (HOWN.out.alloc _)⟩) fun w4 hw4 => ?_
        obtain ⟨K4, O4⟩ := hw4
        obtain ⟨B10, hB10⟩ : ∃ B10, wr.heap.size = B10 := ⟨_, rfl⟩
        rw [hB10] at K4 ⊢
        clear hB10 HOWN HRG
        have KLc : Hid (∀ w1 : World, Blw w4.heap.size w4 w1 → Calls Tryz.prog 89 #[.agg #[.int .i64 x, .int .i64 y, .int .i64 z], .int .i64 (-t.l)] w1 fun e w' => e = .returned (.agg #[.int .i64 d.x, .int .i64 d.y, .int .i64 d.z]) ∧ Below w1.heap.size w1 w') := Lib.hid fun w1 hb => HD.out w1 hlt (show Below _ _ _ from HB6.out.trans (((Kp.below K4.out).trans ((show Below _ _ _ from hb).mono (Kp.below K4.out).size)).mono HB6.out.size))
        have HBX : Hid (∀ w1 : World, Blw w4.heap.size w4 w1 → w1.cell? ⟨w.heap.size, 0, none⟩ = some (.int .i64 x) ∧ w1.cell? ⟨w.heap.size, 1, none⟩ = some (.int .i64 y) ∧ w1.cell? ⟨w.heap.size, 2, none⟩ = some (.int .i64 z)) := Lib.hid fun w1 hb => cells3 ((K6.out.call ((Kp.below K4.out).trans ((show Below _ _ _ from hb).mono (Kp.below K4.out).size))).2 _ (.head _))
        apply wp_region_alloc 8 7 #[.int .i64 0, .int .i64 0, .int .i64 0] 94 [.agg #[.int .i64 x, .int .i64 y, .int .i64 z], .agg #[.int .i64 x, .int .i64 y, .int .i64 z], .pointer (some ⟨B10, 0, none⟩), .pointer (some ⟨B10, 1, none⟩), .int .i64 t.l, .int .i64 (-t.l), .agg #[.int .i64 d.x, .int .i64 d.y, .int .i64 d.z], undef] _ (by kernel_rfl) (by kernel_rfl) (by decide) (by kernel_rfl) rfl
        case hz =>
          intro b w1
          simp only [execOp]
          go_simp
        case haF =>
          intro v
          simp [putJs, upd1, Act.put, List.range, List.range.loop]
          exact rfl
        case h =>
          intro v Tt hT
          have hBt := K4.out.2 _ (.head _)
          simp only [List.take_succ_cons, List.take_zero, GivesK, GivesL]
          clear K4
          refine ⟨?_, ?_, ?_, ?_, ?_, ?_, ?_, trivial⟩
          all_goals
            intro w1 hw
            obtain ⟨hw1, ht1⟩ := hw
            obtain ⟨t_0, t_1, t_2⟩ := cells3 (((show Below _ _ _ from hw1).block _ (lt_of_blk hBt)).trans hBt)
            obtain ⟨b0, b1, b2⟩ := HBX.out w1 hw1
            unfold Oper.wp
            simp only [execOp]
            go_simp <;> first
              | exact ⟨rfl, hw1, ht1⟩
              | exact ht1
              | exact ⟨hw1, ht1⟩
              | ((with_reducible refine (KP.out _).mono ?_); rintro e w2 ⟨rfl, hb⟩; exact ⟨rfl, below_call hb hw1, hT _ _ ht1 hb⟩)
              | ((with_reducible refine (KLc.out _ hw1).mono ?_); rintro e w2 ⟨rfl, hb⟩; exact ⟨rfl, below_call hb hw1, hT _ _ ht1 hb⟩)
        case ht =>
          intro Bd w5 hBd hw5 hm
          simp only [List.drop_succ_cons, List.drop_zero]
          obtain ⟨m0, m1, m2⟩ := cells3 hm
          have mz : ∀ j, w5.frozen? ⟨Bd, j, none⟩ = false := fun j => frozen_of_row w5 Bd j _ _ hm
          go_upto_region 10 with fail
          refine wp_world (fun w' => Hid (Kp W6 w' [(Bd, (.cells #[.int .i64 d.x, .int .i64 d.y, .int .i64 d.z] 94 (0, 0))), (B10, (.cells #[.int .i64 t.a, .int .i64 t.l, .int .i64 t.i] 148 (0, 0)))]) ∧ Hid (w'.ownsRow W6.heap.size 94 3 u7 (unTo P S D k).length ((unTo P S D k).flatMap P3.val))) (by
            exact ⟨Lib.hid (kp_made K4.out hw5 hBd hm _ _ _), Lib.hid (owns_put3 (owns_kept O4.out (show Below _ _ _ from hw5) (Nat.le_refl _)) (fun g' e => by have := (O4.out.lt g' e).2; omega) _ _ _)⟩) fun w6 hw6 => ?_
          obtain ⟨K7, O7⟩ := hw6
          clear K4 O4 hw5 hBd hm m0 m1 m2 mz KLc HBX
          have KSc : Hid (∀ w1 : World, Blw w6.heap.size w6 w1 → Calls Tryz.prog 90 #[.slice (some ⟨g, 0, none⟩) m cap, .agg #[.int .i64 d.x, .int .i64 d.y, .int .i64 d.z]] w1 fun e w' => e = .returned (.agg #[.int .i64 s.a, .int .i64 s.l, .int .i64 s.i]) ∧ Below w1.heap.size w1 w') := Lib.hid fun w1 hb => by
            have hbb : Below W6.heap.size W6 w1 := (Kp.below K7.out).trans ((show Below _ _ _ from hb).mono (Kp.below K7.out).size)
            exact HSO.out w1 g cap hlt ⟨HP.out.1.kept hbb HP.out.2.1, Nat.lt_of_lt_of_le HP.out.2.1 hbb.size, hcap⟩
          have heq := eq_placed s.a s.l s.i t.a t.l t.i
          by_cases hsm : s.same t
          · have hd1 : decide (s.a = t.a ∧ s.l = t.l ∧ s.i = t.i) = true := decide_eq_true hsm
            rw [hd1] at heq
            clear hd1
            apply wp_region_gives 4 (fun w' => Blw w6.heap.size w6 w') [.slice (some ⟨g, 0, none⟩) m cap, .agg #[.int .i64 d.x, .int .i64 d.y, .int .i64 d.z], .agg #[.int .i64 s.a, .int .i64 s.l, .int .i64 s.i], .agg #[.int .i64 t.a, .int .i64 t.l, .int .i64 t.i]] (by kernel_rfl) (by kernel_rfl) (by kernel_rfl) (show Below _ _ _ from (Below.refl _ _).drew)
            case haF =>
              simp [putJs, Act.put, List.range, List.range.loop]
              exact rfl
            case h =>
              have hBd := K7.out.2 _ (.head _)
              have hBt := K7.out.2 _ (.tail _ (.head _))
              simp only [List.take_succ_cons, List.take_zero, GivesL]
              clear K7
              refine ⟨?_, ?_, ?_, ?_, trivial⟩
              all_goals
                intro w1 hw1
                obtain ⟨d_0, d_1, d_2⟩ := cells3 (((show Below _ _ _ from hw1).block _ (lt_of_blk hBd)).trans hBd)
                obtain ⟨t_0, t_1, t_2⟩ := cells3 (((show Below _ _ _ from hw1).block _ (lt_of_blk hBt)).trans hBt)
                unfold Oper.wp
                simp only [execOp]
                go_simp <;> first
                  | exact ⟨rfl, hw1⟩
                  | ((with_reducible refine (KSc.out _ hw1).mono ?_); rintro e w2 ⟨rfl, hb⟩; exact ⟨rfl, below_call hb hw1⟩)
            case ht =>
              intro w7 hw5
              have O8 := Lib.hid (owns_kept O7.out (show Below _ _ _ from hw5) (Nat.le_refl _))
              have K8 := Lib.hid (K7.out.call (show Below _ _ _ from hw5))
              clear hw5 K7
              simp only [List.drop_succ_cons, List.drop_zero]
              obtain ⟨c0, c1, c2⟩ := cells3 (K8.out.2 _ (.head _))
              have hs7 := (Kp.below K8.out).size
              go_wp2_with (first
                | (at_builtin; refine wpList_append_own _ rfl (.tmp 41) (.tmp 43) 152 rfl W6.heap.size 94 i0 (.agg #[.int .i64 0, .int .i64 0, .int .i64 0]) 3 24 Tryz.underlying152 hi hz0 hz1 hz2 rfl (by decide) _ (unTo P S D k).length _ rfl (O8.out.alloc _) ⟨w7.heap.size, 0, none⟩ 1 1 [.int .i64 d.x, .int .i64 d.y, .int .i64 d.z] rfl rfl (cells_new3 _ _ _ _ _) (by intro u hu; simp at hu; rcases hu with rfl | rfl | rfl <;> rfl) (by unfold maxLen; omega) (by omega) (by simp; omega) ?_; intro v' w3 hown3 hgrow3 _))
              have hlt9 := O8.out.lt
              rw [if_pos hsm] at HUN
              go_roundw
              case rel => exact ⟨k + 1, by omega, by go_num, by rw [HUN.out]; simpa [List.flatMap_append, P3.val] using hown3, Lib.hid (((Kp.below K8.out).alloc hs7 _).grown hgrow3 (by simp; omega) (fun j hj => (hlt9 j hj).1))⟩
              case measure => simp [intOf]; omega
          · have hd1 : decide (s.a = t.a ∧ s.l = t.l ∧ s.i = t.i) = false := decide_eq_false hsm
            rw [hd1] at heq
            clear hd1
            apply wp_region_gives 4 (fun w' => Blw w6.heap.size w6 w') [.slice (some ⟨g, 0, none⟩) m cap, .agg #[.int .i64 d.x, .int .i64 d.y, .int .i64 d.z], .agg #[.int .i64 s.a, .int .i64 s.l, .int .i64 s.i], .agg #[.int .i64 t.a, .int .i64 t.l, .int .i64 t.i]] (by kernel_rfl) (by kernel_rfl) (by kernel_rfl) (show Below _ _ _ from (Below.refl _ _).drew)
            case haF =>
              simp [putJs, Act.put, List.range, List.range.loop]
              exact rfl
            case h =>
              have hBd := K7.out.2 _ (.head _)
              have hBt := K7.out.2 _ (.tail _ (.head _))
              simp only [List.take_succ_cons, List.take_zero, GivesL]
              clear K7
              refine ⟨?_, ?_, ?_, ?_, trivial⟩
              all_goals
                intro w1 hw1
                obtain ⟨d_0, d_1, d_2⟩ := cells3 (((show Below _ _ _ from hw1).block _ (lt_of_blk hBd)).trans hBd)
                obtain ⟨t_0, t_1, t_2⟩ := cells3 (((show Below _ _ _ from hw1).block _ (lt_of_blk hBt)).trans hBt)
                unfold Oper.wp
                simp only [execOp]
                go_simp <;> first
                  | exact ⟨rfl, hw1⟩
                  | ((with_reducible refine (KSc.out _ hw1).mono ?_); rintro e w2 ⟨rfl, hb⟩; exact ⟨rfl, below_call hb hw1⟩)
            case ht =>
              intro w7 hw5
              have O8 := Lib.hid (owns_kept O7.out (show Below _ _ _ from hw5) (Nat.le_refl _))
              have K8 := Lib.hid (K7.out.call (show Below _ _ _ from hw5))
              clear hw5 K7
              simp only [List.drop_succ_cons, List.drop_zero]
              obtain ⟨c0, c1, c2⟩ := cells3 (K8.out.2 _ (.head _))
              have hs7 := (Kp.below K8.out).size
              rw [if_neg hsm] at HUN
              go_wp2_with fail
              go_roundw
              case rel => exact ⟨k + 1, by omega, by go_num, by rw [HUN.out]; exact O8.out, Lib.hid (Kp.below K8.out)⟩
              case measure => simp [intOf]; omega
      · obtain rfl : k = m := by omega
        have hlen := unTo_len P S D k
        obtain ⟨L9, hL9⟩ : ∃ L9, unTo P S D k = L9 := ⟨_, rfl⟩
        rw [hL9] at hown HRL HKR hlen
        obtain ⟨a1, c1, hv1, hA1⟩ := AnyP3.of_row rfl hown
        subst hv1
        have KM1 := Lib.hid (mapped_parts (w := wr) L9 R a1 L9.length c1 hA1 HRL.out (by omega) HKR.out)
        have hsz := hnx.out.size
        obtain ⟨n9, hn9⟩ : ∃ n9, L9.length = n9 := ⟨_, rfl⟩
        rw [hn9] at KM1 HRL hlen ⊢
        clear hown hA1 hn9 hL9
        have HNX := Lib.hid hnx.out
        clear hnx
        go_wp2_with (first
          | (go_at_call 93; (with_reducible refine KM1.out.mono ?_); rintro e w8 ⟨rfl, hown8, hb8⟩
             have hA2 : AnyP3 w8 (some ⟨wr.heap.size, 0, none⟩) n9 R := by
               obtain ⟨a2, c2, h2, h3⟩ := AnyP3.of_row HRL.out hown8
               injection h2 with h4 h5 h6
               rw [h4]
               exact h3
             have KM2 := Lib.hid (mapped_vectors (w := w8) R R (some ⟨wr.heap.size, 0, none⟩) n9 n9 hA2 HRL.out (by omega) fun j hj w1 => vector_any _ _ _ w1)
             have H8 := Lib.hid hb8
             clear hA2 hown8 hb8)
          | (go_at_call 92; (with_reducible refine KM2.out.mono ?_); rintro e w9 ⟨rfl, hown9, hb9⟩
             have O9 := Lib.hid hown9
             have H9 := Lib.hid hb9
             clear hown9 hb9))
        go_ret2
        have hB6 : Below w.heap.size w W6 := HB6.out
        have hB8 : Below w.heap.size w w8 := (hB6.trans (HNX.out.mono hB6.size)).trans (H8.out.mono (by have := hB6.size; omega))
        refine ⟨_, rfl, ?_, hB8.trans (H9.out.mono hB8.size)⟩
        rw [HRL.out]
        exact owns_base O9.out hB8.size
end Go.Proofs.YtggffhmdgceljaaGreatDoor
