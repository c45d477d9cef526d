/-
  Contract of Reflected, for two rays.
-/
import Derived.Test.YtggffhmdgceljaaGreatDoorRows
import Derived.WalkKit
import Derived.WalkSpells
import Derived.WalkLawsBesides
import Derived.Lib.Hide
import Derived.BigQuiet
import Derived.Deep.QuietTactic
import Derived.Handy
import Derived.Deep.RegionHeld3
import Derived.Deep.RegionWith
import Derived.StillTailTactics
import Derived.RangeFuncNested
import Derived.RangeFuncBound
import Derived.RangeFuncCalls
import Derived.RangeFuncLeaves
import Derived.RangeFuncBox
import Derived.Shelf.Abstract
import Derived.Shelf.RegionOpen
import Derived.OwnWalkIn
import Derived.TacticsInMore
import Derived.LoopNIn
import Derived.LoopIn
import Derived.Maps.AppendAt
import Derived.Test.YtggffhmdgceljaaGreatDoorProg
import Derived.Laws.FloatArith
import Derived.Laws.BitsAllLaws
import Derived.Deep.DeepCutAuto
import Derived.Stop.BytesEq
import Derived.Deep.MidRow
import Derived.Laws.CopyRow
import Derived.WalkMore
import Derived.Deep.DrawnRows
import Derived.Deep.CutBlock
import Derived.Orders
import Derived.LoopTactic
import Derived.Laws.StructEq
import Derived.Deep.RegionLaw
import Derived.RegionTactic
import Derived.StillTail
import Derived.Test.YtggffhmdgceljaaGreatDoorOwaWn
import Derived.Test.YtggffhmdgceljaaGreatDoorOwaWa
import Derived.Test.YtggffhmdgceljaaGreatDoorOwaWi
import Derived.Test.YtggffhmdgceljaaGreatDoorOwaXe
import Derived.Test.YtggffhmdgceljaaGreatDoorOwaIb
import Derived.Test.YtggffhmdgceljaaGreatDoorOwaIk
import Derived.Test.YtggffhmdgceljaaGreatDoorOwaIl
import Derived.Test.YtggffhmdgceljaaGreatDoorOwaId
namespace Go.Proofs.YtggffhmdgceljaaGreatDoor
open Go.RowKit
set_option linter.unusedVariables false
set_option linter.unusedSimpArgs false

theorem ray_ok {x y z : Int} (h : rayErr x y z = 0) : directionErr x y z = 0 ∧ (-4096 ≤ x ∧ x ≤ 4096) ∧ (-4096 ≤ y ∧ y ≤ 4096) ∧ (-4096 ≤ z ∧ z ≤ 4096) := by
  unfold rayErr at h
  obtain ⟨h1, h2⟩ := firstNZ_two h
  exact ⟨h1, vec_ok h2⟩

set_option maxRecDepth 100000 in
set_option maxHeartbeats 6400000 in
theorem reflected_walk (x y z a b c d2 nn p1 p2 p3 q1 q2 q3 s1 s2 s3 : Int) (he : rayErr x y z = 0) (hf : rayErr a b c = 0) (w : World)
    (KD : ∀ w1 : World, Calls Tryz.prog 74 #[.agg #[.int .i64 x, .int .i64 y, .int .i64 z], .agg #[.int .i64 a, .int .i64 b, .int .i64 c]] w1 fun e w' => e = .returned (.int .i64 d2) ∧ Below w1.heap.size w1 w')
    (KN : ∀ w1 : World, Calls Tryz.prog 74 #[.agg #[.int .i64 a, .int .i64 b, .int .i64 c], .agg #[.int .i64 a, .int .i64 b, .int .i64 c]] w1 fun e w' => e = .returned (.int .i64 nn) ∧ Below w1.heap.size w1 w')
    (wd : IntKind.i64.wrap (2 * d2) = 2 * d2) (wn : IntKind.i64.wrap (-nn) = -nn)
    (KT : ∀ w1 : World, Calls Tryz.prog 69 #[.agg #[.int .i64 a, .int .i64 b, .int .i64 c], .int .i64 (2 * d2)] w1 fun e w' => e = .returned (.agg #[.int .i64 p1, .int .i64 p2, .int .i64 p3]) ∧ Below w1.heap.size w1 w')
    (KU : ∀ w1 : World, Calls Tryz.prog 69 #[.agg #[.int .i64 x, .int .i64 y, .int .i64 z], .int .i64 (-nn)] w1 fun e w' => e = .returned (.agg #[.int .i64 q1, .int .i64 q2, .int .i64 q3]) ∧ Below w1.heap.size w1 w')
    (KA : ∀ w1 : World, Calls Tryz.prog 70 #[.agg #[.int .i64 p1, .int .i64 p2, .int .i64 p3], .agg #[.int .i64 q1, .int .i64 q2, .int .i64 q3]] w1 fun e w' => e = .returned (.agg #[.int .i64 s1, .int .i64 s2, .int .i64 s3]) ∧ Below w1.heap.size w1 w')
    (t1 t2 t3 er : Int) (KR : ∀ w1 : World, Calls Tryz.prog 68 #[.agg #[.int .i64 s1, .int .i64 s2, .int .i64 s3]] w1 fun e w' => e = .returned (.tuple #[.agg #[.int .i64 t1, .int .i64 t2, .int .i64 t3], .int .i64 er]) ∧ Below w1.heap.size w1 w') :
    Calls Tryz.prog 24 #[.agg #[.int .i64 x, .int .i64 y, .int .i64 z], .agg #[.int .i64 a, .int .i64 b, .int .i64 c]] w fun e w' => e = .returned (.tuple #[.agg #[.int .i64 t1, .int .i64 t2, .int .i64 t3], .int .i64 er]) ∧ Below w.heap.size w w' := by
  obtain ⟨W0, hW0⟩ : ∃ W0, (((w.alloc (.cells #[.int .i64 x, .int .i64 y, .int .i64 z] 23)).alloc (.cells #[.int .i64 a, .int .i64 b, .int .i64 c] 23)).alloc (.cells #[.int .i64 0, .int .i64 0, .int .i64 0] 23)) = W0 := ⟨_, rfl⟩
  have HB0 : Hid (Below w.heap.size w W0) := Lib.hid (by rw [← hW0]; exact ((((Below.refl _ w).alloc (Nat.le_refl _) _).alloc (by simp) _).alloc (by simp; omega) _))
  have hS0 : w.heap.size < W0.heap.size := by rw [← hW0]; simp; try omega
  have a0_0 : W0.cell? ⟨w.heap.size, 0, none⟩ = some (.int .i64 x) := by rw [← hW0]; simp [go_sem]
  have a0_1 : W0.cell? ⟨w.heap.size, 1, none⟩ = some (.int .i64 y) := by rw [← hW0]; simp [go_sem]
  have a0_2 : W0.cell? ⟨w.heap.size, 2, none⟩ = some (.int .i64 z) := by rw [← hW0]; simp [go_sem]
  have hS1 : w.heap.size + 1 < W0.heap.size := by rw [← hW0]; simp; try omega
  have a1_0 : W0.cell? ⟨w.heap.size + 1, 0, none⟩ = some (.int .i64 a) := by rw [← hW0]; simp [go_sem]
  have a1_1 : W0.cell? ⟨w.heap.size + 1, 1, none⟩ = some (.int .i64 b) := by rw [← hW0]; simp [go_sem]
  have a1_2 : W0.cell? ⟨w.heap.size + 1, 2, none⟩ = some (.int .i64 c) := by rw [← hW0]; simp [go_sem]
  have hS2 : w.heap.size + 1 + 1 < W0.heap.size := by rw [← hW0]; simp; try omega
  have a2_0 : W0.cell? ⟨w.heap.size + 1 + 1, 0, none⟩ = some (.int .i64 0) := by rw [← hW0]; simp [go_sem]
  have a2_1 : W0.cell? ⟨w.heap.size + 1 + 1, 1, none⟩ = some (.int .i64 0) := by rw [← hW0]; simp [go_sem]
  have a2_2 : W0.cell? ⟨w.heap.size + 1 + 1, 2, none⟩ = some (.int .i64 0) := by rw [← hW0]; simp [go_sem]
  have hR : Blw W0.heap.size W0 W0.drew := show Below _ _ _ from (Below.refl W0.heap.size W0).drew
  have K0 : Hid (Kp w W0 [(w.heap.size + 1 + 1, (.cells #[.int .i64 0, .int .i64 0, .int .i64 0] 23 (0, 0))), (w.heap.size + 1, (.cells #[.int .i64 a, .int .i64 b, .int .i64 c] 23 (0, 0))), (w.heap.size, (.cells #[.int .i64 x, .int .i64 y, .int .i64 z] 23 (0, 0)))]) := Lib.hid (by
    rw [← hW0]
    have k := ((((Kp.none w).alloc (.cells #[.int .i64 x, .int .i64 y, .int .i64 z] 23)).alloc (.cells #[.int .i64 a, .int .i64 b, .int .i64 c] 23)).alloc (.cells #[.int .i64 0, .int .i64 0, .int .i64 0] 23))
    simpa using k)
  have KX : Hid (∀ w1 : World, Blw W0.heap.size W0 w1 → Calls Tryz.prog 43 #[.agg #[.int .i64 x, .int .i64 y, .int .i64 z]] w1 fun e w' => e = .returned (.int .i64 0) ∧ Below W0.heap.size W0 w') := Lib.hid fun w1 hb => by
    have h := on_blw (checkRay_all x y z w1) hb
    rwa [he] at h
  have KY : Hid (∀ w1 : World, Blw W0.heap.size W0 w1 → Calls Tryz.prog 43 #[.agg #[.int .i64 a, .int .i64 b, .int .i64 c]] w1 fun e w' => e = .returned (.int .i64 0) ∧ Below W0.heap.size W0 w') := Lib.hid fun w1 hb => by
    have h := on_blw (checkRay_all a b c w1) hb
    rwa [hf] at h
  have KF : Hid (firstNZ [0, 0] = 0) := Lib.hid (by rfl)
  have HKD := Lib.hid KD
  have HKN := Lib.hid KN
  have HKT := Lib.hid KT
  have HKU := Lib.hid KU
  have HKA := Lib.hid KA
  have HKR := Lib.hid KR
  clear he hf KD KN KT KU KA KR
  go_enter Tryz.func24, Tryz.ntmps24
  go_upto_region 1 with fail
  try rw [hW0]
  clear hW0
  go_region_held3 (fun w' => w'.cell? ⟨w.heap.size, 0, none⟩ = some (.int .i64 x) ∧ w'.cell? ⟨w.heap.size, 1, none⟩ = some (.int .i64 y) ∧ w'.cell? ⟨w.heap.size, 2, none⟩ = some (.int .i64 z) ∧ w'.cell? ⟨w.heap.size + 1, 0, none⟩ = some (.int .i64 a) ∧ w'.cell? ⟨w.heap.size + 1, 1, none⟩ = some (.int .i64 b) ∧ w'.cell? ⟨w.heap.size + 1, 2, none⟩ = some (.int .i64 c) ∧ Blw W0.heap.size W0 w')
    (first | (go_split_ands; refine ⟨?_, ?_, ?_, ?_, ?_, ?_, ?_⟩ <;> first | (with_reducible assumption) | exact hb2 | ((rw [hb2.cell hS0]; assumption)) | ((rw [hb2.cell hS1]; assumption))) | (go_split_ands; refine ⟨?_, ?_, ?_, ?_, ?_, ?_, ?_⟩ <;> first | ((rw [(hb2.alloc hb2.size _).cell hS0]; assumption)) | ((rw [(hb2.alloc hb2.size _).cell hS1]; assumption)) | exact (hb2.alloc hb2.size _ : Below _ _ _)) | go_keep)
    (first
      | (go_at_call 43; (with_reducible refine (KX.out _ ?_).mono ?_); rotate_left 1; rintro e w2 ⟨rfl, hb2⟩; rotate_left 1; (simp [*]))
      | (go_at_call 43; (with_reducible refine (KY.out _ ?_).mono ?_); rotate_left 1; rintro e w2 ⟨rfl, hb2⟩; rotate_left 1; (simp [*]))
      | ((go_at_call 42; refine (first_any _ 0 2 2 [0, 0] rfl (by omega) _ ?_).mono ?_; rotate_left 1; rintro e w' ⟨rfl, rfl⟩; rw [KF.out]; rotate_left 1; (intro j hj; match j, hj with | 0, _ => simp [go_sem] | 1, _ => simp [go_sem]))))
  obtain ⟨w3, hw3⟩ : ∃ w3, w2.alloc (.cells #[.int .i64 0, .int .i64 0] 26) = w3 := ⟨_, rfl⟩
  have K3 : Hid (Kp w w3 [(w.heap.size + 1 + 1, (.cells #[.int .i64 0, .int .i64 0, .int .i64 0] 23 (0, 0))), (w.heap.size + 1, (.cells #[.int .i64 a, .int .i64 b, .int .i64 c] 23 (0, 0))), (w.heap.size, (.cells #[.int .i64 x, .int .i64 y, .int .i64 z] 23 (0, 0)))]) := Lib.hid (by rw [← hw3]; exact K0.out.call (hb2.alloc hb2.size _))
  rw [hw3]
  clear hw3 hb2 hR KX KY KF K0 HB0 hS0 hS1 hS2 a0_0 a0_1 a0_2 a1_0 a1_1 a1_2 a2_0 a2_1 a2_2
  go_upto_region 4 with fail
  go_cut [7, 8] (fun s7 s8 wr => ∃ Bp Bq : Nat, s7 = .pointer (some ⟨Bp, 0, none⟩) ∧ s8 = .pointer (some ⟨Bq, 0, none⟩) ∧ Kp w wr [(Bp, (.cells #[.int .i64 x, .int .i64 y, .int .i64 z] 94 (0, 0))), (Bq, (.cells #[.int .i64 a, .int .i64 b, .int .i64 c] 94 (0, 0))), (w.heap.size + 1 + 1, (.cells #[.int .i64 0, .int .i64 0, .int .i64 0] 23 (0, 0))), (w.heap.size + 1, (.cells #[.int .i64 a, .int .i64 b, .int .i64 c] 23 (0, 0))), (w.heap.size, (.cells #[.int .i64 x, .int .i64 y, .int .i64 z] 23 (0, 0)))])
  case first =>
    refine two_parts (l1 := 19) (c1 := 20) (l2 := 21) (c2 := 22) (n7 := 7) (n8 := 8) (pa := 2) (pb := 3) (s := "rays.go:104") (BA := w.heap.size) (BB := w.heap.size + 1)
      (by unfold Apart6; decide) (by simp) rfl rfl (by decide) (by decide) (K3.out.2 _ (.tail _ (.tail _ (.head _)))) (K3.out.2 _ (.tail _ (.head _))) (fun Bp Bq wr hne h1 h2 hb h3 h4 => ?_)
    simp only [Act.put, List.setIfInBounds_toArray, List.set_cons_succ, List.set_cons_zero]
    rename_i hJ
    refine hJ _ _ ?_
    go_meet
    exact ⟨Bp, Bq, rfl, rfl, kp_two K3.out hb h3 h4⟩
  case rest =>
    rename_i hK
    obtain ⟨Bp, Bq, rfl, rfl, hk⟩ := hcut
    refine hK _ _ ?_
    clear hK K3
    have K4 := Lib.hid hk
    clear hk
    go_upto_region 5 with fail
    apply wp_region_gives 16 (fun w' => Blw wc.heap.size wc w') [.agg #[.int .i64 a, .int .i64 b, .int .i64 c], .agg #[.int .i64 x, .int .i64 y, .int .i64 z], .agg #[.int .i64 a, .int .i64 b, .int .i64 c], .int .i64 d2, .int .i64 (2 * d2), .agg #[.int .i64 p1, .int .i64 p2, .int .i64 p3], .agg #[.int .i64 x, .int .i64 y, .int .i64 z], .agg #[.int .i64 a, .int .i64 b, .int .i64 c], .agg #[.int .i64 a, .int .i64 b, .int .i64 c], .int .i64 nn, .int .i64 (-nn), .agg #[.int .i64 q1, .int .i64 q2, .int .i64 q3], .agg #[.int .i64 s1, .int .i64 s2, .int .i64 s3], .tuple #[.agg #[.int .i64 t1, .int .i64 t2, .int .i64 t3], .int .i64 er], .agg #[.int .i64 t1, .int .i64 t2, .int .i64 t3], .int .i64 er] (by kernel_rfl) (by kernel_rfl) (by kernel_rfl) (show Below _ _ _ from (Below.refl _ _).drew)
    case haF =>
      simp [putJs, Act.put, List.range, List.range.loop]
      exact rfl
    case h =>
      have hBx := K4.out.2 _ (.head _)
      have hBy := K4.out.2 _ (.tail _ (.head _))
      simp only [List.take_succ_cons, List.take_zero, GivesL]
      clear K4
      refine ⟨?_, ?_, ?_, ?_, ?_, ?_, ?_, ?_, ?_, ?_, ?_, ?_, ?_, ?_, ?_, ?_, trivial⟩
      all_goals
        intro w1 hw1
        obtain ⟨x_0, x_1, x_2⟩ := cells3 (((show Below _ _ _ from hw1).block _ (lt_of_blk hBx)).trans hBx)
        obtain ⟨y_0, y_1, y_2⟩ := cells3 (((show Below _ _ _ from hw1).block _ (lt_of_blk hBy)).trans hBy)
        unfold Oper.wp
        simp only [execOp]
        go_simp <;> first
          | exact ⟨rfl, hw1⟩
          | ((with_reducible refine (HKD.out _).mono ?_); rintro e w2 ⟨rfl, hb⟩; exact ⟨rfl, below_call hb hw1⟩)
          | ((with_reducible refine (HKN.out _).mono ?_); rintro e w2 ⟨rfl, hb⟩; exact ⟨rfl, below_call hb hw1⟩)
          | ((with_reducible refine (HKT.out _).mono ?_); rintro e w2 ⟨rfl, hb⟩; exact ⟨rfl, below_call hb hw1⟩)
          | ((with_reducible refine (HKU.out _).mono ?_); rintro e w2 ⟨rfl, hb⟩; exact ⟨rfl, below_call hb hw1⟩)
          | ((with_reducible refine (HKA.out _).mono ?_); rintro e w2 ⟨rfl, hb⟩; exact ⟨rfl, below_call hb hw1⟩)
          | ((with_reducible refine (HKR.out _).mono ?_); rintro e w2 ⟨rfl, hb⟩; exact ⟨rfl, below_call hb hw1⟩)
    case ht =>
      intro w5 hw5
      have K5 := Lib.hid (K4.out.call (show Below _ _ _ from hw5))
      clear hw5 K4
      simp only [List.drop_succ_cons, List.drop_zero]
      obtain ⟨o0, o1, o2⟩ := cells3 (K5.out.2 _ (.tail _ (.tail _ (.head _))))
      have oz : ∀ j, w5.frozen? ⟨w.heap.size + 1 + 1, j, none⟩ = false := fun j => frozen_of_row w5 (w.heap.size + 1 + 1) j _ _ (K5.out.2 _ (.tail _ (.tail _ (.head _))))
      have hb5 := Lib.hid (Kp.below K5.out)
      clear K5
      go_wp2_with fail
      refine bodyPost_ret (v := .tuple #[.agg #[.int .i64 t1, .int .i64 t2, .int .i64 t3], .int .i64 er]) (by simp [results, Tryz.results24, go_sem, o0, o1, o2]) rfl ⟨rfl, ?_⟩
      exact ((hb5.out.setCell (show w.heap.size ≤ w.heap.size + 1 + 1 by omega) _).setCell (show w.heap.size ≤ w.heap.size + 1 + 1 by omega) _).setCell (show w.heap.size ≤ w.heap.size + 1 + 1 by omega) _

/-- A part of a ray that is reflected, not reduced. -/
def rflP (x a d n : Int) : Int := a * (2 * d) + x * -n
theorem mul_abs {a b A B : Int} (ha : -A ≤ a ∧ a ≤ A) (hb : -B ≤ b ∧ b ≤ B) : -(A * B) ≤ a * b ∧ a * b ≤ A * B := by
  have hA : 0 ≤ A := by omega
  have hB : 0 ≤ B := by omega
  have h1 : (a * b).natAbs ≤ A.natAbs * B.natAbs := by
    rw [Int.natAbs_mul]
    exact Nat.mul_le_mul (by omega) (by omega)
  have h2 : ((A.natAbs * B.natAbs : Nat) : Int) = A * B := by
    rw [Int.natCast_mul, Int.natAbs_of_nonneg hA, Int.natAbs_of_nonneg hB]
  omega
theorem dot_abs {x y z a b c A B : Int} (hx : -A ≤ x ∧ x ≤ A) (hy : -A ≤ y ∧ y ≤ A) (hz : -A ≤ z ∧ z ≤ A) (ha : -B ≤ a ∧ a ≤ B) (hb : -B ≤ b ∧ b ≤ B) (hc : -B ≤ c ∧ c ≤ B) :
    -(3 * (A * B)) ≤ x * a + y * b + z * c ∧ x * a + y * b + z * c ≤ 3 * (A * B) := by
  have h1 := mul_abs hx ha
  have h2 := mul_abs hy hb
  have h3 := mul_abs hz hc
  omega
theorem fit_abs {a b A B : Int} (ha : -A ≤ a ∧ a ≤ A) (hb : -B ≤ b ∧ b ≤ B) (h : A * B ≤ 3000000000000000000) : Fit (a * b) := by
  have := mul_abs ha hb
  constructor <;> omega
def dot3 (x y z a b c : Int) : Int := x * a + y * b + z * c
theorem dot_ray {x y z a b c : Int} (hx : -4096 ≤ x ∧ x ≤ 4096) (hy : -4096 ≤ y ∧ y ≤ 4096) (hz : -4096 ≤ z ∧ z ≤ 4096) (ha : -4096 ≤ a ∧ a ≤ 4096) (hb : -4096 ≤ b ∧ b ≤ 4096) (hc : -4096 ≤ c ∧ c ≤ 4096) :
    -50331648 ≤ dot3 x y z a b c ∧ dot3 x y z a b c ≤ 50331648 := by
  have := dot_abs hx hy hz ha hb hc
  unfold dot3
  omega
theorem rfl_sq (x y z a b c : Int) : dot3 (rflP x a (dot3 x y z a b c) (dot3 a b c a b c)) (rflP y b (dot3 x y z a b c) (dot3 a b c a b c)) (rflP z c (dot3 x y z a b c) (dot3 a b c a b c))
    (rflP x a (dot3 x y z a b c) (dot3 a b c a b c)) (rflP y b (dot3 x y z a b c) (dot3 a b c a b c)) (rflP z c (dot3 x y z a b c) (dot3 a b c a b c)) = dot3 a b c a b c * dot3 a b c a b c * dot3 x y z x y z := by
  unfold rflP dot3
  grind
theorem sq_nn (x : Int) : 0 ≤ x * x := by
  rcases Int.le_total 0 x with h | h
  · exact Int.mul_nonneg h h
  · exact Int.mul_nonneg_of_nonpos_of_nonpos h h
theorem sq_pos {x : Int} (h : x ≠ 0) : 0 < x * x := by
  have h1 := sq_nn x
  have h2 : x * x ≠ 0 := fun h2 => by rcases Int.mul_eq_zero.1 h2 with h3 | h3 <;> exact h h3
  omega
theorem dot_pos {x y z : Int} (h : ¬ (x = 0 ∧ y = 0 ∧ z = 0)) : 0 < dot3 x y z x y z := by
  unfold dot3
  have hx := sq_nn x
  have hy := sq_nn y
  have hz := sq_nn z
  by_cases h1 : x = 0
  · by_cases h2 : y = 0
    · have h3 : z ≠ 0 := fun h3 => h ⟨h1, h2, h3⟩
      have := sq_pos h3
      omega
    · have := sq_pos h2
      omega
  · have := sq_pos h1
    omega
theorem rfl_nz {x y z a b c : Int} (h : ¬ (x = 0 ∧ y = 0 ∧ z = 0)) (h' : ¬ (a = 0 ∧ b = 0 ∧ c = 0)) :
    ¬ (rflP x a (dot3 x y z a b c) (dot3 a b c a b c) = 0 ∧ rflP y b (dot3 x y z a b c) (dot3 a b c a b c) = 0 ∧ rflP z c (dot3 x y z a b c) (dot3 a b c a b c) = 0) := by
  rintro ⟨h1, h2, h3⟩
  have h4 := rfl_sq x y z a b c
  rw [h1, h2, h3] at h4
  have h5 := dot_pos h
  have h6 := dot_pos h'
  have h7 := Int.mul_pos (Int.mul_pos h6 h6) h5
  have h8 : dot3 0 0 0 0 0 0 = 0 := rfl
  omega
theorem rfl_mid {x a d n : Int} (hx : -4096 ≤ x ∧ x ≤ 4096) (ha : -4096 ≤ a ∧ a ≤ 4096) (hd : -50331648 ≤ d ∧ d ≤ 50331648) (hn : -50331648 ≤ n ∧ n ≤ 50331648) : Fit (a * (2 * d)) ∧ Fit (x * -n) ∧ Fit (rflP x a d n) ∧ Mid (rflP x a d n) := by
  have h1 := mul_abs ha (show -100663296 ≤ 2 * d ∧ 2 * d ≤ 100663296 by omega)
  have h2 := mul_abs hx (show -50331648 ≤ -n ∧ -n ≤ 50331648 by omega)
  unfold Fit Mid rflP
  refine ⟨⟨?_, ?_⟩, ⟨?_, ?_⟩, ⟨?_, ?_⟩, ⟨?_, ?_⟩⟩ <;> omega

theorem reflected_any (x y z a b c t1 t2 t3 er : Int) (he : rayErr x y z = 0) (hf : rayErr a b c = 0)
    (KR : ∀ w1 : World, Calls Tryz.prog 68 #[.agg #[.int .i64 (rflP x a (dot3 x y z a b c) (dot3 a b c a b c)), .int .i64 (rflP y b (dot3 x y z a b c) (dot3 a b c a b c)), .int .i64 (rflP z c (dot3 x y z a b c) (dot3 a b c a b c))]] w1 fun e w' => e = .returned (.tuple #[.agg #[.int .i64 t1, .int .i64 t2, .int .i64 t3], .int .i64 er]) ∧ Below w1.heap.size w1 w') (w : World) :
    Calls Tryz.prog 24 #[.agg #[.int .i64 x, .int .i64 y, .int .i64 z], .agg #[.int .i64 a, .int .i64 b, .int .i64 c]] w fun e w' => e = .returned (.tuple #[.agg #[.int .i64 t1, .int .i64 t2, .int .i64 t3], .int .i64 er]) ∧ Below w.heap.size w w' := by
  obtain ⟨_, hx, hy, hz⟩ := ray_ok he
  obtain ⟨_, ha, hb, hc⟩ := ray_ok hf
  have hd := dot_ray hx hy hz ha hb hc
  have hn := dot_ray ha hb hc ha hb hc
  have k1 := rfl_mid hx ha hd hn
  have k2 := rfl_mid hy hb hd hn
  have k3 := rfl_mid hz hc hd hn
  have f : ∀ {p q : Int}, (-4096 ≤ p ∧ p ≤ 4096) → (-4096 ≤ q ∧ q ≤ 4096) → Fit (p * q) := fun hp hq => fit_abs hp hq (by omega)
  exact reflected_walk x y z a b c (dot3 x y z a b c) (dot3 a b c a b c) _ _ _ _ _ _ _ _ _ he hf w
    (fun w1 => dot_any x y z a b c (f hx ha) (f hy hb) (f hz hc) w1) (fun w1 => dot_any a b c a b c (f ha ha) (f hb hb) (f hc hc) w1)
    (IntWalk.i64_in _ ⟨by omega, by omega⟩) (IntWalk.i64_in _ ⟨by omega, by omega⟩)
    (fun w1 => times_any a b c _ k1.1 k2.1 k3.1 w1) (fun w1 => times_any x y z _ k1.2.1 k2.2.1 k3.2.1 w1)
    (fun w1 => partsPlus_any _ _ _ _ _ _ k1.2.2.1 k2.2.2.1 k3.2.2.1 w1) t1 t2 t3 er KR
end Go.Proofs.YtggffhmdgceljaaGreatDoor
