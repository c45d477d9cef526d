/-
  Contracts of Inside: for a valid cone and a ray, and with an error.
-/
import Derived.Test.YtggffhmdgceljaaGreatDoorRows
import Derived.WalkKit
import Derived.WalkSpells
import Derived.WalkLawsBesides
import Derived.Lib.Hide
import Derived.BigQuiet
import Derived.Deep.QuietTactic
import Derived.Handy
import Derived.Deep.RegionHeld3
import Derived.Deep.RegionWith
import Derived.StillTailTactics
import Derived.RangeFuncNested
import Derived.RangeFuncBound
import Derived.RangeFuncCalls
import Derived.RangeFuncLeaves
import Derived.RangeFuncBox
import Derived.Shelf.Abstract
import Derived.Shelf.RegionOpen
import Derived.OwnWalkIn
import Derived.TacticsInMore
import Derived.LoopNIn
import Derived.LoopIn
import Derived.Maps.AppendAt
import Derived.Test.YtggffhmdgceljaaGreatDoorProg
import Derived.Laws.FloatArith
import Derived.Laws.BitsAllLaws
import Derived.Deep.DeepCutAuto
import Derived.Stop.BytesEq
import Derived.Deep.MidRow
import Derived.Laws.CopyRow
import Derived.WalkMore
import Derived.Deep.DrawnRows
import Derived.Deep.CutBlock
import Derived.Orders
import Derived.LoopTactic
import Derived.Laws.StructEq
import Derived.Deep.RegionLaw
import Derived.RegionTactic
import Derived.StillTail
import Derived.Test.YtggffhmdgceljaaGreatDoorOwaWa
import Derived.Test.YtggffhmdgceljaaGreatDoorOwaWn
import Derived.Test.YtggffhmdgceljaaGreatDoorOwaXe
import Derived.Test.YtggffhmdgceljaaGreatDoorOwaWi
import Derived.Test.YtggffhmdgceljaaGreatDoorOwaIb
import Derived.Test.YtggffhmdgceljaaGreatDoorOwaIl
import Derived.Test.YtggffhmdgceljaaGreatDoorOwaId
import Derived.Test.YtggffhmdgceljaaGreatDoorOwaIi
import Derived.Test.YtggffhmdgceljaaGreatDoorOwaIp
namespace Go.Proofs.YtggffhmdgceljaaGreatDoor
open Go.RowKit
set_option linter.unusedVariables false
set_option linter.unusedSimpArgs false

/-- Whether a cone has a direction inside. -/
def insB (x y z num den a b c : Int) : Bool := decide (0 < dot3 x y z a b c ∧ num * dot3 x y z x y z * dot3 a b c a b c ≤ dot3 x y z a b c * dot3 x y z a b c * den)
def Ray3 (x y z : Int) : Prop := (-4096 ≤ x ∧ x ≤ 4096) ∧ (-4096 ≤ y ∧ y ≤ 4096) ∧ (-4096 ≤ z ∧ z ≤ 4096)
def Share (num den : Int) : Prop := (1 ≤ den ∧ den ≤ 100) ∧ (0 ≤ num ∧ num ≤ den)
theorem cone_ok {x y z num den : Int} (h : coneErr x y z num den = 0) : rayErr x y z = 0 ∧ Share num den := by
  unfold coneErr at h
  obtain ⟨h1, h2, h3⟩ := firstNZ_three h
  exact ⟨h1, rangeErr_zero h2, rangeErr_zero h3⟩

set_option maxHeartbeats 800000 in
theorem contains_any (x y z num den a b c : Int) (hx : Ray3 x y z) (ha : Ray3 a b c) (hs : Share num den) (w : World) :
    Calls Tryz.prog 44 #[.agg #[.int .i64 x, .int .i64 y, .int .i64 z, .int .i64 num, .int .i64 den], .agg #[.int .i64 a, .int .i64 b, .int .i64 c]] w fun e w' => e = .returned (.bool (insB x y z num den a b c)) ∧ Below w.heap.size w w' := by
  obtain ⟨h1, h2, h3⟩ := hx
  obtain ⟨k1, k2, k3⟩ := ha
  obtain ⟨⟨s1, s2⟩, s3, s4⟩ := hs
  have hd := dot_ray h1 h2 h3 k1 k2 k3
  have hp := dot_ray h1 h2 h3 h1 h2 h3
  have hq := dot_ray k1 k2 k3 k1 k2 k3
  have f : ∀ {p q : Int}, (-4096 ≤ p ∧ p ≤ 4096) → (-4096 ≤ q ∧ q ≤ 4096) → Fit (p * q) := fun hp hq => fit_abs hp hq (by omega)
  have m1 := mul_abs hd hd
  have m2 := mul_abs m1 (show -100 ≤ den ∧ den ≤ 100 by omega)
  have m3 := mul_abs (show -100 ≤ num ∧ num ≤ 100 by omega) hp
  have m4 := mul_abs m3 hq
  by_cases h0 : 0 < dot3 x y z a b c
  · have e : insB x y z num den a b c = decide (num * dot3 x y z x y z * dot3 a b c a b c ≤ dot3 x y z a b c * dot3 x y z a b c * den) := by
      unfold insB
      refine decide_eq_decide.2 ⟨fun h => h.2, fun h => ⟨h0, h⟩⟩
    rw [e]
    exact contains_yes x y z num den a b c (dot3 x y z a b c) (dot3 x y z x y z) (dot3 a b c a b c) _ _ w (fun w1 => dot_any x y z a b c (f h1 k1) (f h2 k2) (f h3 k3) w1) (fun w1 => dot_any x y z x y z (f h1 h1) (f h2 h2) (f h3 h3) w1)
      (fun w1 => dot_any a b c a b c (f k1 k1) (f k2 k2) (f k3 k3) w1) (dot3 x y z a b c * dot3 x y z a b c) (num * dot3 x y z x y z) h0 (IntWalk.i64_in _ ⟨by omega, by omega⟩) (IntWalk.i64_in _ ⟨by omega, by omega⟩) (IntWalk.i64_in _ ⟨by omega, by omega⟩) (IntWalk.i64_in _ ⟨by omega, by omega⟩)
  · have e : insB x y z num den a b c = false := decide_eq_false fun h => h0 h.1
    rw [e]
    exact contains_no x y z num den a b c (dot3 x y z a b c) 0 0 0 0 w (fun w1 => dot_any x y z a b c (f h1 k1) (f h2 k2) (f h3 k3) w1) 0 0 (by omega)

set_option maxRecDepth 100000 in
set_option maxHeartbeats 6400000 in
theorem inside_ok (x y z num den a b c : Int) (he : coneErr x y z num den = 0) (hf : rayErr a b c = 0) (w : World) :
    Calls Tryz.prog 7 #[.agg #[.int .i64 x, .int .i64 y, .int .i64 z, .int .i64 num, .int .i64 den], .agg #[.int .i64 a, .int .i64 b, .int .i64 c]] w fun e w' => e = .returned (.tuple #[.bool (insB x y z num den a b c), .int .i64 0]) ∧ Below w.heap.size w w' := by
  obtain ⟨hr, hs⟩ := cone_ok he
  have hx : Ray3 x y z := (ray_ok hr).2
  have ha : Ray3 a b c := (ray_ok hf).2
  obtain ⟨W0, hW0⟩ : ∃ W0, ((w.alloc (.cells #[.int .i64 x, .int .i64 y, .int .i64 z, .int .i64 num, .int .i64 den] 29)).alloc (.cells #[.int .i64 a, .int .i64 b, .int .i64 c] 23)) = W0 := ⟨_, rfl⟩
  have HB0 : Hid (Below w.heap.size w W0) := Lib.hid (by rw [← hW0]; exact (((Below.refl _ w).alloc (Nat.le_refl _) _).alloc (by simp) _))
  have hS0 : w.heap.size < W0.heap.size := by rw [← hW0]; simp; try omega
  have a0_0 : W0.cell? ⟨w.heap.size, 0, none⟩ = some (.int .i64 x) := by rw [← hW0]; simp [go_sem]
  have a0_1 : W0.cell? ⟨w.heap.size, 1, none⟩ = some (.int .i64 y) := by rw [← hW0]; simp [go_sem]
  have a0_2 : W0.cell? ⟨w.heap.size, 2, none⟩ = some (.int .i64 z) := by rw [← hW0]; simp [go_sem]
  have a0_3 : W0.cell? ⟨w.heap.size, 3, none⟩ = some (.int .i64 num) := by rw [← hW0]; simp [go_sem]
  have a0_4 : W0.cell? ⟨w.heap.size, 4, none⟩ = some (.int .i64 den) := by rw [← hW0]; simp [go_sem]
  have hS1 : w.heap.size + 1 < W0.heap.size := by rw [← hW0]; simp; try omega
  have a1_0 : W0.cell? ⟨w.heap.size + 1, 0, none⟩ = some (.int .i64 a) := by rw [← hW0]; simp [go_sem]
  have a1_1 : W0.cell? ⟨w.heap.size + 1, 1, none⟩ = some (.int .i64 b) := by rw [← hW0]; simp [go_sem]
  have a1_2 : W0.cell? ⟨w.heap.size + 1, 2, none⟩ = some (.int .i64 c) := by rw [← hW0]; simp [go_sem]
  have hR : Blw W0.heap.size W0 W0.drew := show Below _ _ _ from (Below.refl W0.heap.size W0).drew
  have K0 : Hid (Kp w W0 [(w.heap.size + 1, (.cells #[.int .i64 a, .int .i64 b, .int .i64 c] 23 (0, 0))), (w.heap.size, (.cells #[.int .i64 x, .int .i64 y, .int .i64 z, .int .i64 num, .int .i64 den] 29 (0, 0)))]) := Lib.hid (by
    rw [← hW0]
    have k := (((Kp.none w).alloc (.cells #[.int .i64 x, .int .i64 y, .int .i64 z, .int .i64 num, .int .i64 den] 29)).alloc (.cells #[.int .i64 a, .int .i64 b, .int .i64 c] 23))
    simpa using k)
  have KX : Hid (∀ w1 : World, Blw W0.heap.size W0 w1 → Calls Tryz.prog 16 #[.agg #[.int .i64 x, .int .i64 y, .int .i64 z, .int .i64 num, .int .i64 den]] w1 fun e w' => e = .returned (.int .i64 0) ∧ Below W0.heap.size W0 w') := Lib.hid fun w1 hb => by
    have h := on_blw (checkCone_all x y z num den w1) hb
    rwa [he] at h
  have KY : Hid (∀ w1 : World, Blw W0.heap.size W0 w1 → Calls Tryz.prog 43 #[.agg #[.int .i64 a, .int .i64 b, .int .i64 c]] w1 fun e w' => e = .returned (.int .i64 0) ∧ Below W0.heap.size W0 w') := Lib.hid fun w1 hb => by
    have h := on_blw (checkRay_all a b c w1) hb
    rwa [hf] at h
  have KF : Hid (firstNZ [0, 0] = 0) := Lib.hid (by rfl)
  obtain ⟨bb, hbb⟩ : ∃ bb, insB x y z num den a b c = bb := ⟨_, rfl⟩
  have KP : Hid (∀ w1 : World, Calls Tryz.prog 45 #[.agg #[.int .i64 a, .int .i64 b, .int .i64 c]] w1 fun e w' => e = .returned (.agg #[.int .i64 a, .int .i64 b, .int .i64 c]) ∧ Below w1.heap.size w1 w') := Lib.hid fun w1 => partsOf_any a b c w1
  have KC : Hid (∀ w1 : World, Calls Tryz.prog 44 #[.agg #[.int .i64 x, .int .i64 y, .int .i64 z, .int .i64 num, .int .i64 den], .agg #[.int .i64 a, .int .i64 b, .int .i64 c]] w1 fun e w' => e = .returned (.bool bb) ∧ Below w1.heap.size w1 w') := Lib.hid fun w1 => by
    have h := contains_any x y z num den a b c hx ha hs w1
    rwa [hbb] at h
  rw [hbb]
  clear hbb he hf hr hs hx ha
  go_enter Tryz.func7, Tryz.ntmps7
  go_upto_region 1 with fail
  try rw [hW0]
  clear hW0
  go_region_held3 (fun w' => w'.cell? ⟨w.heap.size, 0, none⟩ = some (.int .i64 x) ∧ w'.cell? ⟨w.heap.size, 1, none⟩ = some (.int .i64 y) ∧ w'.cell? ⟨w.heap.size, 2, none⟩ = some (.int .i64 z) ∧ w'.cell? ⟨w.heap.size, 3, none⟩ = some (.int .i64 num) ∧ w'.cell? ⟨w.heap.size, 4, none⟩ = some (.int .i64 den) ∧ w'.cell? ⟨w.heap.size + 1, 0, none⟩ = some (.int .i64 a) ∧ w'.cell? ⟨w.heap.size + 1, 1, none⟩ = some (.int .i64 b) ∧ w'.cell? ⟨w.heap.size + 1, 2, none⟩ = some (.int .i64 c) ∧ Blw W0.heap.size W0 w')
    (first | (go_split_ands; refine ⟨?_, ?_, ?_, ?_, ?_, ?_, ?_, ?_, ?_⟩ <;> first | (with_reducible assumption) | exact hb2 | ((rw [hb2.cell hS0]; assumption)) | ((rw [hb2.cell hS1]; assumption))) | (go_split_ands; refine ⟨?_, ?_, ?_, ?_, ?_, ?_, ?_, ?_, ?_⟩ <;> first | ((rw [(hb2.alloc hb2.size _).cell hS0]; assumption)) | ((rw [(hb2.alloc hb2.size _).cell hS1]; assumption)) | exact (hb2.alloc hb2.size _ : Below _ _ _)) | go_keep)
    (first
      | (go_at_call 16; (with_reducible refine (KX.out _ ?_).mono ?_); rotate_left 1; rintro e w2 ⟨rfl, hb2⟩; rotate_left 1; (simp [*]))
      | (go_at_call 43; (with_reducible refine (KY.out _ ?_).mono ?_); rotate_left 1; rintro e w2 ⟨rfl, hb2⟩; rotate_left 1; (simp [*]))
      | ((go_at_call 42; refine (first_any _ 0 2 2 [0, 0] rfl (by omega) _ ?_).mono ?_; rotate_left 1; rintro e w' ⟨rfl, rfl⟩; rw [KF.out]; rotate_left 1; (intro j hj; match j, hj with | 0, _ => simp [go_sem] | 1, _ => simp [go_sem]))))
  obtain ⟨w3, hw3⟩ : ∃ w3, w2.alloc (.cells #[.int .i64 0, .int .i64 0] 26) = w3 := ⟨_, rfl⟩
  have K3 : Hid (Kp w w3 [(w.heap.size + 1, (.cells #[.int .i64 a, .int .i64 b, .int .i64 c] 23 (0, 0))), (w.heap.size, (.cells #[.int .i64 x, .int .i64 y, .int .i64 z, .int .i64 num, .int .i64 den] 29 (0, 0)))]) := Lib.hid (by rw [← hw3]; exact K0.out.call (hb2.alloc hb2.size _))
  rw [hw3]
  clear hw3 hb2 hR KX KY KF K0 HB0 hS0 hS1 a0_0 a0_1 a0_2 a0_3 a0_4 a1_0 a1_1 a1_2
  go_upto_region 4 with fail
  apply wp_region_gives 4 (fun w' => Blw w3.heap.size w3 w') [.agg #[.int .i64 x, .int .i64 y, .int .i64 z, .int .i64 num, .int .i64 den], .agg #[.int .i64 a, .int .i64 b, .int .i64 c], .agg #[.int .i64 a, .int .i64 b, .int .i64 c], .bool bb] (by kernel_rfl) (by kernel_rfl) (by kernel_rfl) (show Below _ _ _ from (Below.refl _ _).drew)
  case haF =>
    simp [putJs, Act.put, List.range, List.range.loop]
    exact rfl
  case h =>
    have hBx := K3.out.2 _ (.tail _ (.head _))
    have hBy := K3.out.2 _ (.head _)
    simp only [List.take_succ_cons, List.take_zero, GivesL]
    clear K3
    refine ⟨?_, ?_, ?_, ?_, trivial⟩
    all_goals
      intro w1 hw1
      obtain ⟨x_0, x_1, x_2, x_3, x_4⟩ := cells5 (((show Below _ _ _ from hw1).block _ (lt_of_blk hBx)).trans hBx)
      obtain ⟨y_0, y_1, y_2⟩ := cells3 (((show Below _ _ _ from hw1).block _ (lt_of_blk hBy)).trans hBy)
      unfold Oper.wp
      simp only [execOp]
      go_simp <;> first
        | exact ⟨rfl, hw1⟩
        | ((with_reducible refine (KP.out _).mono ?_); rintro e w2 ⟨rfl, hb⟩; exact ⟨rfl, below_call hb hw1⟩)
        | ((with_reducible refine (KC.out _).mono ?_); rintro e w2 ⟨rfl, hb⟩; exact ⟨rfl, below_call hb hw1⟩)
  case ht =>
    intro w5 hw5
    have hb5 := Lib.hid ((Kp.below K3.out).trans ((show Below _ _ _ from hw5).mono (Kp.below K3.out).size))
    clear hw5 K3
    simp only [List.drop_succ_cons, List.drop_zero]
    go_wp2_with fail
    go_ret2
    exact ⟨rfl, hb5.out⟩

end Go.Proofs.YtggffhmdgceljaaGreatDoor
