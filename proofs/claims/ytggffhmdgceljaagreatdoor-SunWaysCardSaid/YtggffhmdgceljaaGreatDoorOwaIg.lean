/-
  Contracts of rayOf, of signs and of quotients.
-/
import Derived.Test.YtggffhmdgceljaaGreatDoorRows
import Derived.WalkKit
import Derived.WalkSpells
import Derived.WalkLawsBesides
import Derived.Lib.Hide
import Derived.BigQuiet
import Derived.Deep.QuietTactic
import Derived.Handy
import Derived.Deep.RegionHeld3
import Derived.Deep.RegionWith
import Derived.StillTailTactics
import Derived.RangeFuncNested
import Derived.RangeFuncBound
import Derived.RangeFuncCalls
import Derived.RangeFuncLeaves
import Derived.RangeFuncBox
import Derived.Shelf.Abstract
import Derived.Shelf.RegionOpen
import Derived.OwnWalkIn
import Derived.TacticsInMore
import Derived.LoopNIn
import Derived.LoopIn
import Derived.Maps.AppendAt
import Derived.Test.YtggffhmdgceljaaGreatDoorProg
import Derived.Laws.FloatArith
import Derived.Laws.BitsAllLaws
import Derived.Deep.DeepCutAuto
import Derived.Stop.BytesEq
import Derived.Deep.MidRow
import Derived.Laws.CopyRow
import Derived.WalkMore
import Derived.Deep.DrawnRows
import Derived.Deep.CutBlock
import Derived.LoopTactic
import Derived.Laws.StructEq
import Derived.Deep.RegionLaw
import Derived.Test.YtggffhmdgceljaaGreatDoorOwaWn
import Derived.Test.YtggffhmdgceljaaGreatDoorOwaXe
import Derived.Test.YtggffhmdgceljaaGreatDoorOwaIb
import Derived.Test.YtggffhmdgceljaaGreatDoorOwaWi
import Derived.Test.YtggffhmdgceljaaGreatDoorOwaId
import Derived.Orders
import Derived.RegionTactic
import Derived.StillTail
import Derived.Test.YtggffhmdgceljaaGreatDoorOwaIl
import Derived.Test.YtggffhmdgceljaaGreatDoorOwaWa
import Derived.Test.YtggffhmdgceljaaGreatDoorOwaIk
import Derived.Test.YtggffhmdgceljaaGreatDoorOwaNd
import Derived.Test.YtggffhmdgceljaaGreatDoorOwaWo
namespace Go.Proofs.YtggffhmdgceljaaGreatDoor
open Go.RowKit
set_option linter.unusedVariables false
set_option linter.unusedSimpArgs false

set_option maxRecDepth 100000 in
set_option maxHeartbeats 6400000 in
theorem rayOf_ok (x y z : Int) (hx : Mid x) (hy : Mid y) (hz : Mid z) (h0 : ¬ (x = 0 ∧ y = 0 ∧ z = 0)) (hv : vectorErrL 4096 (x.tdiv (g3 x y z)) (y.tdiv (g3 x y z)) (z.tdiv (g3 x y z)) = 0) (w : World) :
    Calls Tryz.prog 68 #[.agg #[.int .i64 x, .int .i64 y, .int .i64 z]] w fun e w' => e = .returned (.tuple #[.agg #[.int .i64 (x.tdiv (g3 x y z)), .int .i64 (y.tdiv (g3 x y z)), .int .i64 (z.tdiv (g3 x y z))], .int .i64 0]) ∧ Below w.heap.size w w' := by
  obtain ⟨W0, hW0⟩ : ∃ W0, ((w.alloc (.cells #[.int .i64 x, .int .i64 y, .int .i64 z] 94)).alloc (.cells #[.int .i64 0, .int .i64 0, .int .i64 0] 23)) = W0 := ⟨_, rfl⟩
  have K0 : Hid (Kp w W0 [(w.heap.size + 1, (.cells #[.int .i64 0, .int .i64 0, .int .i64 0] 23 (0, 0))), (w.heap.size, (.cells #[.int .i64 x, .int .i64 y, .int .i64 z] 94 (0, 0)))]) := Lib.hid (by
    rw [← hW0]
    have k := (((Kp.none w).alloc (.cells #[.int .i64 x, .int .i64 y, .int .i64 z] 94)).alloc (.cells #[.int .i64 0, .int .i64 0, .int .i64 0] 23))
    simpa using k)
  obtain ⟨r1, er1⟩ : ∃ r1 : Int, x.tdiv (g3 x y z) = r1 := ⟨_, rfl⟩
  obtain ⟨r2, er2⟩ : ∃ r2 : Int, y.tdiv (g3 x y z) = r2 := ⟨_, rfl⟩
  obtain ⟨r3, er3⟩ : ∃ r3 : Int, z.tdiv (g3 x y z) = r3 := ⟨_, rfl⟩
  have KR : Hid (∀ w1 : World, Calls Tryz.prog 72 #[.agg #[.int .i64 x, .int .i64 y, .int .i64 z]] w1 fun e w' => e = .returned (.agg #[.int .i64 r1, .int .i64 r2, .int .i64 r3]) ∧ Below w1.heap.size w1 w') := Lib.hid fun w1 => by
    have h := reduced_any x y z hx hy hz h0 w1
    rwa [er1, er2, er3] at h
  have KV : Hid (∀ w1 : World, Calls Tryz.prog 73 #[.agg #[.int .i64 r1, .int .i64 r2, .int .i64 r3]] w1 fun e w' => e = .returned (.agg #[.int .i64 r1, .int .i64 r2, .int .i64 r3]) ∧ Below w1.heap.size w1 w') := Lib.hid fun w1 => vector_any r1 r2 r3 w1
  rw [er1, er2, er3] at hv
  have KC : Hid (∀ w1 : World, Calls Tryz.prog 46 #[.agg #[.int .i64 r1, .int .i64 r2, .int .i64 r3], .int .i64 4096] w1 fun e w' => e = .returned (.int .i64 0) ∧ Below w1.heap.size w1 w') := Lib.hid fun w1 => by
    have h := checkVectorL_all r1 r2 r3 4096 (by omega) w1
    rwa [hv] at h
  rw [er1, er2, er3]
  clear er1 er2 er3 hx hy hz h0 hv
  obtain ⟨x0, x1, x2⟩ := cells3 (K0.out.2 _ (.tail _ (.head _)))
  go_enter Tryz.func68, Tryz.ntmps68
  go_upto_region 1 with fail
  try rw [hW0]
  clear hW0
  go_upto_region 2 with (first
    | (go_at_call 72; (with_reducible refine (KR.out _).mono ?_); rintro e w1 ⟨rfl, hb⟩; have K1 := Lib.hid (K0.out.call hb); clear hb)
    | (go_at_call 73; (with_reducible refine (KV.out _).mono ?_); rintro e w2 ⟨rfl, hb⟩; have K2 := Lib.hid (K1.out.call hb); clear hb))
  clear x0 x1 x2 K0 K1
  refine wp_world (fun w' => Kp w w' [(w2.heap.size, (.cells #[.int .i64 r1, .int .i64 r2, .int .i64 r3] 23 (0, 0))), (w.heap.size + 1, (.cells #[.int .i64 0, .int .i64 0, .int .i64 0] 23 (0, 0))), (w.heap.size, (.cells #[.int .i64 x, .int .i64 y, .int .i64 z] 94 (0, 0)))]) (by first | exact K2.out.alloc _ | exact kp_set3 K2.out _ _ _) fun w3 k3 => ?_
  have K3 := Lib.hid k3
  obtain ⟨B4, hB4⟩ : ∃ B4, w2.heap.size = B4 := ⟨_, rfl⟩
  rw [hB4] at K3 ⊢
  clear k3 K2 hB4
  obtain ⟨x0, x1, x2⟩ := cells3 (K3.out.2 _ (.head _))
  go_wp2_with (first
    | (go_at_call 46; (with_reducible refine (KC.out _).mono ?_); rintro e w4 ⟨rfl, hb⟩; have K4 := Lib.hid (K3.out.call hb); clear hb x0 x1 x2 K3;
       obtain ⟨x0, x1, x2⟩ := cells3 (K4.out.2 _ (.head _));
       obtain ⟨d0, d1, d2⟩ := cells3 (K4.out.2 _ (.tail _ (.head _)));
       have dz : ∀ j, w4.frozen? ⟨w.heap.size + 1, j, none⟩ = false := fun j => frozen_of_row w4 (w.heap.size + 1) j _ _ (K4.out.2 _ (.tail _ (.head _)));
       have hb4 := Lib.hid (Kp.below K4.out); clear K4))
  refine bodyPost_ret (v := .tuple #[.agg #[.int .i64 r1, .int .i64 r2, .int .i64 r3], .int .i64 0]) (by simp [results, Tryz.results68, go_sem, d0, d1, d2]) rfl ⟨rfl, ?_⟩
  exact ((hb4.out.setCell (by simp) _).setCell (by simp) _).setCell (by simp) _

end Go.Proofs.YtggffhmdgceljaaGreatDoor

/-
  Contracts of signs and of quotients.
-/
namespace Go.Proofs.YtggffhmdgceljaaGreatDoor
open Go.RowKit
set_option linter.unusedVariables false
set_option linter.unusedSimpArgs false

def sgnI (n : Int) : Int := if 0 < n then 1 else if n < 0 then -1 else 0

set_option maxHeartbeats 800000 in
theorem sign_any (n : Int) (w : World) :
    Calls Tryz.prog 75 #[.int .i64 n] w fun e w' => e = .returned (.int .i64 (sgnI n)) ∧ w = w' := by
  obtain ⟨v, hv⟩ : ∃ v, max n (-1) = v := ⟨_, rfl⟩
  have m1 : ∀ (ts : Array TypeId) (t : TypeId) (w : World), (Builtin.max_ ts t #[.int .i64 n, .int .i64 (-1)]).run Tryz.prog w = .ok (.int .i64 v) w := fun ts t w => by
    rw [run_max_int2]
    split
    · rw [← hv, show max n (-1) = -1 by omega]
    · rw [← hv, show max n (-1) = n by omega]
  have m2 : ∀ (ts : Array TypeId) (t : TypeId) (w : World), (Builtin.min_ ts t #[.int .i64 v, .int .i64 1]).run Tryz.prog w = .ok (.int .i64 (sgnI n)) w := fun ts t w => by
    rw [run_min_int2]
    unfold sgnI
    split <;> split <;> (try split) <;> first | rfl | (exfalso; omega) | (congr 2; omega)
  clear hv
  go_enter Tryz.func75, Tryz.ntmps75
  go_wp2
  go_ret
  exact ⟨rfl, rfl⟩

set_option maxRecDepth 100000 in
set_option maxHeartbeats 6400000 in
theorem quotient_any (a b : Int) (ha : Mid a) (hb : Mid b) (h0 : 0 < b) (w : World) :
    Calls Tryz.prog 76 #[.int .i64 a, .int .i64 b] w fun e w' => e = .returned (.agg #[.int .i64 (a.tdiv (Int.gcd a b)), .int .i64 (b.tdiv (Int.gcd a b))]) ∧ Below w.heap.size w w' := by
  obtain ⟨g, hg⟩ : ∃ g : Int, (Int.gcd a b : Int) = g := ⟨_, rfl⟩
  have hgp : 0 < g := by
    rw [← hg]
    have : Int.gcd a b ≠ 0 := fun h => by rw [Int.gcd_eq_zero_iff] at h; omega
    omega
  have hgm : Mid g := by rw [← hg]; exact gcd_mid ha hb
  rw [hg]
  obtain ⟨q1, hq1⟩ : ∃ q1 : Int, a.tdiv g = q1 := ⟨_, rfl⟩
  obtain ⟨q2, hq2⟩ : ∃ q2 : Int, b.tdiv g = q2 := ⟨_, rfl⟩
  have KD : Hid (∀ w1 : World, Calls Tryz.prog 101 #[.int .i64 a, .int .i64 b] w1 fun e w' => e = .returned (.int .i64 g) ∧ Below w1.heap.size w1 w') := Lib.hid fun w1 => by
    have h := divisor_any a b ha.out hb.out w1
    rwa [hg] at h
  have KS : Hid (∀ w1 : World, Calls Tryz.prog 75 #[.int .i64 b] w1 fun e w' => e = .returned (.int .i64 1) ∧ w1 = w') := Lib.hid fun w1 => by
    have h := sign_any b w1
    rwa [show sgnI b = 1 by unfold sgnI; rw [if_pos h0]] at h
  have b1 : IntKind.i64.wrap q1 = q1 := by
    have := tdiv_le a g; have := ha.out; rw [hq1] at *; exact IntWalk.i64_in _ ⟨by omega, by omega⟩
  have b2 : IntKind.i64.wrap q2 = q2 := by
    have := tdiv_le b g; have := hb.out; rw [hq2] at *; exact IntWalk.i64_in _ ⟨by omega, by omega⟩
  rw [hq1, hq2]
  have n0 : ¬ (g = 0) := by omega
  have n1 : (g == 0) = false := by simp; omega
  have hgl := hgm.out
  clear ha hb h0 hg hgm
  obtain ⟨W0, hW0⟩ : ∃ W0, (w.alloc (.cells #[.int .i64 0, .int .i64 0] 56)) = W0 := ⟨_, rfl⟩
  have K0 : Hid (Kp w W0 [(w.heap.size, (.cells #[.int .i64 0, .int .i64 0] 56 (0, 0)))]) := Lib.hid (by
    rw [← hW0]
    have k := ((Kp.none w).alloc (.cells #[.int .i64 0, .int .i64 0] 56))
    simpa using k)
  go_enter Tryz.func76, Tryz.ntmps76
  go_upto_region 2 with (first
    | (go_at_call 101; (with_reducible refine (KD.out _).mono ?_); rintro e w1 ⟨rfl, hb⟩; have K1 := Lib.hid (Kp.call (show Kp w _ [(w.heap.size, (.cells #[.int .i64 0, .int .i64 0] 56 (0, 0)))] by first | (rw [hW0]; exact K0.out) | exact K0.out) hb); clear hb)
    | (go_at_call 75; (with_reducible refine (KS.out _).mono ?_); rintro e w2 ⟨rfl, rfl⟩))
  apply wp_region_gives 7 (fun w' => Blw w1.heap.size w1 w') [.int .i64 a, .int .i64 g, .int .i64 q1, .int .i64 b, .int .i64 g, .int .i64 q2, .agg #[.int .i64 q1, .int .i64 q2]] (by kernel_rfl) (by kernel_rfl) (by kernel_rfl) (show Below _ _ _ from (Below.refl _ _).drew)
  case haF =>
    simp [putJs, Act.put, List.range, List.range.loop]
    exact rfl
  case h =>
    simp only [List.take_succ_cons, List.take_zero, GivesL]
    clear K1
    refine ⟨?_, ?_, ?_, ?_, ?_, ?_, ?_, trivial⟩
    all_goals
      intro w1 hw1
      unfold Oper.wp
      simp only [execOp]
      go_simp <;> first
        | exact ⟨rfl, hw1⟩
  case ht =>
    intro w5 hw5
    have K5 := Lib.hid (K1.out.call (show Below _ _ _ from hw5))
    clear hw5 K1
    simp only [List.drop_succ_cons, List.drop_zero]
    obtain ⟨o0, o1⟩ := cells2 (K5.out.2 _ (.head _))
    have oz : ∀ j, w5.frozen? ⟨w.heap.size, j, none⟩ = false := fun j => frozen_of_row w5 (w.heap.size) j _ _ (K5.out.2 _ (.head _))
    have hb5 := Lib.hid (Kp.below K5.out)
    clear K5
    go_wp2_with fail
    refine bodyPost_ret (v := .agg #[.int .i64 q1, .int .i64 q2]) (by simp [results, Tryz.results76, go_sem, o0, o1]) rfl ⟨rfl, ?_⟩
    exact (hb5.out.setCell (Nat.le_refl _) _).setCell (Nat.le_refl _) _
end Go.Proofs.YtggffhmdgceljaaGreatDoor

/-
  Contract of Cosine, for two rays.
-/
namespace Go.Proofs.YtggffhmdgceljaaGreatDoor
open Go.RowKit
set_option linter.unusedVariables false
set_option linter.unusedSimpArgs false

set_option maxRecDepth 100000 in
set_option maxHeartbeats 6400000 in
theorem cosine_walk (x y z a b c d pp qq sg u v dd pq : Int) (he : rayErr x y z = 0) (hf : rayErr a b c = 0) (w : World)
    (KD : ∀ w1 : World, Calls Tryz.prog 74 #[.agg #[.int .i64 x, .int .i64 y, .int .i64 z], .agg #[.int .i64 a, .int .i64 b, .int .i64 c]] w1 fun e w' => e = .returned (.int .i64 d) ∧ Below w1.heap.size w1 w')
    (KM : ∀ w1 : World, Calls Tryz.prog 74 #[.agg #[.int .i64 x, .int .i64 y, .int .i64 z], .agg #[.int .i64 x, .int .i64 y, .int .i64 z]] w1 fun e w' => e = .returned (.int .i64 pp) ∧ Below w1.heap.size w1 w')
    (KN : ∀ w1 : World, Calls Tryz.prog 74 #[.agg #[.int .i64 a, .int .i64 b, .int .i64 c], .agg #[.int .i64 a, .int .i64 b, .int .i64 c]] w1 fun e w' => e = .returned (.int .i64 qq) ∧ Below w1.heap.size w1 w')
    (KS : ∀ w1 : World, Calls Tryz.prog 75 #[.int .i64 d] w1 fun e w' => e = .returned (.int .i64 sg) ∧ w1 = w')
    (wd : IntKind.i64.wrap (d * d) = dd) (wn : IntKind.i64.wrap (pp * qq) = pq)
    (KQ : ∀ w1 : World, Calls Tryz.prog 76 #[.int .i64 dd, .int .i64 pq] w1 fun e w' => e = .returned (.agg #[.int .i64 u, .int .i64 v]) ∧ Below w1.heap.size w1 w') :
    Calls Tryz.prog 25 #[.agg #[.int .i64 x, .int .i64 y, .int .i64 z], .agg #[.int .i64 a, .int .i64 b, .int .i64 c]] w fun e w' => e = .returned (.tuple #[.int .i64 sg, .agg #[.int .i64 u, .int .i64 v], .int .i64 0]) ∧ Below w.heap.size w w' := by
  obtain ⟨W0, hW0⟩ : ∃ W0, (((w.alloc (.cells #[.int .i64 x, .int .i64 y, .int .i64 z] 23)).alloc (.cells #[.int .i64 a, .int .i64 b, .int .i64 c] 23)).alloc (.cells #[.int .i64 0, .int .i64 0] 56)) = W0 := ⟨_, rfl⟩
  have HB0 : Hid (Below w.heap.size w W0) := Lib.hid (by rw [← hW0]; exact ((((Below.refl _ w).alloc (Nat.le_refl _) _).alloc (by simp) _).alloc (by simp; omega) _))
  have hS0 : w.heap.size < W0.heap.size := by rw [← hW0]; simp; try omega
  have a0_0 : W0.cell? ⟨w.heap.size, 0, none⟩ = some (.int .i64 x) := by rw [← hW0]; simp [go_sem]
  have a0_1 : W0.cell? ⟨w.heap.size, 1, none⟩ = some (.int .i64 y) := by rw [← hW0]; simp [go_sem]
  have a0_2 : W0.cell? ⟨w.heap.size, 2, none⟩ = some (.int .i64 z) := by rw [← hW0]; simp [go_sem]
  have hS1 : w.heap.size + 1 < W0.heap.size := by rw [← hW0]; simp; try omega
  have a1_0 : W0.cell? ⟨w.heap.size + 1, 0, none⟩ = some (.int .i64 a) := by rw [← hW0]; simp [go_sem]
  have a1_1 : W0.cell? ⟨w.heap.size + 1, 1, none⟩ = some (.int .i64 b) := by rw [← hW0]; simp [go_sem]
  have a1_2 : W0.cell? ⟨w.heap.size + 1, 2, none⟩ = some (.int .i64 c) := by rw [← hW0]; simp [go_sem]
  have hS2 : w.heap.size + 1 + 1 < W0.heap.size := by rw [← hW0]; simp; try omega
  have a2_0 : W0.cell? ⟨w.heap.size + 1 + 1, 0, none⟩ = some (.int .i64 0) := by rw [← hW0]; simp [go_sem]
  have a2_1 : W0.cell? ⟨w.heap.size + 1 + 1, 1, none⟩ = some (.int .i64 0) := by rw [← hW0]; simp [go_sem]
  have hR : Blw W0.heap.size W0 W0.drew := show Below _ _ _ from (Below.refl W0.heap.size W0).drew
  have K0 : Hid (Kp w W0 [(w.heap.size + 1 + 1, (.cells #[.int .i64 0, .int .i64 0] 56 (0, 0))), (w.heap.size + 1, (.cells #[.int .i64 a, .int .i64 b, .int .i64 c] 23 (0, 0))), (w.heap.size, (.cells #[.int .i64 x, .int .i64 y, .int .i64 z] 23 (0, 0)))]) := Lib.hid (by
    rw [← hW0]
    have k := ((((Kp.none w).alloc (.cells #[.int .i64 x, .int .i64 y, .int .i64 z] 23)).alloc (.cells #[.int .i64 a, .int .i64 b, .int .i64 c] 23)).alloc (.cells #[.int .i64 0, .int .i64 0] 56))
    simpa using k)
  have KX : Hid (∀ w1 : World, Blw W0.heap.size W0 w1 → Calls Tryz.prog 43 #[.agg #[.int .i64 x, .int .i64 y, .int .i64 z]] w1 fun e w' => e = .returned (.int .i64 0) ∧ Below W0.heap.size W0 w') := Lib.hid fun w1 hb => by
    have h := on_blw (checkRay_all x y z w1) hb
    rwa [he] at h
  have KY : Hid (∀ w1 : World, Blw W0.heap.size W0 w1 → Calls Tryz.prog 43 #[.agg #[.int .i64 a, .int .i64 b, .int .i64 c]] w1 fun e w' => e = .returned (.int .i64 0) ∧ Below W0.heap.size W0 w') := Lib.hid fun w1 hb => by
    have h := on_blw (checkRay_all a b c w1) hb
    rwa [hf] at h
  have KF : Hid (firstNZ [0, 0] = 0) := Lib.hid (by rfl)
  have HKD := Lib.hid KD
  have HKM := Lib.hid KM
  have HKN := Lib.hid KN
  have HKS := Lib.hid KS
  have HKQ := Lib.hid KQ
  clear KD KM KN KS KQ
  clear he hf
  go_enter Tryz.func25, Tryz.ntmps25
  go_upto_region 1 with fail
  try rw [hW0]
  clear hW0
  go_region_held3 (fun w' => w'.cell? ⟨w.heap.size, 0, none⟩ = some (.int .i64 x) ∧ w'.cell? ⟨w.heap.size, 1, none⟩ = some (.int .i64 y) ∧ w'.cell? ⟨w.heap.size, 2, none⟩ = some (.int .i64 z) ∧ w'.cell? ⟨w.heap.size + 1, 0, none⟩ = some (.int .i64 a) ∧ w'.cell? ⟨w.heap.size + 1, 1, none⟩ = some (.int .i64 b) ∧ w'.cell? ⟨w.heap.size + 1, 2, none⟩ = some (.int .i64 c) ∧ Blw W0.heap.size W0 w')
    (first | (go_split_ands; refine ⟨?_, ?_, ?_, ?_, ?_, ?_, ?_⟩ <;> first | (with_reducible assumption) | exact hb2 | ((rw [hb2.cell hS0]; assumption)) | ((rw [hb2.cell hS1]; assumption))) | (go_split_ands; refine ⟨?_, ?_, ?_, ?_, ?_, ?_, ?_⟩ <;> first | ((rw [(hb2.alloc hb2.size _).cell hS0]; assumption)) | ((rw [(hb2.alloc hb2.size _).cell hS1]; assumption)) | exact (hb2.alloc hb2.size _ : Below _ _ _)) | go_keep)
    (first
      | (go_at_call 43; (with_reducible refine (KX.out _ ?_).mono ?_); rotate_left 1; rintro e w2 ⟨rfl, hb2⟩; rotate_left 1; (simp [*]))
      | (go_at_call 43; (with_reducible refine (KY.out _ ?_).mono ?_); rotate_left 1; rintro e w2 ⟨rfl, hb2⟩; rotate_left 1; (simp [*]))
      | ((go_at_call 42; refine (first_any _ 0 2 2 [0, 0] rfl (by omega) _ ?_).mono ?_; rotate_left 1; rintro e w' ⟨rfl, rfl⟩; rw [KF.out]; rotate_left 1; (intro j hj; match j, hj with | 0, _ => simp [go_sem] | 1, _ => simp [go_sem]))))
  obtain ⟨w3, hw3⟩ : ∃ w3, w2.alloc (.cells #[.int .i64 0, .int .i64 0] 26) = w3 := ⟨_, rfl⟩
  have K3 : Hid (Kp w w3 [(w.heap.size + 1 + 1, (.cells #[.int .i64 0, .int .i64 0] 56 (0, 0))), (w.heap.size + 1, (.cells #[.int .i64 a, .int .i64 b, .int .i64 c] 23 (0, 0))), (w.heap.size, (.cells #[.int .i64 x, .int .i64 y, .int .i64 z] 23 (0, 0)))]) := Lib.hid (by rw [← hw3]; exact K0.out.call (hb2.alloc hb2.size _))
  rw [hw3]
  clear hw3 hb2 hR KX KY KF K0 HB0 hS0 hS1 hS2 a0_0 a0_1 a0_2 a1_0 a1_1 a1_2 a2_0 a2_1
  go_upto_region 4 with fail
  go_cut [8, 9] (fun s7 s8 wr => ∃ Bp Bq : Nat, s7 = .pointer (some ⟨Bp, 0, none⟩) ∧ s8 = .pointer (some ⟨Bq, 0, none⟩) ∧ Kp w wr [(Bp, (.cells #[.int .i64 x, .int .i64 y, .int .i64 z] 94 (0, 0))), (Bq, (.cells #[.int .i64 a, .int .i64 b, .int .i64 c] 94 (0, 0))), (w.heap.size + 1 + 1, (.cells #[.int .i64 0, .int .i64 0] 56 (0, 0))), (w.heap.size + 1, (.cells #[.int .i64 a, .int .i64 b, .int .i64 c] 23 (0, 0))), (w.heap.size, (.cells #[.int .i64 x, .int .i64 y, .int .i64 z] 23 (0, 0)))])
  case first =>
    refine two_parts (l1 := 21) (c1 := 22) (l2 := 23) (c2 := 24) (n7 := 8) (n8 := 9) (pa := 2) (pb := 3) (s := "rays.go:113") (BA := w.heap.size) (BB := w.heap.size + 1)
      (by unfold Apart6; decide) (by simp) rfl rfl (by decide) (by decide) (K3.out.2 _ (.tail _ (.tail _ (.head _)))) (K3.out.2 _ (.tail _ (.head _))) (fun Bp Bq wr hne h1 h2 hb h3 h4 => ?_)
    simp only [Act.put, List.setIfInBounds_toArray, List.set_cons_succ, List.set_cons_zero]
    rename_i hJ
    refine hJ _ _ ?_
    go_meet
    exact ⟨Bp, Bq, rfl, rfl, kp_two K3.out hb h3 h4⟩
  case rest =>
    rename_i hK
    obtain ⟨Bp, Bq, rfl, rfl, hk⟩ := hcut
    refine hK _ _ ?_
    clear hK K3
    have K4 := Lib.hid hk
    clear hk
    obtain ⟨x0, x1, x2⟩ := cells3 (K4.out.2 _ (.head _))
    obtain ⟨y0, y1, y2⟩ := cells3 (K4.out.2 _ (.tail _ (.head _)))
    go_upto_region 6 with (first
      | (go_at_call 74; (with_reducible refine (HKD.out _).mono ?_); rintro e w6 ⟨rfl, hb⟩; have K6 := Lib.hid (K4.out.call hb); clear hb))
    clear x0 x1 x2 y0 y1 y2 K4
    apply wp_region_gives 13 (fun w' => Blw w6.heap.size w6 w') [.int .i64 d, .int .i64 sg, .int .i64 d, .int .i64 d, .int .i64 dd, .agg #[.int .i64 x, .int .i64 y, .int .i64 z], .agg #[.int .i64 x, .int .i64 y, .int .i64 z], .int .i64 pp, .agg #[.int .i64 a, .int .i64 b, .int .i64 c], .agg #[.int .i64 a, .int .i64 b, .int .i64 c], .int .i64 qq, .int .i64 pq, .agg #[.int .i64 u, .int .i64 v]] (by kernel_rfl) (by kernel_rfl) (by kernel_rfl) (show Below _ _ _ from (Below.refl _ _).drew)
    case haF =>
      simp [putJs, Act.put, List.range, List.range.loop]
      exact rfl
    case h =>
      have hBx := K6.out.2 _ (.head _)
      have hBy := K6.out.2 _ (.tail _ (.head _))
      simp only [List.take_succ_cons, List.take_zero, GivesL]
      clear K6
      refine ⟨?_, ?_, ?_, ?_, ?_, ?_, ?_, ?_, ?_, ?_, ?_, ?_, ?_, trivial⟩
      all_goals
        intro w1 hw1
        obtain ⟨x_0, x_1, x_2⟩ := cells3 (((show Below _ _ _ from hw1).block _ (lt_of_blk hBx)).trans hBx)
        obtain ⟨y_0, y_1, y_2⟩ := cells3 (((show Below _ _ _ from hw1).block _ (lt_of_blk hBy)).trans hBy)
        unfold Oper.wp
        simp only [execOp]
        go_simp <;> first
          | exact ⟨rfl, hw1⟩
            | ((with_reducible refine (HKS.out _).mono ?_); rintro e w2 ⟨rfl, rfl⟩; exact ⟨rfl, hw1⟩)
          | ((with_reducible refine (HKM.out _).mono ?_); rintro e w2 ⟨rfl, hb⟩; exact ⟨rfl, below_call hb hw1⟩)
          | ((with_reducible refine (HKN.out _).mono ?_); rintro e w2 ⟨rfl, hb⟩; exact ⟨rfl, below_call hb hw1⟩)
          | ((with_reducible refine (HKQ.out _).mono ?_); rintro e w2 ⟨rfl, hb⟩; exact ⟨rfl, below_call hb hw1⟩)
    case ht =>
      intro w5 hw5
      have K5 := Lib.hid (K6.out.call (show Below _ _ _ from hw5))
      clear hw5 K6
      simp only [List.drop_succ_cons, List.drop_zero]
      obtain ⟨o0, o1⟩ := cells2 (K5.out.2 _ (.tail _ (.tail _ (.head _))))
      have oz : ∀ j, w5.frozen? ⟨w.heap.size + 1 + 1, j, none⟩ = false := fun j => frozen_of_row w5 (w.heap.size + 1 + 1) j _ _ (K5.out.2 _ (.tail _ (.tail _ (.head _))))
      have hb5 := Lib.hid (Kp.below K5.out)
      clear K5
      go_wp2_with fail
      refine bodyPost_ret (v := .tuple #[.int .i64 sg, .agg #[.int .i64 u, .int .i64 v], .int .i64 0]) (by simp [results, Tryz.results25, go_sem, o0, o1]) rfl ⟨rfl, ?_⟩
      exact (hb5.out.setCell (show w.heap.size ≤ w.heap.size + 1 + 1 by omega) _).setCell (show w.heap.size ≤ w.heap.size + 1 + 1 by omega) _
end Go.Proofs.YtggffhmdgceljaaGreatDoor

/-
  A law for a statement whose order Go leaves open, some of whose operations make blocks.
-/
namespace Go.Proofs.YtggffhmdgceljaaGreatDoor
open Go.RowKit
set_option linter.unusedVariables false
set_option linter.unusedSimpArgs false

section
variable {P : Program} {ops : Array Oper} {S : World → Prop}
def GivesM (P : Program) (S : World → Prop) (a : Act) : List Bool → List Oper → List Value → Prop
  | true :: m, _ :: r, _ :: vs => GivesM P S a m r vs
  | false :: m, o :: r, v :: vs => Gives P S o v a ∧ GivesM P S a m r vs
  | [], [], [] => True
  | _, _, _ => False
theorem GivesM.get {a : Act} : ∀ {m : List Bool} {l : List Oper} {vs : List Value}, GivesM P S a m l vs → ∀ i o, m[i]? = some false → l[i]? = some o → Gives P S o (vs.getD i undef) a
  | true :: m, p :: r, v :: vs, hg, 0, o, hi, h => by simp at hi
  | true :: m, p :: r, v :: vs, hg, i + 1, o, hi, h => by
    have := GivesM.get (show GivesM P S a m r vs from hg) i o (by simpa using hi) (by simpa using h)
    simpa using this
  | false :: m, p :: r, v :: vs, hg, 0, o, _, h => by
    have : p = o := by simpa using h
    subst this
    exact hg.1
  | false :: m, p :: r, v :: vs, hg, i + 1, o, hi, h => by
    have := GivesM.get hg.2 i o (by simpa using hi) (by simpa using h)
    simpa using this
  | [], _, _, _, _, _, hi, _ => by simp at hi
  | _ :: _, [], _, hg, _, _, _, h => by simp at h
  | true :: _, _ :: _, [], hg, _, _, _, _ => hg.elim
  | false :: _, _ :: _, [], hg, _, _, _, _ => hg.elim

theorem MadeR.fresh {wc w : World} {Z Z' : Array Value} {T T' : TypeId} {v : Value} (h : MadeR wc Z T v w) : v ≠ .pointer (some ⟨w.heap.size, 0, none⟩) := by
  obtain ⟨B, h1, h2, h3⟩ := h
  have h4 := lt_of_blk h3
  intro h5
  rw [h1] at h5
  injection h5 with h6
  injection h6 with h7
  injection h7 with h8
  omega

end
end Go.Proofs.YtggffhmdgceljaaGreatDoor

/-
  A law for a statement whose order Go leaves open, some of whose operations make blocks that others of it fill.
-/
namespace Go.Proofs.YtggffhmdgceljaaGreatDoor
open Go.RowKit
set_option linter.unusedVariables false
set_option linter.unusedSimpArgs false

section
variable {P : Program} {ops : Array Oper}

/-- As YieldsW.wpOp, where the operation leads from one kind of world to another one. -/
theorem step_wpOp {S S' : World → Prop} {i : Nat} {o : Oper} {v : Value} {a b : Act} (hi : ops[i]? = some o) (hg : o.guard = none) (h2 : ∀ w, S w → o.wp P a w (fun b w' => b = a.put o.dst v ∧ S' w') (fun _ _ _ => False)) (he : execOp b.eval o = execOp a.eval o)
    (hz : a.tmps.size = b.tmps.size)
    {Q : Exit → Act → World → Prop} {w : World} (hS : S w) : wpOp P ops Q i (fun c w' => c = b.put o.dst v ∧ S' w') b w := by
  unfold Go.wpOp
  simp only [hi]
  have h1 : Region.wanted o (yielded ops b.tmps) = true := by unfold Region.wanted; rw [hg]
  simp only [h1, if_true]
  refine .inl ?_
  have h := h2 w hS
  unfold Oper.wp at h ⊢
  rw [he]
  generalize (execOp a.eval o).run P w = r at h ⊢
  cases r with
  | ok n w' =>
    cases n <;> simp only [Oper.upon] at h ⊢
    case value u => exact ⟨put_same hz h.1, h.2⟩
    case skip => exact ⟨put_same hz h.1, h.2⟩
    case enter f args =>
      refine h.mono fun e w'' h' => ?_
      cases e with
      | returned u => exact ⟨put_same hz h'.1, h'.2⟩
      | panicked c => exact h'.elim
      | outgrown => obtain ⟨_, _, hf⟩ := h'; exact hf.elim
    case defer d =>
      exfalso
      have hd : ({ a with defers := d :: a.defers } : Act).defers = a.defers := by
        have := congrArg Act.defers h.1
        cases ho : o.dst with
        | none => rw [ho] at this; exact this
        | some x => rw [ho] at this; exact this
      have := congrArg List.length hd
      simp at this
    case row r args => exact h.mono fun u w'' h' => ⟨put_same hz h'.1, h'.2⟩
  | halt x w' => cases x <;> simp only [Oper.upon] at h

def ordB (ops : Array Oper) : Bool :=
  Region.noSelect ops &&
  ((List.range ops.size).all fun i => (List.range ops.size).all fun j => (i == j || dstB ops i j) && (lookB ops i j || (i != j && Region.waitsFor .any ops i j))) &&
  ((List.range ops.size).all fun i => match ops[i]? with
    | some o => o.guard.isNone && o.after.all fun e => !Region.binds .any e || decide (e.on < i)
    | none => false)

theorem unlisted_hd {n i : Nat} {l : Array Bool} (h : l.getD i false = false) : i ∉ hdJs n l := fun hi => by
  have h1 := (List.mem_filter.1 hi).2
  rw [h] at h1
  cases h1
theorem hdJs_set {n i : Nat} {l : Array Bool} (hs : l.size = n) (hi : i < n) (hu : l.getD i false = false) : (hdJs n l ++ [i]).Perm (hdJs n (l.setIfInBounds i true)) := by
  refine (List.perm_ext_iff_of_nodup ?_ ?_).2 fun x => ?_
  · refine List.nodup_append.2 ⟨List.nodup_range.filter _, by simp, fun x hx y hy => ?_⟩
    have hy' : y = i := by simpa using hy
    subst hy'
    intro hxy
    subst hxy
    have := (List.mem_filter.1 hx).2
    rw [hu] at this
    cases this
  · exact List.nodup_range.filter _
  · constructor
    · intro hx
      rcases List.mem_append.1 hx with hx | hx
      · have h1 := List.mem_filter.1 hx
        refine List.mem_filter.2 ⟨h1.1, ?_⟩
        rw [set_get (by omega)]
        split
        · rfl
        · exact h1.2
      · have hx' : x = i := by simpa using hx
        subst hx'
        refine List.mem_filter.2 ⟨List.mem_range.2 hi, ?_⟩
        rw [set_get (by omega), if_pos rfl]
    · intro hx
      have h1 := List.mem_filter.1 hx
      by_cases hix : i = x
      · subst hix; exact List.mem_append.2 (.inr (.head _))
      · refine List.mem_append.2 (.inl (List.mem_filter.2 ⟨h1.1, ?_⟩))
        have h2 := h1.2
        rwa [set_get (by omega), if_neg hix] at h2

/-- Where a block lies and what it holds. -/
def BlkAt (wc w : World) (v : Value) (C : Array Value) (T : TypeId) : Prop := ∃ B, v = .pointer (some ⟨B, 0, none⟩) ∧ wc.heap.size ≤ B ∧ w.heap[B]? = some (.cells C T (0, 0))

theorem wp_region_blocks {id : Nat} {Q : Exit → Act → World → Prop} {a : Act} {wc : World} {l : List Oper} (K : List (Nat × Nat)) (Z Y : Nat → Array Value) (T : Nat → TypeId) (val : Nat → Value) (hm : P.follows .mixedOrders = true) (hB : ordB l.toArray = true)
    (hK0 : ∀ p ∈ K, p.1 < l.length ∧ p.2 < l.length ∧ Region.waitsFor .any l.toArray p.2 p.1 = true)
    (hK : ∀ p ∈ K, ∀ p' ∈ K, (p.1 = p'.1 → p = p') ∧ (p.2 = p'.2 → p = p') ∧ p.1 ≠ p'.2)
    (hA : ∀ p ∈ K, ∀ o, l[p.1]? = some o → ∀ (b : Act) (w1 : World), (execOp b.eval o).run P w1 = .ok (.value (.pointer (some ⟨w1.heap.size, 0, none⟩))) (w1.alloc (.cells (Z p.1) (T p.1))))
    (hG : ∀ (V : Nat → Value) (Tt : World → Prop) (i : Nat) (o : Oper), (∀ j, j ∉ K.map Prod.fst → V j = val j) → Stable Tt → i ∉ K.map Prod.fst → i ∉ K.map Prod.snd → l[i]? = some o →
      Gives P (fun w => Blw wc.heap.size wc w ∧ Tt w) o (val i) (putJs l.toArray V (List.range l.length) a))
    (hSt : ∀ (V : Nat → Value) (p : Nat × Nat) (o : Oper) (B : Nat) (w1 : World), (∀ j, j ∉ K.map Prod.fst → V j = val j) → p ∈ K → l[p.2]? = some o → V p.1 = .pointer (some ⟨B, 0, none⟩) → Blw wc.heap.size wc w1 → wc.heap.size ≤ B → w1.heap[B]? = some (.cells (Z p.1) (T p.1) (0, 0)) →
      o.wp P (putJs l.toArray V (List.range l.length) a) w1 (fun c w' => c = (putJs l.toArray V (List.range l.length) a).put o.dst (V p.2) ∧ Blw wc.heap.size wc w' ∧ w'.heap[B]? = some (.cells (Y p.1) (T p.1) (0, 0)) ∧ ∀ B', B' ≠ B → w'.heap[B']? = w1.heap[B']?) (fun _ _ _ => False))
    (hQ : ∀ (V : Nat → Value) (w' : World), (∀ j, j ∉ K.map Prod.fst → V j = val j) → Blw wc.heap.size wc w' → (∀ p ∈ K, BlkAt wc w' (V p.1) (Y p.1) (T p.1)) → (∀ p ∈ K, ∀ p' ∈ K, p.1 ≠ p'.1 → V p.1 ≠ V p'.1) →
      Q .normal (putJs l.toArray V (List.range l.length) a) w') : (Code.region id l.toArray true).wp P Q a wc := by
  simp only [ordB, Bool.and_eq_true] at hB
  obtain ⟨⟨hsel, hab⟩, hord⟩ := hB
  obtain ⟨n, hn⟩ : ∃ n, l.length = n := ⟨_, rfl⟩
  have hN : l.toArray.size = n := by simpa using hn
  rw [hn] at hK0 hG hSt hQ
  rw [hN] at hab hord
  have hdst : ∀ i j, i < n → j < n → i ≠ j → dstB l.toArray i j = true := fun i j hi hj hij => by
    have h1 := List.all_eq_true.1 (List.all_eq_true.1 hab i (List.mem_range.2 hi)) j (List.mem_range.2 hj)
    simp only [Bool.and_eq_true, Bool.or_eq_true, beq_iff_eq] at h1
    exact h1.1.resolve_left hij
  have hlook : ∀ i j, i < n → j < n → lookB l.toArray i j = true ∨ (i ≠ j ∧ Region.waitsFor .any l.toArray i j = true) := fun i j hi hj => by
    have h1 := List.all_eq_true.1 (List.all_eq_true.1 hab i (List.mem_range.2 hi)) j (List.mem_range.2 hj)
    simp only [Bool.and_eq_true, Bool.or_eq_true, beq_iff_eq, bne_iff_ne, ne_eq] at h1
    exact h1.2
  have hbef : ∀ i o, i < n → l.toArray[i]? = some o → o.guard = none ∧ ∀ e ∈ o.after, Region.binds .any e = true → e.on < i := fun i o hi ho => by
    have h1 := List.all_eq_true.1 hord i (List.mem_range.2 hi)
    rw [ho] at h1
    simp only [Bool.and_eq_true, Option.isNone_iff_eq_none] at h1
    refine ⟨h1.1, fun e he hb => ?_⟩
    have h2 := Array.all_eq_true_iff_forall_mem.1 h1.2 e he
    rw [hb] at h2
    simpa using h2
  let I : Array Bool → Act → World → Prop := fun l' a' w' => l'.size = n ∧ ∃ V : Nat → Value, (∀ j, j ∉ K.map Prod.fst → V j = val j) ∧ a' = putJs l.toArray V (hdJs n l') a ∧ Blw wc.heap.size wc w' ∧
    (∀ p ∈ K, l'.getD p.1 false = true → BlkAt wc w' (V p.1) (if l'.getD p.2 false = true then Y p.1 else Z p.1) (T p.1)) ∧
    (∀ p ∈ K, ∀ p' ∈ K, p.1 ≠ p'.1 → l'.getD p.1 false = true → l'.getD p'.1 false = true → V p.1 ≠ V p'.1) ∧ (∀ p ∈ K, l'.getD p.2 false = true → l'.getD p.1 false = true)
  refine wp_region_any hm ?_
  refine wpAny_inv I ?_ ?_ _ _ _ _ (by simp) ⟨by simp [hN], val, fun _ _ => rfl, ?_, show Below _ _ _ from (Below.refl _ _).drew, fun p _ h0 => (by rw [getD_replicate_false] at h0; cases h0), fun p _ p' _ _ h0 => (by rw [getD_replicate_false] at h0; cases h0), fun p _ h0 => (by rw [getD_replicate_false] at h0; cases h0)⟩
  · -- the end
    rintro l' a' w' ⟨hs, V, hV, ha, hS, hb, hd, hst⟩ hr
    have hall : ∀ i, i < n → l'.getD i false = true := fun i => by
      induction i using Nat.strongRecOn with
      | _ i ih =>
        intro hi
        cases hg : l'.getD i false with
        | true => rfl
        | false =>
          exfalso
          obtain ⟨o, ho⟩ : ∃ o, l.toArray[i]? = some o := ⟨_, Array.getElem?_eq_getElem (by omega)⟩
          have : i ∈ Region.ready .any l.toArray l' := mem_ready.2 ⟨getD_in (by omega) hg, o, ho, fun e he hbd => ih _ ((hbef i o hi ho).2 e he hbd) (by have := (hbef i o hi ho).2 e he hbd; omega)⟩
          rw [hr] at this
          cases this
    have hF : hdJs n l' = List.range n := List.filter_eq_self.2 fun i hi => hall i (List.mem_range.1 hi)
    rw [ha, hF]
    exact hQ V w' hV hS (fun p hp => by
      have h1 := hb p hp (hall _ (hK0 p hp).1)
      rwa [if_pos (hall _ (hK0 p hp).2.1)] at h1) (fun p hp p' hp' hne => hd p hp p' hp' hne (hall _ (hK0 p hp).1) (hall _ (hK0 p' hp').1))
  · -- a step
    rintro l' a' w' i ⟨hs, V, hV, ha, hS, hb, hd, hst⟩ hi
    obtain ⟨hun, o, ho, hall⟩ := mem_ready.1 hi
    have huf : l'.getD i false = false := getD_both hun
    have hin : i < n := by
      rcases Nat.lt_or_ge i n with h | h
      · exact h
      · rw [Array.getElem?_eq_none (by omega)] at ho; cases ho
    have hgd := (hbef i o hin ho).1
    have ho' : l[i]? = some o := by simpa using ho
    have hw8 : ∀ j, j < n → Region.waitsFor .any l.toArray i j = true → l'.getD j false = true := fun j hj h1 => by
      obtain ⟨o', ho', e, he, hbd, hon⟩ := Region.waitsFor_spec h1
      have : o' = o := Option.some.inj (ho'.symm.trans ho)
      subst this
      have h2 := hall e he hbd
      rwa [hon] at h2
    have hput : ∀ V' : Nat → Value, (putJs l.toArray V' (hdJs n l') a).put o.dst (V' i) = putJs l.toArray V' (hdJs n (l'.setIfInBounds i true)) a := fun V' => by
      have hperm := hdJs_set hs hin huf
      have e1 : (putJs l.toArray V' (hdJs n l') a).put o.dst (V' i) = putJs l.toArray V' (hdJs n l' ++ [i]) a := by
        rw [putJs_append, putJs_cons, putJs_nil, ho]
        rfl
      rw [e1]
      refine putJs_perm hperm a fun x hx y hy hxy => ?_
      have m1 := hperm.mem_iff.1 hx
      have m2 := hperm.mem_iff.1 hy
      exact hdst x y (List.mem_range.1 (List.mem_filter.1 m1).1) (List.mem_range.1 (List.mem_filter.1 m2).1) hxy
    have hsz' : (l'.setIfInBounds i true).size = n := by simpa using hs
    have hG' : ∀ j, (l'.setIfInBounds i true).getD j false = if i = j then true else l'.getD j false := fun j => set_get (by omega)
    have hF : putJs l.toArray V (List.range n) a = putJs l.toArray V (unJs n l') a' := by
      rw [ha, ← putJs_append]
      exact (putJs_perm (hd_un_perm n l') a fun x hx y hy hxy => hdst x y (by have := (hd_un_perm n l').mem_iff.1 hx; simpa using this) (by have := (hd_un_perm n l').mem_iff.1 hy; simpa using this) hxy).symm
    have hex := exec_putJs (val := V) ho (Region.noSelect_spec hsel i o · · ho) (unJs n l') a' fun j hj => by
      have hj1 := List.mem_filter.1 hj
      have hj2 := List.mem_range.1 hj1.1
      rcases hlook i j hin hj2 with h1 | ⟨hne, h1⟩
      · exact h1
      · have h2 := hw8 j hj2 h1
        simp [h2] at hj1
    rw [← hF] at hex
    have hzz : (putJs l.toArray V (List.range n) a).tmps.size = a'.tmps.size := by rw [hF, putJs_size]
    by_cases hi1 : i ∈ K.map Prod.fst
    · obtain ⟨p, hp, rfl⟩ := List.mem_map.1 hi1
      unfold Go.wpOp
      simp only [ho]
      have hw : Region.wanted o (yielded l.toArray a'.tmps) = true := by unfold Region.wanted; rw [hgd]
      rw [hw]
      simp only [if_true]
      refine .inl ?_
      unfold Oper.wp
      rw [hA p hp o ho' a' w']
      have hS' : Below wc.heap.size wc w' := hS
      refine ⟨hsz', upd1 V p.1 (.pointer (some ⟨w'.heap.size, 0, none⟩)), fun j hj => ?_, ?_, below_allocS hS' _, fun q hq hql => ?_, fun q hq q' hq' hne hql hql' => ?_, fun q hq hql => ?_⟩
      · rw [upd1_ne _ _ (fun hji => hj (by rw [hji]; exact hi1))]
        exact hV j hj
      · have h4 := hput (upd1 V p.1 (.pointer (some ⟨w'.heap.size, 0, none⟩)))
        rw [upd1_self] at h4
        rw [← h4, ha]
        congr 1
        exact putJs_congr _ a fun j hj => by
          rw [upd1_ne _ _ (fun hji => unlisted_hd huf (by rw [← hji]; exact hj))]
      · have hq2 : p.1 ≠ q.2 := (hK p hp q hq).2.2
        rw [hG', if_neg hq2]
        by_cases hqp : q = p
        · subst hqp
          rw [upd1_self]
          have h2 : l'.getD q.2 false = false := by
            cases h3 : l'.getD q.2 false with
            | false => rfl
            | true => rw [hst q hq h3] at huf; cases huf
          rw [h2, if_neg (by decide)]
          exact ⟨_, rfl, hS'.size, blk_alloc_new _ _⟩
        · have hne : q.1 ≠ p.1 := fun h => hqp ((hK q hq p hp).1 h)
          rw [hG', if_neg (Ne.symm hne)] at hql
          rw [upd1_ne _ _ hne]
          obtain ⟨B, h1, h2, h3⟩ := hb q hq hql
          exact ⟨B, h1, h2, blk_alloc_other h3 _⟩
      · have fresh : ∀ q ∈ K, l'.getD q.1 false = true → V q.1 ≠ .pointer (some ⟨w'.heap.size, 0, none⟩) := fun q hq hl he => by
          obtain ⟨B, h1, h2, h3⟩ := hb q hq hl
          have h4 := lt_of_blk h3
          rw [h1] at he
          injection he with h6
          injection h6 with h7
          injection h7 with h8
          omega
        rw [hG'] at hql hql'
        by_cases h1 : p.1 = q.1
        · have h2 : p.1 ≠ q'.1 := fun h => hne (h1.symm.trans h)
          rw [if_neg h2] at hql'
          rw [← h1, upd1_self, upd1_ne _ _ (Ne.symm h2)]
          exact (fresh q' hq' hql').symm
        · rw [if_neg h1] at hql
          rw [upd1_ne _ _ (Ne.symm h1)]
          by_cases h2 : p.1 = q'.1
          · rw [← h2, upd1_self]
            exact fresh q hq hql
          · rw [if_neg h2] at hql'
            rw [upd1_ne _ _ (Ne.symm h2)]
            exact hd q hq q' hq' hne hql hql'
      · rw [hG', if_neg ((hK p hp q hq).2.2)] at hql
        rw [hG']
        split
        · rfl
        · exact hst q hq hql
    · by_cases hi2 : i ∈ K.map Prod.snd
      · obtain ⟨p, hp, rfl⟩ := List.mem_map.1 hi2
        have hl1 := hw8 p.1 (hK0 p hp).1 (hK0 p hp).2.2
        obtain ⟨B, h1, h2, h3⟩ := hb p hp hl1
        rw [huf, if_neg (by decide)] at h3
        refine wpOp_mono (fun c w'' hcw => ?_) (step_wpOp (S := fun w => w = w') (S' := fun w'' => Blw wc.heap.size wc w'' ∧ w''.heap[B]? = some (.cells (Y p.1) (T p.1) (0, 0)) ∧ ∀ B', B' ≠ B → w''.heap[B']? = w'.heap[B']?) (v := V p.2) ho hgd (fun w1 hw1 => by
          subst hw1
          exact hSt V p o B w1 hV hp ho' h1 hS h2 h3) hex.1.symm hzz rfl)
        obtain ⟨hc, hS'', hB1, hB2⟩ := hcw
        refine ⟨hsz', V, hV, ?_, hS'', fun q hq hql => ?_, fun q hq q' hq' hne hql hql' => ?_, fun q hq hql => ?_⟩
        · rw [hc, ha]
          exact hput V
        · by_cases hqp : q = p
          · subst hqp
            rw [hG', if_pos rfl, if_pos rfl]
            exact ⟨B, h1, h2, hB1⟩
          · have hne : q.1 ≠ p.1 := fun h => hqp ((hK q hq p hp).1 h)
            have hne2 : p.2 ≠ q.2 := fun h => hqp ((hK p hp q hq).2.1 h).symm
            have hne3 : p.2 ≠ q.1 := Ne.symm ((hK q hq p hp).2.2)
            rw [hG', if_neg hne3] at hql
            rw [hG', if_neg hne2]
            obtain ⟨B', g1, g2, g3⟩ := hb q hq hql
            refine ⟨B', g1, g2, ?_⟩
            rw [hB2 B' (fun hBB => hd q hq p hp hne hql hl1 (by rw [g1, h1, hBB]))]
            exact g3
        · have hne3 : p.2 ≠ q.1 := Ne.symm ((hK q hq p hp).2.2)
          have hne4 : p.2 ≠ q'.1 := Ne.symm ((hK q' hq' p hp).2.2)
          rw [hG', if_neg hne3] at hql
          rw [hG', if_neg hne4] at hql'
          exact hd q hq q' hq' hne hql hql'
        · rw [hG']
          split
          · rfl
          · rw [hG'] at hql
            by_cases hqp : p.2 = q.2
            · rw [← (hK p hp q hq).2.1 hqp]; exact hl1
            · rw [if_neg hqp] at hql
              exact hst q hq hql
      · let Tt : World → Prop := fun w => ∀ p ∈ K, l'.getD p.1 false = true → BlkAt wc w (V p.1) (if l'.getD p.2 false = true then Y p.1 else Z p.1) (T p.1)
        have hTt : Stable Tt := fun w w1 h1 h2 p hp hl => by
          obtain ⟨B, g1, g2, g3⟩ := h1 p hp hl
          exact ⟨B, g1, g2, (h2.block _ (lt_of_blk g3)).trans g3⟩
        have hne1 : ∀ q ∈ K, i ≠ q.1 := fun q hq h => hi1 (by rw [h]; exact List.mem_map.2 ⟨q, hq, rfl⟩)
        have hne2 : ∀ q ∈ K, i ≠ q.2 := fun q hq h => hi2 (by rw [h]; exact List.mem_map.2 ⟨q, hq, rfl⟩)
        refine wpOp_mono (fun c w'' hcw => ?_) (step_wpOp (S := fun w => Blw wc.heap.size wc w ∧ Tt w) (S' := fun w => Blw wc.heap.size wc w ∧ Tt w) (v := val i) ho hgd (hG V Tt i o hV hTt hi1 hi2 ho') hex.1.symm hzz ⟨hS, hb⟩)
        obtain ⟨hc, hS'', hT''⟩ := hcw
        refine ⟨hsz', V, hV, ?_, hS'', fun q hq hql => ?_, fun q hq q' hq' hne hql hql' => ?_, fun q hq hql => ?_⟩
        · have h4 := hput V
          rw [hV i hi1] at h4
          rw [hc, ha, h4]
        · rw [hG', if_neg (hne1 q hq)] at hql
          rw [hG', if_neg (hne2 q hq)]
          exact hT'' q hq hql
        · rw [hG', if_neg (hne1 q hq)] at hql
          rw [hG', if_neg (hne1 q' hq')] at hql'
          exact hd q hq q' hq' hne hql hql'
        · rw [hG', if_neg (hne2 q hq)] at hql
          rw [hG', if_neg (hne1 q hq)]
          exact hst q hq hql
  · have : hdJs n (Array.replicate l.toArray.size false) = [] := List.filter_eq_nil_iff.2 fun i _ => by rw [getD_replicate_false]; simp
    rw [this]
    rfl
theorem oper_mono {o : Oper} {a : Act} {w : World} {K K' : Act → World → Prop} (h : ∀ c w', K c w' → K' c w') (k : o.wp P a w K (fun _ _ _ => False)) : o.wp P a w K' (fun _ _ _ => False) := by
  unfold Oper.wp at k ⊢
  generalize (execOp a.eval o).run P w = r at k ⊢
  cases r with
  | ok n w' =>
    cases n <;> simp only [Oper.upon] at k ⊢
    case value u => exact h _ _ k
    case skip => exact h _ _ k
    case enter f args =>
      refine k.mono fun e w'' h' => ?_
      cases e with
      | returned u => exact h _ _ h'
      | panicked c => exact h'.elim
      | outgrown => obtain ⟨_, _, hf⟩ := h'; exact hf.elim
    case defer d => exact h _ _ k
    case row r args => exact k.mono fun u w'' h' => h _ _ h'
  | halt x w' => cases x <;> simp only [Oper.upon] at k

/-- Two blocks of three cells are made, and filled. -/
theorem wp_region_put2 {id : Nat} {Q : Exit → Act → World → Prop} {a : Act} {aF : Value → Value → Act} {wc : World} {l : List Oper} (k1 s1 k2 s2 : Nat) (m : List Bool) (c0 c1 c2 d0 d1 d2 x0 x1 x2 y0 y1 y2 : Value) (T1 T2 : TypeId) (vals : List Value) (o1 o2 p1 p2 : Oper)
    (hm : P.follows .mixedOrders = true) (hB : ordB l.toArray = true)
    (hK : (k1 < l.length ∧ s1 < l.length ∧ k2 < l.length ∧ s2 < l.length) ∧ (k1 ≠ k2 ∧ s1 ≠ s2 ∧ k1 ≠ s1 ∧ k1 ≠ s2 ∧ k2 ≠ s1 ∧ k2 ≠ s2) ∧ m = (List.range l.length).map fun i => i == k1 || i == k2 || i == s1 || i == s2)
    (hW : Region.waitsFor .any l.toArray s1 k1 = true ∧ Region.waitsFor .any l.toArray s2 k2 = true)
    (ho1 : l[k1]? = some o1) (ho2 : l[k2]? = some o2) (hp1 : l[s1]? = some p1) (hp2 : l[s2]? = some p2) (hd1 : p1.dst = none) (hd2 : p2.dst = none)
    (hz1 : ∀ (b : Act) (w1 : World), (execOp b.eval o1).run P w1 = .ok (.value (.pointer (some ⟨w1.heap.size, 0, none⟩))) (w1.alloc (.cells #[c0, c1, c2] T1)))
    (hz2 : ∀ (b : Act) (w1 : World), (execOp b.eval o2).run P w1 = .ok (.value (.pointer (some ⟨w1.heap.size, 0, none⟩))) (w1.alloc (.cells #[d0, d1, d2] T2)))
    (haF : ∀ u v, putJs l.toArray (upd1 (upd1 (fun i => vals.getD i undef) k1 u) k2 v) (List.range l.length) a = aF u v)
    (hG : ∀ u v Tt, Stable Tt → GivesM P (fun w => Blw wc.heap.size wc w ∧ Tt w) (aF u v) m l vals)
    (hS1 : ∀ B v w1, w1.heap[B]? = some (.cells #[c0, c1, c2] T1 (0, 0)) → p1.wp P (aF (.pointer (some ⟨B, 0, none⟩)) v) w1 (fun c w' => c = aF (.pointer (some ⟨B, 0, none⟩)) v ∧ w' = put3 w1 B x0 x1 x2) (fun _ _ _ => False))
    (hS2 : ∀ u B w1, w1.heap[B]? = some (.cells #[d0, d1, d2] T2 (0, 0)) → p2.wp P (aF u (.pointer (some ⟨B, 0, none⟩))) w1 (fun c w' => c = aF u (.pointer (some ⟨B, 0, none⟩)) ∧ w' = put3 w1 B y0 y1 y2) (fun _ _ _ => False))
    (hQ : ∀ B1 B2 w', B1 ≠ B2 → wc.heap.size ≤ B1 → wc.heap.size ≤ B2 → Blw wc.heap.size wc w' → w'.heap[B1]? = some (.cells #[x0, x1, x2] T1 (0, 0)) → w'.heap[B2]? = some (.cells #[y0, y1, y2] T2 (0, 0)) →
      Q .normal (aF (.pointer (some ⟨B1, 0, none⟩)) (.pointer (some ⟨B2, 0, none⟩))) w') : (Code.region id l.toArray true).wp P Q a wc := by
  obtain ⟨⟨b1, b2, b3, b4⟩, ⟨n1, n2, n3, n4, n5, n6⟩, hmm⟩ := hK
  have hV : ∀ V : Nat → Value, (∀ j, j ∉ [(k1, s1), (k2, s2)].map Prod.fst → V j = vals.getD j undef) → putJs l.toArray V (List.range l.length) a = aF (V k1) (V k2) := fun V hV => by
    rw [← haF]
    refine putJs_congr _ a fun j _ => ?_
    by_cases h2 : j = k2
    · subst h2; rw [upd1_self]
    · rw [upd1_ne _ _ h2]
      by_cases h1 : j = k1
      · subst h1; rw [upd1_self]
      · rw [upd1_ne _ _ h1]
        exact hV j (by simp [h1, h2])
  have e1 : (if k2 = k1 then (#[c0, c1, c2] : Array Value) else #[d0, d1, d2]) = #[d0, d1, d2] := if_neg (Ne.symm n1)
  have e2 : (if k2 = k1 then (#[x0, x1, x2] : Array Value) else #[y0, y1, y2]) = #[y0, y1, y2] := if_neg (Ne.symm n1)
  have e3 : (if k2 = k1 then T1 else T2) = T2 := if_neg (Ne.symm n1)
  have f1 : (if k1 = k1 then (#[c0, c1, c2] : Array Value) else #[d0, d1, d2]) = #[c0, c1, c2] := if_pos rfl
  have f2 : (if k1 = k1 then (#[x0, x1, x2] : Array Value) else #[y0, y1, y2]) = #[x0, x1, x2] := if_pos rfl
  have f3 : (if k1 = k1 then T1 else T2) = T1 := if_pos rfl
  have put : ∀ {w1 : World} {B : Nat} {T : TypeId} {c0 c1 c2 : Value} (x0 x1 x2 : Value), Blw wc.heap.size wc w1 → wc.heap.size ≤ B → w1.heap[B]? = some (.cells #[c0, c1, c2] T (0, 0)) →
      Blw wc.heap.size wc (put3 w1 B x0 x1 x2) ∧ (put3 w1 B x0 x1 x2).heap[B]? = some (.cells #[x0, x1, x2] T (0, 0)) ∧ ∀ B', B' ≠ B → (put3 w1 B x0 x1 x2).heap[B']? = w1.heap[B']? := fun {w1 B T c0 c1 c2} x0 x1 x2 h1 h2 h3 =>
    ⟨show Below _ _ _ from put3_below (show Below _ _ _ from h1) h2 _ _ _, put3_self h3 _ _ _, fun B' hB' => put3_other _ hB' _ _ _⟩
  refine wp_region_blocks [(k1, s1), (k2, s2)] (fun i => if i = k1 then #[c0, c1, c2] else #[d0, d1, d2]) (fun i => if i = k1 then #[x0, x1, x2] else #[y0, y1, y2]) (fun i => if i = k1 then T1 else T2) (fun i => vals.getD i undef) hm hB ?_ ?_ ?_ ?_ ?_ ?_
  · intro p hp
    rcases (show p = (k1, s1) ∨ p = (k2, s2) by simpa using hp) with rfl | rfl
    · exact ⟨b1, b2, hW.1⟩
    · exact ⟨b3, b4, hW.2⟩
  · intro p hp q hq
    rcases (show p = (k1, s1) ∨ p = (k2, s2) by simpa using hp) with rfl | rfl <;> rcases (show q = (k1, s1) ∨ q = (k2, s2) by simpa using hq) with rfl | rfl
    · exact ⟨fun _ => rfl, fun _ => rfl, n3⟩
    · exact ⟨fun h => absurd h n1, fun h => absurd h n2, n4⟩
    · exact ⟨fun h => absurd h (Ne.symm n1), fun h => absurd h (Ne.symm n2), n5⟩
    · exact ⟨fun _ => rfl, fun _ => rfl, n6⟩
  · intro p hp o ho b w1
    rcases (show p = (k1, s1) ∨ p = (k2, s2) by simpa using hp) with rfl | rfl
    · obtain rfl : o1 = o := Option.some.inj (ho1.symm.trans ho)
      simp only [f1, f3]
      exact hz1 b w1
    · obtain rfl : o2 = o := Option.some.inj (ho2.symm.trans ho)
      simp only [e1, e3]
      exact hz2 b w1
  · intro V Tt i o hV' hT hi1 hi2 ho
    rw [hV V hV']
    have hin : i < l.length := by
      rcases Nat.lt_or_ge i l.length with h | h
      · exact h
      · rw [List.getElem?_eq_none h] at ho; cases ho
    refine (hG (V k1) (V k2) Tt hT).get i o ?_ ho
    rw [hmm, List.getElem?_map, List.getElem?_range hin]
    simp at hi1 hi2
    simp [hi1, hi2]
  · intro V p o B w1 hV' hp ho hv hS hB' hb
    rcases (show p = (k1, s1) ∨ p = (k2, s2) by simpa using hp) with rfl | rfl
    · obtain rfl : p1 = o := Option.some.inj (hp1.symm.trans ho)
      simp only [f1, f2, f3] at hb ⊢
      rw [hV V hV', show V k1 = _ from hv, hd1]
      have h := hS1 B (V k2) w1 hb
      have h4 := put x0 x1 x2 hS hB' hb
      exact oper_mono (fun c w' h => ⟨h.1, by rw [h.2]; exact h4.1, by rw [h.2]; exact h4.2.1, by rw [h.2]; exact h4.2.2⟩) h
    · obtain rfl : p2 = o := Option.some.inj (hp2.symm.trans ho)
      simp only [e1, e2, e3] at hb ⊢
      rw [hV V hV', show V k2 = _ from hv, hd2]
      have h := hS2 (V k1) B w1 hb
      have h4 := put y0 y1 y2 hS hB' hb
      exact oper_mono (fun c w' h => ⟨h.1, by rw [h.2]; exact h4.1, by rw [h.2]; exact h4.2.1, by rw [h.2]; exact h4.2.2⟩) h
  · intro V w' hV' hS hb hne
    rw [hV V hV']
    obtain ⟨B1, g1, g2, g3⟩ := hb (k1, s1) (by simp)
    obtain ⟨B2, q1, q2, q3⟩ := hb (k2, s2) (by simp)
    have h5 := hne (k1, s1) (by simp) (k2, s2) (by simp) n1
    simp only [f2, f3] at g3
    simp only [e2, e3] at q3
    simp only at g1 q1 h5
    rw [g1, q1] at h5 ⊢
    exact hQ B1 B2 w' (fun h => h5 (by rw [h])) g2 q2 hS g3 q3
end
end Go.Proofs.YtggffhmdgceljaaGreatDoor

/-
  A law for a statement whose order Go leaves open, some of whose operations fill blocks that are there.
-/
namespace Go.Proofs.YtggffhmdgceljaaGreatDoor
open Go.RowKit
set_option linter.unusedVariables false
set_option linter.unusedSimpArgs false

section
variable {P : Program} {ops : Array Oper}
/-- As wp_region_blocks, where blocks that are there already are filled: F names the stores and the blocks. -/
theorem wp_region_fills {id : Nat} {Q : Exit → Act → World → Prop} {a : Act} {wb wc : World} {l : List Oper} (F : List (Nat × Nat)) (Z Y : Nat → Array Value) (T : Nat → TypeId) (val : Nat → Value) (hm : P.follows .mixedOrders = true) (hB : ordB l.toArray = true)
    (hF0 : ∀ p ∈ F, p.1 < l.length ∧ wb.heap.size ≤ p.2 ∧ wc.heap[p.2]? = some (.cells (Z p.1) (T p.1) (0, 0)))
    (hF : ∀ p ∈ F, ∀ p' ∈ F, (p.1 = p'.1 → p = p') ∧ (p.2 = p'.2 → p = p'))
    (hW : Blw wb.heap.size wb wc)
    (hG : ∀ (Tt : World → Prop) (i : Nat) (o : Oper), Stable Tt → i ∉ F.map Prod.fst → l[i]? = some o → Gives P (fun w => Blw wb.heap.size wb w ∧ Tt w) o (val i) (putJs l.toArray val (List.range l.length) a))
    (hSt : ∀ (p : Nat × Nat) (o : Oper) (w1 : World), p ∈ F → l[p.1]? = some o → Blw wb.heap.size wb w1 → w1.heap[p.2]? = some (.cells (Z p.1) (T p.1) (0, 0)) →
      o.wp P (putJs l.toArray val (List.range l.length) a) w1 (fun c w' => c = (putJs l.toArray val (List.range l.length) a).put o.dst (val p.1) ∧ Blw wb.heap.size wb w' ∧ w'.heap[p.2]? = some (.cells (Y p.1) (T p.1) (0, 0)) ∧ ∀ B', B' ≠ p.2 → w'.heap[B']? = w1.heap[B']?) (fun _ _ _ => False))
    (hQ : ∀ (w' : World), Blw wb.heap.size wb w' → (∀ p ∈ F, w'.heap[p.2]? = some (.cells (Y p.1) (T p.1) (0, 0))) → Q .normal (putJs l.toArray val (List.range l.length) a) w') : (Code.region id l.toArray true).wp P Q a wc := by
  simp only [ordB, Bool.and_eq_true] at hB
  obtain ⟨⟨hsel, hab⟩, hord⟩ := hB
  obtain ⟨n, hn⟩ : ∃ n, l.length = n := ⟨_, rfl⟩
  have hN : l.toArray.size = n := by simpa using hn
  rw [hn] at hF0 hG hSt hQ
  rw [hN] at hab hord
  have hdst : ∀ i j, i < n → j < n → i ≠ j → dstB l.toArray i j = true := fun i j hi hj hij => by
    have h1 := List.all_eq_true.1 (List.all_eq_true.1 hab i (List.mem_range.2 hi)) j (List.mem_range.2 hj)
    simp only [Bool.and_eq_true, Bool.or_eq_true, beq_iff_eq] at h1
    exact h1.1.resolve_left hij
  have hlook : ∀ i j, i < n → j < n → lookB l.toArray i j = true ∨ (i ≠ j ∧ Region.waitsFor .any l.toArray i j = true) := fun i j hi hj => by
    have h1 := List.all_eq_true.1 (List.all_eq_true.1 hab i (List.mem_range.2 hi)) j (List.mem_range.2 hj)
    simp only [Bool.and_eq_true, Bool.or_eq_true, beq_iff_eq, bne_iff_ne, ne_eq] at h1
    exact h1.2
  have hbef : ∀ i o, i < n → l.toArray[i]? = some o → o.guard = none ∧ ∀ e ∈ o.after, Region.binds .any e = true → e.on < i := fun i o hi ho => by
    have h1 := List.all_eq_true.1 hord i (List.mem_range.2 hi)
    rw [ho] at h1
    simp only [Bool.and_eq_true, Option.isNone_iff_eq_none] at h1
    refine ⟨h1.1, fun e he hb => ?_⟩
    have h2 := Array.all_eq_true_iff_forall_mem.1 h1.2 e he
    rw [hb] at h2
    simpa using h2
  have aF := putJs l.toArray val (List.range n) a
  let I : Array Bool → Act → World → Prop := fun l' a' w' => l'.size = n ∧ a' = putJs l.toArray val (hdJs n l') a ∧ Blw wb.heap.size wb w' ∧
    (∀ p ∈ F, w'.heap[p.2]? = some (.cells (if l'.getD p.1 false = true then Y p.1 else Z p.1) (T p.1) (0, 0)))
  refine wp_region_any hm ?_
  refine wpAny_inv I ?_ ?_ _ _ _ _ (by simp) ⟨by simp [hN], ?_, show Below _ _ _ from (show Below _ _ _ from hW).drew, fun p hp => ?_⟩
  · -- the end
    rintro l' a' w' ⟨hs, ha, hS, hb⟩ hr
    have hall : ∀ i, i < n → l'.getD i false = true := fun i => by
      induction i using Nat.strongRecOn with
      | _ i ih =>
        intro hi
        cases hg : l'.getD i false with
        | true => rfl
        | false =>
          exfalso
          obtain ⟨o, ho⟩ : ∃ o, l.toArray[i]? = some o := ⟨_, Array.getElem?_eq_getElem (by omega)⟩
          have : i ∈ Region.ready .any l.toArray l' := mem_ready.2 ⟨getD_in (by omega) hg, o, ho, fun e he hbd => ih _ ((hbef i o hi ho).2 e he hbd) (by have := (hbef i o hi ho).2 e he hbd; omega)⟩
          rw [hr] at this
          cases this
    have hF1 : hdJs n l' = List.range n := List.filter_eq_self.2 fun i hi => hall i (List.mem_range.1 hi)
    rw [ha, hF1]
    exact hQ w' hS (fun p hp => by
      have h1 := hb p hp
      rwa [if_pos (hall _ (hF0 p hp).1)] at h1)
  · -- a step
    rintro l' a' w' i ⟨hs, ha, hS, hb⟩ hi
    obtain ⟨hun, o, ho, hall⟩ := mem_ready.1 hi
    have huf : l'.getD i false = false := getD_both hun
    have hin : i < n := by
      rcases Nat.lt_or_ge i n with h | h
      · exact h
      · rw [Array.getElem?_eq_none (by omega)] at ho; cases ho
    have hgd := (hbef i o hin ho).1
    have ho' : l[i]? = some o := by simpa using ho
    have hw8 : ∀ j, j < n → Region.waitsFor .any l.toArray i j = true → l'.getD j false = true := fun j hj h1 => by
      obtain ⟨o', ho', e, he, hbd, hon⟩ := Region.waitsFor_spec h1
      have : o' = o := Option.some.inj (ho'.symm.trans ho)
      subst this
      have h2 := hall e he hbd
      rwa [hon] at h2
    have hput : (putJs l.toArray val (hdJs n l') a).put o.dst (val i) = putJs l.toArray val (hdJs n (l'.setIfInBounds i true)) a := by
      have hperm := hdJs_set hs hin huf
      have e1 : (putJs l.toArray val (hdJs n l') a).put o.dst (val i) = putJs l.toArray val (hdJs n l' ++ [i]) a := by
        rw [putJs_append, putJs_cons, putJs_nil, ho]
        rfl
      rw [e1]
      refine putJs_perm hperm a fun x hx y hy hxy => ?_
      have m1 := hperm.mem_iff.1 hx
      have m2 := hperm.mem_iff.1 hy
      exact hdst x y (List.mem_range.1 (List.mem_filter.1 m1).1) (List.mem_range.1 (List.mem_filter.1 m2).1) hxy
    have hsz' : (l'.setIfInBounds i true).size = n := by simpa using hs
    have hG' : ∀ j, (l'.setIfInBounds i true).getD j false = if i = j then true else l'.getD j false := fun j => set_get (by omega)
    have hFr : putJs l.toArray val (List.range n) a = putJs l.toArray val (unJs n l') a' := by
      rw [ha, ← putJs_append]
      exact (putJs_perm (hd_un_perm n l') a fun x hx y hy hxy => hdst x y (by have := (hd_un_perm n l').mem_iff.1 hx; simpa using this) (by have := (hd_un_perm n l').mem_iff.1 hy; simpa using this) hxy).symm
    have hex := exec_putJs (val := val) ho (Region.noSelect_spec hsel i o · · ho) (unJs n l') a' fun j hj => by
      have hj1 := List.mem_filter.1 hj
      have hj2 := List.mem_range.1 hj1.1
      rcases hlook i j hin hj2 with h1 | ⟨hne, h1⟩
      · exact h1
      · have h2 := hw8 j hj2 h1
        simp [h2] at hj1
    rw [← hFr] at hex
    have hzz : (putJs l.toArray val (List.range n) a).tmps.size = a'.tmps.size := by rw [hFr, putJs_size]
    by_cases hi2 : i ∈ F.map Prod.fst
    · obtain ⟨p, hp, rfl⟩ := List.mem_map.1 hi2
      have h3 := hb p hp
      rw [huf, if_neg (by decide)] at h3
      refine wpOp_mono (fun c w'' hcw => ?_) (step_wpOp (S := fun w => w = w') (S' := fun w'' => Blw wb.heap.size wb w'' ∧ w''.heap[p.2]? = some (.cells (Y p.1) (T p.1) (0, 0)) ∧ ∀ B', B' ≠ p.2 → w''.heap[B']? = w'.heap[B']?) (v := val p.1) ho hgd (fun w1 hw1 => by
        subst hw1
        exact hSt p o w1 hp ho' hS h3) hex.1.symm hzz rfl)
      obtain ⟨hc, hS'', hB1, hB2⟩ := hcw
      refine ⟨hsz', ?_, hS'', fun q hq => ?_⟩
      · rw [hc, ha]
        exact hput
      · by_cases hqp : q = p
        · subst hqp
          rw [hG', if_pos rfl, if_pos rfl]
          exact hB1
        · have hne : p.1 ≠ q.1 := fun h => hqp ((hF p hp q hq).1 h).symm
          have hne2 : q.2 ≠ p.2 := fun h => hqp ((hF q hq p hp).2 h)
          rw [hG', if_neg hne, hB2 _ hne2]
          exact hb q hq
    · let Tt : World → Prop := fun w => ∀ p ∈ F, w.heap[p.2]? = some (.cells (if l'.getD p.1 false = true then Y p.1 else Z p.1) (T p.1) (0, 0))
      have hTt : Stable Tt := fun w w1 h1 h2 p hp => by
        have g3 := h1 p hp
        exact (h2.block _ (lt_of_blk g3)).trans g3
      have hne2 : ∀ q ∈ F, i ≠ q.1 := fun q hq h => hi2 (by rw [h]; exact List.mem_map.2 ⟨q, hq, rfl⟩)
      refine wpOp_mono (fun c w'' hcw => ?_) (step_wpOp (S := fun w => Blw wb.heap.size wb w ∧ Tt w) (S' := fun w => Blw wb.heap.size wb w ∧ Tt w) (v := val i) ho hgd (hG Tt i o hTt hi2 ho') hex.1.symm hzz ⟨hS, hb⟩)
      obtain ⟨hc, hS'', hT''⟩ := hcw
      refine ⟨hsz', ?_, hS'', fun q hq => ?_⟩
      · rw [hc, ha, hput]
      · rw [hG', if_neg (hne2 q hq)]
        exact hT'' q hq
  · have : hdJs n (Array.replicate l.toArray.size false) = [] := List.filter_eq_nil_iff.2 fun i _ => by rw [getD_replicate_false]; simp
    rw [this]
    rfl
  · rw [getD_replicate_false, if_neg (by decide)]
    have h1 := (hF0 p hp).2.2
    have h2 : Below wc.heap.size wc wc.drew := (Below.refl _ _).drew
    exact (h2.block _ (lt_of_blk h1)).trans h1

/-- Two blocks that are there are filled, the rest gives values. -/
theorem wp_region_fill2 {id : Nat} {Q : Exit → Act → World → Prop} {a aF : Act} {wb wc : World} {l : List Oper} (s1 s2 B1 B2 : Nat) (m : List Bool) (Z1 Z2 Y1 Y2 : Array Value) (T1 T2 : TypeId) (vals : List Value) (p1 p2 : Oper) (hm : P.follows .mixedOrders = true) (hB : ordB l.toArray = true)
    (hs : s1 < l.length ∧ s2 < l.length ∧ s1 ≠ s2 ∧ m = (List.range l.length).map fun i => i == s1 || i == s2) (hp1 : l[s1]? = some p1) (hp2 : l[s2]? = some p2) (hd1 : p1.dst = none) (hd2 : p2.dst = none)
    (hne : B1 ≠ B2) (hb1 : wb.heap.size ≤ B1) (hb2 : wb.heap.size ≤ B2) (hz1 : wc.heap[B1]? = some (.cells Z1 T1 (0, 0))) (hz2 : wc.heap[B2]? = some (.cells Z2 T2 (0, 0))) (hW : Blw wb.heap.size wb wc)
    (haF : putJs l.toArray (fun i => vals.getD i undef) (List.range l.length) a = aF)
    (hG : ∀ Tt, Stable Tt → GivesM P (fun w => Blw wb.heap.size wb w ∧ Tt w) aF m l vals)
    (hS1 : ∀ w1, w1.heap[B1]? = some (.cells Z1 T1 (0, 0)) → Blw wb.heap.size wb w1 → p1.wp P aF w1 (fun c w' => c = aF ∧ Blw wb.heap.size wb w' ∧ w'.heap[B1]? = some (.cells Y1 T1 (0, 0)) ∧ ∀ B', B' ≠ B1 → w'.heap[B']? = w1.heap[B']?) (fun _ _ _ => False))
    (hS2 : ∀ w1, w1.heap[B2]? = some (.cells Z2 T2 (0, 0)) → Blw wb.heap.size wb w1 → p2.wp P aF w1 (fun c w' => c = aF ∧ Blw wb.heap.size wb w' ∧ w'.heap[B2]? = some (.cells Y2 T2 (0, 0)) ∧ ∀ B', B' ≠ B2 → w'.heap[B']? = w1.heap[B']?) (fun _ _ _ => False))
    (hQ : ∀ w', Blw wb.heap.size wb w' → w'.heap[B1]? = some (.cells Y1 T1 (0, 0)) → w'.heap[B2]? = some (.cells Y2 T2 (0, 0)) → Q .normal aF w') : (Code.region id l.toArray true).wp P Q a wc := by
  obtain ⟨b1, b2, n1, hmm⟩ := hs
  refine wp_region_fills [(s1, B1), (s2, B2)] (fun i => if i = s1 then Z1 else Z2) (fun i => if i = s1 then Y1 else Y2) (fun i => if i = s1 then T1 else T2) (fun i => vals.getD i undef) hm hB ?_ ?_ hW ?_ ?_ ?_
  · intro p hp
    rcases (show p = (s1, B1) ∨ p = (s2, B2) by simpa using hp) with rfl | rfl
    · simp only [if_true]
      exact ⟨b1, hb1, hz1⟩
    · simp only [if_neg (Ne.symm n1)]
      exact ⟨b2, hb2, hz2⟩
  · intro p hp q hq
    rcases (show p = (s1, B1) ∨ p = (s2, B2) by simpa using hp) with rfl | rfl <;> rcases (show q = (s1, B1) ∨ q = (s2, B2) by simpa using hq) with rfl | rfl
    · exact ⟨fun _ => rfl, fun _ => rfl⟩
    · exact ⟨fun h => absurd h n1, fun h => absurd h hne⟩
    · exact ⟨fun h => absurd h (Ne.symm n1), fun h => absurd h (Ne.symm hne)⟩
    · exact ⟨fun _ => rfl, fun _ => rfl⟩
  · intro Tt i o hT hi1 ho
    rw [haF]
    have hin : i < l.length := by
      rcases Nat.lt_or_ge i l.length with h | h
      · exact h
      · rw [List.getElem?_eq_none h] at ho; cases ho
    refine (hG Tt hT).get i o ?_ ho
    rw [hmm, List.getElem?_map, List.getElem?_range hin]
    simp at hi1
    simp [hi1]
  · intro p o w1 hp ho hS hb
    rw [haF]
    rcases (show p = (s1, B1) ∨ p = (s2, B2) by simpa using hp) with rfl | rfl
    · obtain rfl : p1 = o := Option.some.inj (hp1.symm.trans ho)
      simp only [if_true] at hb ⊢
      rw [hd1]
      exact hS1 w1 hb hS
    · obtain rfl : p2 = o := Option.some.inj (hp2.symm.trans ho)
      simp only [if_neg (Ne.symm n1)] at hb ⊢
      rw [hd2]
      exact hS2 w1 hb hS
  · intro w' hS hb
    rw [haF]
    have g1 := hb (s1, B1) (by simp)
    have g2 := hb (s2, B2) (by simp)
    simp only [if_true] at g1
    simp only [if_neg (Ne.symm n1)] at g2
    exact hQ w' hS g1 g2
end
end Go.Proofs.YtggffhmdgceljaaGreatDoor

/-
  Contract of Whole, for four integers up to 32, not all 0.
-/
namespace Go.Proofs.YtggffhmdgceljaaGreatDoor
open Go.RowKit
set_option linter.unusedVariables false
set_option linter.unusedSimpArgs false

set_option maxHeartbeats 400000 in
theorem roots1 (n v : Int) (h : rangeErr n (-32) 32 = v) (w : World) :
    Calls Tryz.prog 66 #[.int .i64 n] w fun e w' => e = .returned (.int .i64 v) ∧ w = w' := by
  have K := Lib.hid (checkRange_any n (-32) 32 w)
  rw [h] at K
  clear h
  go_enter Tryz.func66, Tryz.ntmps66
  go_wp2_with (go_at_call 54; (with_reducible refine K.out.mono ?_); rintro e w' ⟨rfl, rfl⟩)
  go_ret
  exact ⟨rfl, rfl⟩

set_option maxHeartbeats 2000000 in
set_option maxRecDepth 100000 in
theorem mapped_roots {w : World} (b o n c : Nat) (xs : List Int) (ks : List Int) (hx : xs.length = n) (hk : ks.length = n) (hn : n ≤ 4096) (hb : b < w.heap.size)
    (hc : ∀ j, j < n → w.cell? ⟨b, o + j, none⟩ = some (.int .i64 (xs[j]?.getD 0))) (hs : ∀ j, j < n → rangeErr (xs[j]?.getD 0) (-32) 32 = ks[j]?.getD 0) :
    Calls Tryz.prog 65 #[.slice (some ⟨b, o, none⟩) n c, .func (.func 66) #[] #[]] w fun e w' =>
      e = .returned (.slice (some ⟨w.heap.size, 0, none⟩) n n) ∧ w'.ownsRow w.heap.size 26 1 (.slice (some ⟨w.heap.size, 0, none⟩) n n) n (ks.map (Value.int .i64)) ∧ Below w.heap.size w w' := by
  obtain ⟨i0, hi, hz0, hz1, hz2⟩ := info_parts Tryz.info26_check
  have Hx := Lib.hid hx
  have Hk := Lib.hid hk
  have Hc := Lib.hid hc
  have Hs := Lib.hid hs
  clear hx hk hc hs
  go_enter Tryz.func65, Tryz.ntmps65
  go_wp2_with (at_make; refine wpList_make_own _ rfl _ _ 119 rfl w.heap.size 26 i0 (.int .i64 0) 1 Tryz.underlying119 hi hz0 hz1 _ _ _ n rfl rfl (by omega) ?b2 ?b3 (Nat.le_refl _) ?_)
  case b2 => rw [hz2]; omega
  case b3 => unfold maxLen; omega
  intro w0 hown0 hgrow0
  go_wp2
  go_loopw [5, 13] (fun out i wr => ∃ k : Nat, k ≤ n ∧ i = .int .i64 k ∧ out = .slice (some ⟨w.heap.size, 0, none⟩) k n ∧
      wr.ownsRow w.heap.size 26 1 (.slice (some ⟨w.heap.size, 0, none⟩) k n) k ((ks.take k).map (Value.int .i64)) ∧ Below w.heap.size w wr)
    (fun _ i _ => n - (intOf i).toNat)
  case atStart => exact ⟨0, Nat.zero_le _, rfl, rfl, hown0, (Below.refl _ _).grown hgrow0 (Nat.le_refl _) (fun k h => by cases h)⟩
  case round =>
    obtain ⟨k, hk, rfl, rfl, hown, hnx⟩ := hrel
    by_cases hlt : k < n
    · have hcell : wr.cell? ⟨b, o + k, none⟩ = some (.int .i64 (xs[k]?.getD 0)) := (hnx.cell (by exact hb)).trans (Hc.out k hlt)
      have K := Lib.hid (Hs.out k hlt)
      have hsz := hnx.size
      go_wp2_with (first
        | (go_at_call 66; refine (roots1 (xs[k]?.getD 0) _ K.out _).mono ?_; rintro e w' ⟨rfl, rfl⟩)
        | (at_builtin; refine wpList_append_fits _ rfl (.tmp 17) (.tmp 21) 119 rfl w.heap.size 26 i0 1 Tryz.underlying119 hi hz1 w.heap.size k n _ rfl (hown.alloc _) ⟨wr.heap.size, 0, none⟩ 1 1 [.int .i64 (ks[k]?.getD 0)] rfl rfl (cell_one_new _ _ _) (by intro u hu; simp at hu; subst hu; rfl) (by omega) ?_; intro w1 hown1 hgrow1))
      go_roundw
      case rel => exact ⟨k + 1, by omega, by go_num, rfl, by rw [take_map_succ (Value.int .i64) ks k (by have := Hk.out; omega) 0]; exact hown1, (hnx.alloc hnx.size _).grown hgrow1 (by simp; omega) (fun j hj => by cases hj; exact Nat.le_refl _)⟩
      case measure => simp [intOf]; omega
    · go_wp2
      go_ret
      obtain rfl : k = n := by omega
      rw [List.take_of_length_le (by have := Hk.out; omega)] at hown
      exact ⟨rfl, hown, hnx⟩
end Go.Proofs.YtggffhmdgceljaaGreatDoor
