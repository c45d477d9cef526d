/-
  SunTwice holds.
-/
import Derived.Test.YtpflbkgmgfhhnaaGreatDoorRows
import Derived.WalkKit
import Derived.WalkSpells
import Derived.WalkLawsBesides
import Derived.Lib.Hide
import Derived.BigQuiet
import Derived.Deep.QuietTactic
import Derived.Laws.FloatArith
import Derived.Laws.BitsAllLaws
import Derived.Deep.CutBlock
import Derived.Deep.DeepCutAuto
import Derived.Deep.RegionHeld3
import Derived.StillTailTactics
import Derived.LoopTactic
import Derived.Handy
import Derived.Laws.StructEq
import Derived.RangeFuncNested
import Derived.RangeFuncBound
import Derived.RangeFuncCalls
import Derived.RangeFuncLeaves
import Derived.RangeFuncBox
import Derived.Shelf.Abstract
import Derived.Shelf.RegionOpen
import Derived.OwnWalkIn
import Derived.TacticsInMore
import Derived.LoopNIn
import Derived.LoopIn
import Derived.Maps.AppendAt
import Derived.Test.YtpflbkgmgfhhnaaGreatDoorProg
import Derived.Deep.RegionWith
import Derived.Stop.BytesEq
import Derived.Deep.MidRow
import Derived.Laws.CopyRow
import Derived.WalkMore
import Derived.Deep.DrawnRows
import Derived.Deep.RegionLaw
import Derived.Orders
import Derived.RegionTactic
import Derived.StillTail
import Derived.Laws.RangeString
import Derived.Laws.RangeAny
import Derived.Shelf.Strings.Builder1
import Derived.Shelf.Strings.OnBuilder
import Derived.Shelf.LaysM
import Derived.Shelf.Strconv.Itoa3
import Derived.Lib.AppendIntMem
import Derived.Lib.ItoaLen
import Derived.RowKit
import Derived.Test.YtpflbkgmgfhhnaaGreatDoorOtaFlo
import Derived.Test.YtpflbkgmgfhhnaaGreatDoorOtaXc
import Derived.Test.YtpflbkgmgfhhnaaGreatDoorOtaXe
import Derived.Test.YtpflbkgmgfhhnaaGreatDoorOtaIb
import Derived.Test.YtpflbkgmgfhhnaaGreatDoorOtaFc
import Derived.Test.YtpflbkgmgfhhnaaGreatDoorOtaId
import Derived.Test.YtpflbkgmgfhhnaaGreatDoorOtaIi
import Derived.Test.YtpflbkgmgfhhnaaGreatDoorOtaIg
import Derived.Test.YtpflbkgmgfhhnaaGreatDoorOtaNp
import Derived.Test.YtpflbkgmgfhhnaaGreatDoorOtaNa
import Derived.Test.YtpflbkgmgfhhnaaGreatDoorOtaNi
import Derived.Test.YtpflbkgmgfhhnaaGreatDoorOtaIx
import Derived.Test.YtpflbkgmgfhhnaaGreatDoorOtaNv
import Derived.Test.YtpflbkgmgfhhnaaGreatDoorOtaWe
import Derived.Test.YtpflbkgmgfhhnaaGreatDoorOtaNo
import Derived.Test.YtpflbkgmgfhhnaaGreatDoorOtaNr
import Derived.Test.YtpflbkgmgfhhnaaGreatDoorOtaNy
import Derived.Test.YtpflbkgmgfhhnaaGreatDoorOtaAf
import Derived.Test.YtpflbkgmgfhhnaaGreatDoorOtaAh
import Derived.Test.YtpflbkgmgfhhnaaGreatDoorOtaAo
import Derived.Test.YtpflbkgmgfhhnaaGreatDoorOtaAi
namespace Go.Proofs.YtpflbkgmgfhhnaaGreatDoor
open Go.RowKit
set_option linter.unusedVariables false
set_option linter.unusedSimpArgs false

set_option maxRecDepth 1000000 in
set_option maxHeartbeats 12800000 in
theorem tw_no1 (w : World) (x y z a b c : Int)
    (KT1 : Hid (∀ w1 : World, Calls Tryz.prog 18 #[.agg #[.int .i64 x, .int .i64 y, .int .i64 z]] w1 fun e w' => e = .returned (.bool false) ∧ Below w1.heap.size w1 w'))
    (KW : Hid (∀ w1 : World, Below w.heap.size w w1 → Calls Tryz.prog 17 #[] w1 fun e w' => e = .returned (.bool true) ∧ Below w1.heap.size w1 w'))
    : Calls Tryz.prog 4 #[.agg #[.int .i64 x, .int .i64 y, .int .i64 z], .agg #[.int .i64 a, .int .i64 b, .int .i64 c]] w (SunPost w) := by
  obtain ⟨W0, hW0⟩ : ∃ W0, ((w.alloc (.cells #[.int .i64 x, .int .i64 y, .int .i64 z] 23)).alloc (.cells #[.int .i64 a, .int .i64 b, .int .i64 c] 23)) = W0 := ⟨_, rfl⟩
  have K0 : Hid (Kp w W0 [(w.heap.size + 1, (.cells #[.int .i64 a, .int .i64 b, .int .i64 c] 23 (0, 0))), (w.heap.size, (.cells #[.int .i64 x, .int .i64 y, .int .i64 z] 23 (0, 0)))]) := Lib.hid (by
    rw [← hW0]
    have k := (((Kp.none w).alloc (.cells #[.int .i64 x, .int .i64 y, .int .i64 z] 23)).alloc (.cells #[.int .i64 a, .int .i64 b, .int .i64 c] 23))
    simpa using k)
  go_enter Tryz.func4, Tryz.ntmps4
  go_upto_region 1 with fail
  try rw [hW0]
  clear hW0
  obtain ⟨n0, n1, n2⟩ := cells3 (K0.out.2 _ (.head _))
  obtain ⟨d0, d1, d2⟩ := cells3 (K0.out.2 _ (.tail _ (.head _)))
  go_wp2_with (first
    | (go_at_call 18; (with_reducible refine (KT1.out _).mono ?_); rintro e w1 ⟨rfl, hb1⟩; have K1 := Lib.hid (K0.out.call hb1))
    | (go_at_call 17; (with_reducible refine (KW.out _ K1.out.below).mono ?_); rintro e w99 ⟨rfl, hb99⟩; have K99 := Lib.hid (K1.out.call hb99)))
  go_ret
  exact ⟨rfl, K99.out.below⟩

set_option maxRecDepth 1000000 in
set_option maxHeartbeats 12800000 in
theorem tw_no2 (w : World) (x y z a b c : Int)
    (KT1 : Hid (∀ w1 : World, Calls Tryz.prog 18 #[.agg #[.int .i64 x, .int .i64 y, .int .i64 z]] w1 fun e w' => e = .returned (.bool true) ∧ Below w1.heap.size w1 w'))
    (KT2 : Hid (∀ w1 : World, Calls Tryz.prog 18 #[.agg #[.int .i64 a, .int .i64 b, .int .i64 c]] w1 fun e w' => e = .returned (.bool false) ∧ Below w1.heap.size w1 w'))
    (KW : Hid (∀ w1 : World, Below w.heap.size w w1 → Calls Tryz.prog 17 #[] w1 fun e w' => e = .returned (.bool true) ∧ Below w1.heap.size w1 w'))
    : Calls Tryz.prog 4 #[.agg #[.int .i64 x, .int .i64 y, .int .i64 z], .agg #[.int .i64 a, .int .i64 b, .int .i64 c]] w (SunPost w) := by
  obtain ⟨W0, hW0⟩ : ∃ W0, ((w.alloc (.cells #[.int .i64 x, .int .i64 y, .int .i64 z] 23)).alloc (.cells #[.int .i64 a, .int .i64 b, .int .i64 c] 23)) = W0 := ⟨_, rfl⟩
  have K0 : Hid (Kp w W0 [(w.heap.size + 1, (.cells #[.int .i64 a, .int .i64 b, .int .i64 c] 23 (0, 0))), (w.heap.size, (.cells #[.int .i64 x, .int .i64 y, .int .i64 z] 23 (0, 0)))]) := Lib.hid (by
    rw [← hW0]
    have k := (((Kp.none w).alloc (.cells #[.int .i64 x, .int .i64 y, .int .i64 z] 23)).alloc (.cells #[.int .i64 a, .int .i64 b, .int .i64 c] 23))
    simpa using k)
  go_enter Tryz.func4, Tryz.ntmps4
  go_upto_region 1 with fail
  try rw [hW0]
  clear hW0
  obtain ⟨n0, n1, n2⟩ := cells3 (K0.out.2 _ (.head _))
  obtain ⟨d0, d1, d2⟩ := cells3 (K0.out.2 _ (.tail _ (.head _)))
  go_wp2_with (first
    | (go_at_call 18; (with_reducible refine (KT1.out _).mono ?_); rintro e w1 ⟨rfl, hb1⟩; have K1 := Lib.hid (K0.out.call hb1); obtain ⟨n0, n1, n2⟩ := cells3 (K1.out.2 _ (.head _)); obtain ⟨d0, d1, d2⟩ := cells3 (K1.out.2 _ (.tail _ (.head _))))
    | (go_at_call 18; (with_reducible refine (KT2.out _).mono ?_); rintro e w2 ⟨rfl, hb2⟩; have K2 := Lib.hid (K1.out.call hb2))
    | (go_at_call 17; (with_reducible refine (KW.out _ K2.out.below).mono ?_); rintro e w99 ⟨rfl, hb99⟩; have K99 := Lib.hid (K2.out.call hb99)))
  go_ret
  exact ⟨rfl, K99.out.below⟩

theorem red_eq {p1 p2 p3 x y z a1 a2 a3 k l : Int} (h0 : ¬ (p1 = 0 ∧ p2 = 0 ∧ p3 = 0)) (hA : Red x y z a1 a2 a3) (hk : 0 < k) (hl : 0 < l) (e1 : k * p1 = l * x) (e2 : k * p2 = l * y) (e3 : k * p3 = l * z) :
    p1.tdiv (g3 p1 p2 p3) = a1 ∧ p2.tdiv (g3 p1 p2 p3) = a2 ∧ p3.tdiv (g3 p1 p2 p3) = a3 := (red_of h0).unique hA hk hl e1 e2 e3

set_option maxRecDepth 100000 in
set_option maxHeartbeats 3200000 in
theorem sunTwice_any (x y z a b c : Int) (w : World) (hX : AxesIn w) (ht : TabAt w) : Calls Tryz.prog 4 #[.agg #[.int .i64 x, .int .i64 y, .int .i64 z], .agg #[.int .i64 a, .int .i64 b, .int .i64 c]] w (SunPost w) := by
  have KW : Hid (∀ w1 : World, Below w.heap.size w w1 → Calls Tryz.prog 17 #[] w1 fun e w' => e = .returned (.bool true) ∧ Below w1.heap.size w1 w') := Lib.hid fun w1 hb => sunAwake_any w1 (hX.on hb) (ht.on hb)
  by_cases h1 : tinyP x y z
  rotate_left 1
  · exact tw_no1 w x y z a b c (Lib.hid fun w1 => tiny_no x y z h1 w1) KW
  by_cases h2 : tinyP a b c
  rotate_left 1
  · exact tw_no2 w x y z a b c (Lib.hid fun w1 => tiny_yes x y z h1 w1) (Lib.hid fun w1 => tiny_no a b c h2 w1) KW
  have KT1 := Lib.hid fun w1 => tiny_yes x y z h1 w1
  have KT2 := Lib.hid fun w1 => tiny_yes a b c h2 w1
  obtain ⟨he, hx, hy, hz⟩ := h1
  obtain ⟨hf, ha, hb, hc⟩ := h2
  have hde := (ray_ok he).1
  have hd0 := (dir_ok hde).1
  have hn0 := (dir_ok (ray_ok hf).1).1
  have hA := red_of hd0
  obtain ⟨a1, e1⟩ : ∃ a1, x.tdiv (g3 x y z) = a1 := ⟨_, rfl⟩
  obtain ⟨a2, e2⟩ : ∃ a2, y.tdiv (g3 x y z) = a2 := ⟨_, rfl⟩
  obtain ⟨a3, e3⟩ : ∃ a3, z.tdiv (g3 x y z) = a3 := ⟨_, rfl⟩
  rw [e1, e2, e3] at hA
  obtain ⟨hs1, hs2, hs3⟩ := red_small hA hx hy hz
  have hA0 := hA.nonzero
  have dA := dir_in hA0 (by omega) (by omega) (by omega)
  have rA := ray_in hA0 (by omega) (by omega) (by omega)
  have vA : vectorErrL 4096 a1 a2 a3 = 0 := vec_in (by omega) (by omega) (by omega)
  obtain ⟨o1, o2, o3⟩ := red_one hA
  have KA : Hid (∀ w1 : World, Calls Tryz.prog 19 #[.agg #[.int .i64 x, .int .i64 y, .int .i64 z]] w1 fun e w' => e = .returned (.tuple #[.agg #[.int .i64 a1, .int .i64 a2, .int .i64 a3], .int .i64 0]) ∧ Below w1.heap.size w1 w') := Lib.hid fun w1 => by
    have h := sunReduced_ok x y z hde w1
    rwa [e1, e2, e3] at h
  have hS : sameB a1 a2 a3 x y z = true := by
    unfold sameB
    rw [o1, o2, o3, e1, e2, e3]
    exact decide_eq_true rfl
  have KS : Hid (∀ w1 : World, Calls Tryz.prog 20 #[.agg #[.int .i64 a1, .int .i64 a2, .int .i64 a3], .agg #[.int .i64 x, .int .i64 y, .int .i64 z]] w1 fun e w' => e = .returned (.tuple #[.bool true, .int .i64 0]) ∧ Below w1.heap.size w1 w') := Lib.hid fun w1 => by
    have h := sunSame_ok a1 a2 a3 x y z dA hde w1
    rwa [hS] at h
  have KB : Hid (∀ w1 : World, Calls Tryz.prog 19 #[.agg #[.int .i64 a1, .int .i64 a2, .int .i64 a3]] w1 fun e w' => e = .returned (.tuple #[.agg #[.int .i64 a1, .int .i64 a2, .int .i64 a3], .int .i64 0]) ∧ Below w1.heap.size w1 w') := Lib.hid fun w1 => by
    have h := sunReduced_ok a1 a2 a3 dA w1
    rwa [o1, o2, o3] at h
  have KD : Hid (∀ w1 : World, Calls Tryz.prog 21 #[.agg #[.int .i64 x, .int .i64 y, .int .i64 z], .agg #[.int .i64 x, .int .i64 y, .int .i64 z]] w1 fun e w' => e = .returned (.tuple #[.agg #[.int .i64 a1, .int .i64 a2, .int .i64 a3], .int .i64 0]) ∧ Below w1.heap.size w1 w') := Lib.hid fun w1 => by
    have hN := dot_pos hd0
    have h0 := (reflected_fits he he).2
    rw [rfl_self, rfl_self, rfl_self] at h0
    obtain ⟨k1, k2, k3⟩ := red_eq h0 hA (by decide : (0 : Int) < 1) hN (Int.one_mul _) (Int.one_mul _) (Int.one_mul _)
    have h := reflected_ok x y z x y z _ _ _ he he (rfl_self x _) (rfl_self y _) (rfl_self z _) (by rw [k1, k2, k3]; exact vA) w1
    rwa [k1, k2, k3] at h
  have KC : Hid (∀ w1 : World, Calls Tryz.prog 11 #[.agg #[.int .i64 a1, .int .i64 a2, .int .i64 a3]] w1 fun e w' => e = .returned (.int .i64 0) ∧ Below w1.heap.size w1 w') := Lib.hid fun w1 => by
    have h := refCheckRay_all a1 a2 a3 w1
    rwa [rA] at h
  have hle := divR_le (M := 40) (by decide) hs1 hs2
  have KV1 := Lib.hid fun w1 => refDivisor_all a1 a2 (by omega) (by omega) w1
  have hone := divR_one hA
  have KV2 : Hid (∀ w1 : World, Calls Tryz.prog 22 #[.int .i64 (divR a1 a2), .int .i64 a3] w1 fun e w' => e = .returned (.int .i64 1) ∧ w1 = w') := Lib.hid fun w1 => by
    have h := refDivisor_all (divR a1 a2) a3 (by omega) (by omega) w1
    rwa [hone] at h
  refine tw_first w x y z a b c a1 a2 a3 KT1 KT2 KA KS KB KD (tw7 w x y z a b c a1 a2 a3 (divR a1 a2) KC KV1 KV2 ?_)
  clear KT1 KT2 KA KS KB KD KC KV1 KV2
  obtain ⟨p1, h1⟩ : ∃ p1, rflP x a (dot3 x y z a b c) (dot3 a b c a b c) = p1 := ⟨_, rfl⟩
  obtain ⟨p2, h2⟩ : ∃ p2, rflP y b (dot3 x y z a b c) (dot3 a b c a b c) = p2 := ⟨_, rfl⟩
  obtain ⟨p3, h3⟩ : ∃ p3, rflP z c (dot3 x y z a b c) (dot3 a b c a b c) = p3 := ⟨_, rfl⟩
  have hp0 := (reflected_fits he hf).2
  rw [h1, h2, h3] at hp0
  have hR := red_of hp0
  by_cases hv : vectorErrL 4096 (p1.tdiv (g3 p1 p2 p3)) (p2.tdiv (g3 p1 p2 p3)) (p3.tdiv (g3 p1 p2 p3)) = 0
  rotate_left 1
  · exact tw9_large w x y z a b c a1 a2 a3 (Lib.hid fun w1 => reflected_large x y z a b c p1 p2 p3 he hf h1 h2 h3 hv w1) KW
  have KR0 := fun w1 => reflected_ok x y z a b c p1 p2 p3 he hf h1 h2 h3 hv w1
  generalize p1.tdiv (g3 p1 p2 p3) = r1 at *
  generalize p2.tdiv (g3 p1 p2 p3) = r2 at *
  generalize p3.tdiv (g3 p1 p2 p3) = r3 at *
  obtain ⟨i1, i2, i3⟩ := vec_ok hv
  have rR := ray_in hR.nonzero i1 i2 i3
  have KC : Hid (∀ w1 : World, Calls Tryz.prog 11 #[.agg #[.int .i64 r1, .int .i64 r2, .int .i64 r3]] w1 fun e w' => e = .returned (.int .i64 0) ∧ Below w1.heap.size w1 w') := Lib.hid fun w1 => by
    have h := refCheckRay_all r1 r2 r3 w1
    rwa [rR] at h
  have KP := Lib.hid fun w1 => refDot_any x y z a b c (fit_small (by omega) (by omega)) (fit_small (by omega) (by omega)) (fit_small (by omega) (by omega)) w1
  have KT := Lib.hid fun w1 => refTimes_any a1 a2 a3 (-1) (fit_small (by omega) (by omega)) (fit_small (by omega) (by omega)) (fit_small (by omega) (by omega)) w1
  have KE : Hid (∀ w1 : World, Calls Tryz.prog 21 #[.agg #[.int .i64 r1, .int .i64 r2, .int .i64 r3], .agg #[.int .i64 a, .int .i64 b, .int .i64 c]] w1 fun e w' => e = .returned (.tuple #[.agg #[.int .i64 a1, .int .i64 a2, .int .i64 a3], .int .i64 0]) ∧ Below w1.heap.size w1 w') := Lib.hid fun w1 => by
    obtain ⟨k1, k2, k3⟩ := twice_back hn0 h1 h2 h3 hR hA (red_of (reflected_fits rR hf).2)
    have h := reflected_ok r1 r2 r3 a b c _ _ _ rR hf rfl rfl rfl (by rw [k1, k2, k3]; exact vA) w1
    rwa [k1, k2, k3] at h
  have KF := Lib.hid fun w1 => cosine_any x y z a b c he hf w1
  have KG : Hid (∀ w1 : World, Calls Tryz.prog 25 #[.agg #[.int .i64 r1, .int .i64 r2, .int .i64 r3], .agg #[.int .i64 a, .int .i64 b, .int .i64 c]] w1 fun e w' => e = .returned (.tuple #[.int .i64 (sgnI (dot3 x y z a b c)), .agg #[.int .i64 ((dot3 x y z a b c * dot3 x y z a b c).tdiv (Int.gcd (dot3 x y z a b c * dot3 x y z a b c) (dot3 x y z x y z * dot3 a b c a b c))), .int .i64 ((dot3 x y z x y z * dot3 a b c a b c).tdiv (Int.gcd (dot3 x y z a b c * dot3 x y z a b c) (dot3 x y z x y z * dot3 a b c a b c)))], .int .i64 0]) ∧ Below w1.heap.size w1 w') := Lib.hid fun w1 => by
    have h := cosine_any r1 r2 r3 a b c rR hf w1
    obtain ⟨c1, c2⟩ := twice_cos hn0 hd0 h1 h2 h3 hR
    have hN := dot_pos hn0
    obtain ⟨k1, k2⟩ := quot_same (Int.mul_pos (dot_pos hd0) hN) (Int.mul_pos (dot_pos hR.nonzero) hN) c2
    rwa [← c1, ← k1, ← k2] at h
  by_cases hm : dot3 x y z a b c = 0
  · obtain ⟨q1, q2, q3⟩ := twice_right hn0 h1 h2 h3 hR hA hm
    exact tw9_right w x y z a b c a1 a2 a3 r1 r2 r3 _ _ _ _ _ _ _ (Lib.hid hm) (beq_iff_eq.2 hm) (beq_iff_eq.2 (by omega)) (beq_iff_eq.2 (by omega)) (beq_iff_eq.2 (by omega)) (Lib.hid KR0) KC KP KT KE KF KG KW
  · have hq := twice_not hn0 hd0 h1 h2 h3 hR hA hm
    refine tw9_other w x y z a b c a1 a2 a3 r1 r2 r3 _ _ _ _ _ _ _ (Lib.hid hm) (beq_eq_false_iff_ne.2 hm) _ _ _ rfl rfl rfl ?_ (Lib.hid KR0) KC KP KT KE KF KG KW
    rw [Bool.eq_false_iff]
    intro h
    rw [Bool.and_eq_true, Bool.and_eq_true, beq_iff_eq, beq_iff_eq, beq_iff_eq] at h
    exact hq ⟨by omega, by omega, by omega⟩
end Go.Proofs.YtpflbkgmgfhhnaaGreatDoor
