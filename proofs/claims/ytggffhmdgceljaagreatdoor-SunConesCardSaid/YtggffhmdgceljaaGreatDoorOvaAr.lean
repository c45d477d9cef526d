/-
  Contracts of the reference's divisors of all integers, and of chapter 2's checks of rays, dot products and multiples.
-/
import Derived.Test.YtggffhmdgceljaaGreatDoorRows
import Derived.WalkKit
import Derived.WalkSpells
import Derived.WalkLawsBesides
import Derived.Lib.Hide
import Derived.BigQuiet
import Derived.Deep.QuietTactic
import Derived.Handy
import Derived.Deep.RegionHeld3
import Derived.Deep.RegionWith
import Derived.StillTailTactics
import Derived.RangeFuncNested
import Derived.RangeFuncBound
import Derived.RangeFuncCalls
import Derived.RangeFuncLeaves
import Derived.RangeFuncBox
import Derived.Shelf.Abstract
import Derived.Shelf.RegionOpen
import Derived.OwnWalkIn
import Derived.TacticsInMore
import Derived.LoopNIn
import Derived.LoopIn
import Derived.Maps.AppendAt
import Derived.Test.YtggffhmdgceljaaGreatDoorProg
import Derived.Laws.FloatArith
import Derived.Laws.BitsAllLaws
import Derived.Deep.DeepCutAuto
import Derived.Stop.BytesEq
import Derived.Deep.MidRow
import Derived.Laws.CopyRow
import Derived.WalkMore
import Derived.Deep.DrawnRows
import Derived.Deep.CutBlock
import Derived.Orders
import Derived.LoopTactic
import Derived.Laws.StructEq
import Derived.Deep.RegionLaw
import Derived.RegionTactic
import Derived.StillTail
import Derived.Test.YtggffhmdgceljaaGreatDoorOvaWa
import Derived.Test.YtggffhmdgceljaaGreatDoorOvaWn
import Derived.Test.YtggffhmdgceljaaGreatDoorOvaFlo
import Derived.Test.YtggffhmdgceljaaGreatDoorOvaXe
import Derived.Test.YtggffhmdgceljaaGreatDoorOvaXn
import Derived.Test.YtggffhmdgceljaaGreatDoorOvaKa
import Derived.Test.YtggffhmdgceljaaGreatDoorOvaIh
import Derived.Test.YtggffhmdgceljaaGreatDoorOvaWi
import Derived.Test.YtggffhmdgceljaaGreatDoorOvaIb
import Derived.Test.YtggffhmdgceljaaGreatDoorOvaIl
import Derived.Test.YtggffhmdgceljaaGreatDoorOvaId
import Derived.Test.YtggffhmdgceljaaGreatDoorOvaIi
import Derived.Test.YtggffhmdgceljaaGreatDoorOvaIg
import Derived.Test.YtggffhmdgceljaaGreatDoorOvaIp
namespace Go.Proofs.YtggffhmdgceljaaGreatDoor
open Go.RowKit
set_option linter.unusedVariables false
set_option linter.unusedSimpArgs false

/-- The greatest common divisor, and 1 if both are 0. -/
def divR (a b : Int) : Int := if Int.gcd a b = 0 then 1 else (Int.gcd a b : Int)
theorem divR_of {a b g : Int} (h : (Int.gcd a b : Int) = g) : divR a b = if g = 0 then 1 else g := by
  unfold divR
  by_cases h0 : Int.gcd a b = 0
  · rw [if_pos h0, if_pos (by omega)]
  · rw [if_neg h0, if_neg (by omega), h]
set_option maxHeartbeats 3200000 in
theorem refDivisor_all (a b : Int) (ha : -4611686018427387904 ≤ a ∧ a ≤ 4611686018427387904) (hb : -4611686018427387904 ≤ b ∧ b ≤ 4611686018427387904) (w : World) :
    Calls Tryz.prog 85 #[.int .i64 a, .int .i64 b] w fun e w' => e = .returned (.int .i64 (divR a b)) ∧ w = w' := by
  by_cases h : a < 0
  · obtain ⟨a1, ea⟩ : ∃ a1, (0 : Int) - a = a1 := ⟨_, rfl⟩
    have ha1 : 0 ≤ a1 ∧ a1 ≤ 4611686018427387904 := by omega
    by_cases h2 : b < 0
    · obtain ⟨b1, eb⟩ : ∃ b1, (0 : Int) - b = b1 := ⟨_, rfl⟩
      have hb1 : 0 ≤ b1 ∧ b1 ≤ 4611686018427387904 := by omega
      have HG1 : Hid (Int.gcd a1 b1 = Int.gcd a b) := Lib.hid (by rw [← ea, ← eb, Int.zero_sub, Int.zero_sub, Int.neg_gcd, Int.gcd_neg])
      go_enter Tryz.func85, Tryz.ntmps85
      go_wp2_with fail
      go_loop [0, 1] (fun x y => ∃ a' b' : Int, x = .int .i64 a' ∧ y = .int .i64 b' ∧ (0 ≤ a' ∧ a' ≤ 4611686018427387904) ∧ (0 ≤ b' ∧ b' ≤ 4611686018427387904) ∧ Hid (Int.gcd a' b' = Int.gcd a b)) (fun _ y => (intOf y).natAbs)
      case atStart => exact ⟨a1, b1, rfl, rfl, ha1, hb1, HG1⟩
      case round =>
        obtain ⟨a', b', rfl, rfl, ha', hb', hg⟩ := hrel
        clear hb ha1 hb1
        by_cases h0 : b' = 0
        · have HG : Hid ((Int.gcd a b : Int) = a') := Lib.hid (by rw [← hg.out, h0, gcd_zero]; omega)
          have HD := Lib.hid (divR_of HG.out)
          subst h0
          clear hg
          by_cases hz : a' = 0
          · have e0 : (a' == 0) = true := by simp [hz]
            rw [if_pos hz] at HD
            go_wp2
            go_ret
            exact ⟨ret_int HD.out.symm, rfl⟩
          · have e0 : (a' == 0) = false := by simp [hz]
            rw [if_neg hz] at HD
            go_wp2
            go_ret
            exact ⟨ret_int HD.out.symm, rfl⟩
        · have e0 : (b' != 0) = true := by simp [h0]
          have em : a'.tmod b' = a' % b' := Int.tmod_eq_emod_of_nonneg ha'.1
          have hn := tmod_small a' b' h0
          have hb2 : 0 ≤ a' % b' ∧ a' % b' ≤ 4611686018427387904 := by
            have := Int.emod_nonneg a' h0
            rw [em] at hn
            omega
          have hg2 := Lib.hid ((gcd_step a' b').trans hg.out)
          rw [em] at hg2 hn
          clear hg em
          go_wp2
          go_round
          case rel => exact ⟨b', a' % b', rfl, rfl, hb', hb2, hg2⟩
          case measure => exact hn
    · have hb1 : 0 ≤ b ∧ b ≤ 4611686018427387904 := by omega
      have HG1 : Hid (Int.gcd a1 b = Int.gcd a b) := Lib.hid (by rw [← ea, Int.zero_sub, Int.neg_gcd])
      go_enter Tryz.func85, Tryz.ntmps85
      go_wp2_with fail
      go_loop [0, 1] (fun x y => ∃ a' b' : Int, x = .int .i64 a' ∧ y = .int .i64 b' ∧ (0 ≤ a' ∧ a' ≤ 4611686018427387904) ∧ (0 ≤ b' ∧ b' ≤ 4611686018427387904) ∧ Hid (Int.gcd a' b' = Int.gcd a b)) (fun _ y => (intOf y).natAbs)
      case atStart => exact ⟨a1, b, rfl, rfl, ha1, hb1, HG1⟩
      case round =>
        obtain ⟨a', b', rfl, rfl, ha', hb', hg⟩ := hrel
        clear hb ha1 hb1
        by_cases h0 : b' = 0
        · have HG : Hid ((Int.gcd a b : Int) = a') := Lib.hid (by rw [← hg.out, h0, gcd_zero]; omega)
          have HD := Lib.hid (divR_of HG.out)
          subst h0
          clear hg
          by_cases hz : a' = 0
          · have e0 : (a' == 0) = true := by simp [hz]
            rw [if_pos hz] at HD
            go_wp2
            go_ret
            exact ⟨ret_int HD.out.symm, rfl⟩
          · have e0 : (a' == 0) = false := by simp [hz]
            rw [if_neg hz] at HD
            go_wp2
            go_ret
            exact ⟨ret_int HD.out.symm, rfl⟩
        · have e0 : (b' != 0) = true := by simp [h0]
          have em : a'.tmod b' = a' % b' := Int.tmod_eq_emod_of_nonneg ha'.1
          have hn := tmod_small a' b' h0
          have hb2 : 0 ≤ a' % b' ∧ a' % b' ≤ 4611686018427387904 := by
            have := Int.emod_nonneg a' h0
            rw [em] at hn
            omega
          have hg2 := Lib.hid ((gcd_step a' b').trans hg.out)
          rw [em] at hg2 hn
          clear hg em
          go_wp2
          go_round
          case rel => exact ⟨b', a' % b', rfl, rfl, hb', hb2, hg2⟩
          case measure => exact hn
  · have ha1 : 0 ≤ a ∧ a ≤ 4611686018427387904 := by omega
    by_cases h2 : b < 0
    · obtain ⟨b1, eb⟩ : ∃ b1, (0 : Int) - b = b1 := ⟨_, rfl⟩
      have hb1 : 0 ≤ b1 ∧ b1 ≤ 4611686018427387904 := by omega
      have HG1 : Hid (Int.gcd a b1 = Int.gcd a b) := Lib.hid (by rw [← eb, Int.zero_sub, Int.gcd_neg])
      go_enter Tryz.func85, Tryz.ntmps85
      go_wp2_with fail
      go_loop [0, 1] (fun x y => ∃ a' b' : Int, x = .int .i64 a' ∧ y = .int .i64 b' ∧ (0 ≤ a' ∧ a' ≤ 4611686018427387904) ∧ (0 ≤ b' ∧ b' ≤ 4611686018427387904) ∧ Hid (Int.gcd a' b' = Int.gcd a b)) (fun _ y => (intOf y).natAbs)
      case atStart => exact ⟨a, b1, rfl, rfl, ha1, hb1, HG1⟩
      case round =>
        obtain ⟨a', b', rfl, rfl, ha', hb', hg⟩ := hrel
        clear hb ha1 hb1
        by_cases h0 : b' = 0
        · have HG : Hid ((Int.gcd a b : Int) = a') := Lib.hid (by rw [← hg.out, h0, gcd_zero]; omega)
          have HD := Lib.hid (divR_of HG.out)
          subst h0
          clear hg
          by_cases hz : a' = 0
          · have e0 : (a' == 0) = true := by simp [hz]
            rw [if_pos hz] at HD
            go_wp2
            go_ret
            exact ⟨ret_int HD.out.symm, rfl⟩
          · have e0 : (a' == 0) = false := by simp [hz]
            rw [if_neg hz] at HD
            go_wp2
            go_ret
            exact ⟨ret_int HD.out.symm, rfl⟩
        · have e0 : (b' != 0) = true := by simp [h0]
          have em : a'.tmod b' = a' % b' := Int.tmod_eq_emod_of_nonneg ha'.1
          have hn := tmod_small a' b' h0
          have hb2 : 0 ≤ a' % b' ∧ a' % b' ≤ 4611686018427387904 := by
            have := Int.emod_nonneg a' h0
            rw [em] at hn
            omega
          have hg2 := Lib.hid ((gcd_step a' b').trans hg.out)
          rw [em] at hg2 hn
          clear hg em
          go_wp2
          go_round
          case rel => exact ⟨b', a' % b', rfl, rfl, hb', hb2, hg2⟩
          case measure => exact hn
    · have hb1 : 0 ≤ b ∧ b ≤ 4611686018427387904 := by omega
      go_enter Tryz.func85, Tryz.ntmps85
      go_wp2_with fail
      go_loop [0, 1] (fun x y => ∃ a' b' : Int, x = .int .i64 a' ∧ y = .int .i64 b' ∧ (0 ≤ a' ∧ a' ≤ 4611686018427387904) ∧ (0 ≤ b' ∧ b' ≤ 4611686018427387904) ∧ Hid (Int.gcd a' b' = Int.gcd a b)) (fun _ y => (intOf y).natAbs)
      case atStart => exact ⟨a, b, rfl, rfl, ha1, hb1, Lib.hid rfl⟩
      case round =>
        obtain ⟨a', b', rfl, rfl, ha', hb', hg⟩ := hrel
        clear hb ha1 hb1
        by_cases h0 : b' = 0
        · have HG : Hid ((Int.gcd a b : Int) = a') := Lib.hid (by rw [← hg.out, h0, gcd_zero]; omega)
          have HD := Lib.hid (divR_of HG.out)
          subst h0
          clear hg
          by_cases hz : a' = 0
          · have e0 : (a' == 0) = true := by simp [hz]
            rw [if_pos hz] at HD
            go_wp2
            go_ret
            exact ⟨ret_int HD.out.symm, rfl⟩
          · have e0 : (a' == 0) = false := by simp [hz]
            rw [if_neg hz] at HD
            go_wp2
            go_ret
            exact ⟨ret_int HD.out.symm, rfl⟩
        · have e0 : (b' != 0) = true := by simp [h0]
          have em : a'.tmod b' = a' % b' := Int.tmod_eq_emod_of_nonneg ha'.1
          have hn := tmod_small a' b' h0
          have hb2 : 0 ≤ a' % b' ∧ a' % b' ≤ 4611686018427387904 := by
            have := Int.emod_nonneg a' h0
            rw [em] at hn
            omega
          have hg2 := Lib.hid ((gcd_step a' b').trans hg.out)
          rw [em] at hg2 hn
          clear hg em
          go_wp2
          go_round
          case rel => exact ⟨b', a' % b', rfl, rfl, hb', hb2, hg2⟩
          case measure => exact hn

set_option maxRecDepth 100000 in
set_option maxHeartbeats 6400000 in
theorem refWithin_all (x y z L : Int) (hL : 0 ≤ L ∧ L ≤ 1048576) (w : World) :
    Calls Tryz.prog 51 #[.agg #[.int .i64 x, .int .i64 y, .int .i64 z], .int .i64 L] w fun e w' => e = .returned (.int .i64 (vectorErrL L x y z)) ∧ Below w.heap.size w w' := by
  obtain ⟨ex, hx⟩ : ∃ e : Int, rangeErr x (-L) L = e := ⟨_, rfl⟩
  obtain ⟨ey, hy⟩ : ∃ e : Int, rangeErr y (-L) L = e := ⟨_, rfl⟩
  obtain ⟨ez, hz⟩ : ∃ e : Int, rangeErr z (-L) L = e := ⟨_, rfl⟩
  have Kx : Hid (∀ w1 : World, Calls Tryz.prog 50 #[.int .i64 x, .int .i64 (-L), .int .i64 L] w1 fun e w' => e = .returned (.int .i64 ex) ∧ w1 = w') := Lib.hid fun w1 => by
    have h := refCheckRange_any x (-L) L w1
    rwa [hx] at h
  have Ky : Hid (∀ w1 : World, Calls Tryz.prog 50 #[.int .i64 y, .int .i64 (-L), .int .i64 L] w1 fun e w' => e = .returned (.int .i64 ey) ∧ w1 = w') := Lib.hid fun w1 => by
    have h := refCheckRange_any y (-L) L w1
    rwa [hy] at h
  have Kz : Hid (∀ w1 : World, Calls Tryz.prog 50 #[.int .i64 z, .int .i64 (-L), .int .i64 L] w1 fun e w' => e = .returned (.int .i64 ez) ∧ w1 = w') := Lib.hid fun w1 => by
    have h := refCheckRange_any z (-L) L w1
    rwa [hz] at h
  unfold vectorErrL
  rw [hx, hy, hz]
  obtain ⟨E, hE⟩ : ∃ E : Int, firstNZ [ex, ey, ez] = E := ⟨_, rfl⟩
  have KF : Hid (∀ (w1 : World) (b : Nat), (∀ j, j < 3 → w1.cell? ⟨b, 0 + j, none⟩ = some (.int .i64 (([ex, ey, ez] : List Int)[j]?.getD 0))) → Calls Tryz.prog 49 #[.slice (some ⟨b, 0, none⟩) 3 3] w1 fun e w' => e = .returned (.int .i64 E) ∧ w1 = w') := Lib.hid fun w1 b h => by
    have k := refFirst_any b 0 3 3 [ex, ey, ez] rfl (by omega) w1 h
    rwa [hE] at k
  rw [hE]
  have wl : IntKind.i64.wrap (0 - L) = -L := by rw [Int.zero_sub]; exact IntWalk.i64_in _ ⟨by omega, by omega⟩
  have wl2 : IntKind.i64.wrap (-L) = -L := IntWalk.i64_in _ ⟨by omega, by omega⟩
  clear hx hy hz hE hL
  obtain ⟨W0, hW0⟩ : ∃ W0, (w.alloc (.cells #[.int .i64 x, .int .i64 y, .int .i64 z] 23)) = W0 := ⟨_, rfl⟩
  have K0 : Hid (Kp w W0 [(w.heap.size, (.cells #[.int .i64 x, .int .i64 y, .int .i64 z] 23 (0, 0)))]) := Lib.hid (by
    rw [← hW0]
    have k := ((Kp.none w).alloc (.cells #[.int .i64 x, .int .i64 y, .int .i64 z] 23))
    simpa using k)
  go_enter Tryz.func51, Tryz.ntmps51
  go_upto_region 1 with fail
  try rw [hW0]
  clear hW0
  apply wp_region_gives 18 (fun w' => Blw W0.heap.size W0 w') [.pointer (some ⟨w.heap.size, 0, none⟩), .int .i64 x, .int .i64 L, .int .i64 (-L), .int .i64 L, .int .i64 ex, .pointer (some ⟨w.heap.size, 1, none⟩), .int .i64 y, .int .i64 L, .int .i64 (-L), .int .i64 L, .int .i64 ey, .pointer (some ⟨w.heap.size, 2, none⟩), .int .i64 z, .int .i64 L, .int .i64 (-L), .int .i64 L, .int .i64 ez] (by kernel_rfl) (by kernel_rfl) (by kernel_rfl) (show Below _ _ _ from (Below.refl _ _).drew)
  case haF =>
    simp [putJs, Act.put, List.range, List.range.loop]
    exact rfl
  case h =>
    have hBq := K0.out.2 _ (.head _)
    simp only [List.take_succ_cons, List.take_zero, GivesL]
    clear K0
    refine ⟨?_, ?_, ?_, ?_, ?_, ?_, ?_, ?_, ?_, ?_, ?_, ?_, ?_, ?_, ?_, ?_, ?_, ?_, trivial⟩
    all_goals
      intro w1 hw1
      obtain ⟨q_0, q_1, q_2⟩ := cells3 (((show Below _ _ _ from hw1).block _ (lt_of_blk hBq)).trans hBq)
      unfold Oper.wp
      simp only [execOp]
      go_simp <;> first
        | exact ⟨rfl, hw1⟩
        | ((with_reducible refine (Kx.out _).mono ?_); rintro e w2 ⟨rfl, rfl⟩; exact ⟨rfl, hw1⟩)
        | ((with_reducible refine (Ky.out _).mono ?_); rintro e w2 ⟨rfl, rfl⟩; exact ⟨rfl, hw1⟩)
        | ((with_reducible refine (Kz.out _).mono ?_); rintro e w2 ⟨rfl, rfl⟩; exact ⟨rfl, hw1⟩)
  case ht =>
    intro w2 hw5
    have K2 := Lib.hid (K0.out.call (show Below _ _ _ from hw5))
    clear hw5 K0
    simp only [List.drop_succ_cons, List.drop_zero]
    go_wp2_with (first
      | (go_at_call 49; (with_reducible refine (KF.out _ _ ?_).mono ?_); rotate_left 1; rintro e w6 ⟨rfl, rfl⟩; rotate_left 1; (intro j hj; match j, hj with | 0, _ => simp [go_sem] | 1, _ => simp [go_sem] | 2, _ => simp [go_sem])))
    go_ret
    exact ⟨rfl, (Kp.below K2.out).alloc (Kp.below K2.out).size _⟩

set_option maxRecDepth 100000 in
set_option maxHeartbeats 6400000 in
theorem refCheckRay_all (x y z : Int) (w : World) :
    Calls Tryz.prog 11 #[.agg #[.int .i64 x, .int .i64 y, .int .i64 z]] w fun e w' => e = .returned (.int .i64 (rayErr x y z)) ∧ Below w.heap.size w w' := by
  obtain ⟨e1, h1⟩ : ∃ e : Int, directionErr x y z = e := ⟨_, rfl⟩
  obtain ⟨e2, h2⟩ : ∃ e : Int, vectorErrL 4096 x y z = e := ⟨_, rfl⟩
  have KA : Hid (∀ w1 : World, Calls Tryz.prog 28 #[.agg #[.int .i64 x, .int .i64 y, .int .i64 z]] w1 fun e w' => e = .returned (.int .i64 e1) ∧ Below w1.heap.size w1 w') := Lib.hid fun w1 => by
    have h := refCheckDirection_all x y z w1
    rwa [h1] at h
  have KB : Hid (∀ w1 : World, Calls Tryz.prog 51 #[.agg #[.int .i64 x, .int .i64 y, .int .i64 z], .int .i64 4096] w1 fun e w' => e = .returned (.int .i64 e2) ∧ Below w1.heap.size w1 w') := Lib.hid fun w1 => by
    have h := refWithin_all x y z 4096 (by omega) w1
    rwa [h2] at h
  unfold rayErr
  rw [h1, h2]
  obtain ⟨E, hE⟩ : ∃ E : Int, firstNZ [e1, e2] = E := ⟨_, rfl⟩
  have KF : Hid (∀ (w1 : World) (b : Nat), (∀ j, j < 2 → w1.cell? ⟨b, 0 + j, none⟩ = some (.int .i64 (([e1, e2] : List Int)[j]?.getD 0))) → Calls Tryz.prog 49 #[.slice (some ⟨b, 0, none⟩) 2 2] w1 fun e w' => e = .returned (.int .i64 E) ∧ w1 = w') := Lib.hid fun w1 b h => by
    have k := refFirst_any b 0 2 2 [e1, e2] rfl (by omega) w1 h
    rwa [hE] at k
  rw [hE]
  clear h1 h2 hE
  obtain ⟨W0, hW0⟩ : ∃ W0, (w.alloc (.cells #[.int .i64 x, .int .i64 y, .int .i64 z] 23)) = W0 := ⟨_, rfl⟩
  have K0 : Hid (Kp w W0 [(w.heap.size, (.cells #[.int .i64 x, .int .i64 y, .int .i64 z] 23 (0, 0)))]) := Lib.hid (by
    rw [← hW0]
    have k := ((Kp.none w).alloc (.cells #[.int .i64 x, .int .i64 y, .int .i64 z] 23))
    simpa using k)
  go_enter Tryz.func11, Tryz.ntmps11
  go_upto_region 1 with fail
  try rw [hW0]
  clear hW0
  apply wp_region_gives 4 (fun w' => Blw W0.heap.size W0 w') [.agg #[.int .i64 x, .int .i64 y, .int .i64 z], .int .i64 e1, .agg #[.int .i64 x, .int .i64 y, .int .i64 z], .int .i64 e2] (by kernel_rfl) (by kernel_rfl) (by kernel_rfl) (show Below _ _ _ from (Below.refl _ _).drew)
  case haF =>
    simp [putJs, Act.put, List.range, List.range.loop]
    exact rfl
  case h =>
    have hBq := K0.out.2 _ (.head _)
    simp only [List.take_succ_cons, List.take_zero, GivesL]
    clear K0
    refine ⟨?_, ?_, ?_, ?_, trivial⟩
    all_goals
      intro w1 hw1
      obtain ⟨q_0, q_1, q_2⟩ := cells3 (((show Below _ _ _ from hw1).block _ (lt_of_blk hBq)).trans hBq)
      unfold Oper.wp
      simp only [execOp]
      go_simp <;> first
        | exact ⟨rfl, hw1⟩
        | ((with_reducible refine (KA.out _).mono ?_); rintro e w2 ⟨rfl, hb⟩; exact ⟨rfl, below_call hb hw1⟩)
        | ((with_reducible refine (KB.out _).mono ?_); rintro e w2 ⟨rfl, hb⟩; exact ⟨rfl, below_call hb hw1⟩)
  case ht =>
    intro w2 hw5
    have K2 := Lib.hid (K0.out.call (show Below _ _ _ from hw5))
    clear hw5 K0
    simp only [List.drop_succ_cons, List.drop_zero]
    go_wp2_with (first
      | (go_at_call 49; (with_reducible refine (KF.out _ _ ?_).mono ?_); rotate_left 1; rintro e w6 ⟨rfl, rfl⟩; rotate_left 1; (intro j hj; match j, hj with | 0, _ => simp [go_sem] | 1, _ => simp [go_sem])))
    go_ret
    exact ⟨rfl, (Kp.below K2.out).alloc (Kp.below K2.out).size _⟩

set_option maxRecDepth 100000 in
set_option maxHeartbeats 6400000 in
theorem refDot_any (x y z a b c : Int) (h1 : Fit (x * a)) (h2 : Fit (y * b)) (h3 : Fit (z * c)) (w : World) :
    Calls Tryz.prog 29 #[.agg #[.int .i64 x, .int .i64 y, .int .i64 z], .agg #[.int .i64 a, .int .i64 b, .int .i64 c]] w fun e w' => e = .returned (.int .i64 (dot3 x y z a b c)) ∧ Below w.heap.size w w' := by
  unfold dot3
  obtain ⟨m1, e1⟩ : ∃ m1, x * a = m1 := ⟨_, rfl⟩
  obtain ⟨m2, e2⟩ : ∃ m2, y * b = m2 := ⟨_, rfl⟩
  obtain ⟨m3, e3⟩ : ∃ m3, z * c = m3 := ⟨_, rfl⟩
  rw [e1] at h1 ⊢
  rw [e2] at h2 ⊢
  rw [e3] at h3 ⊢
  have w1 := h1.wrap
  have w2 := h2.wrap
  have w3 := h3.wrap
  have s2 := wrap_fit2 h1 h2
  have s3 := wrap_fit3 h1 h2 h3
  clear h1 h2 h3
  go_enter Tryz.func29, Tryz.ntmps29
  go_wp2_with fail
  go_ret
  exact ⟨rfl, ((Below.refl _ _).alloc (Nat.le_refl _) _).alloc (by simp) _⟩

set_option maxRecDepth 100000 in
set_option maxHeartbeats 6400000 in
theorem refTimes_any (x y z n : Int) (h1 : Fit (x * n)) (h2 : Fit (y * n)) (h3 : Fit (z * n)) (w : World) :
    Calls Tryz.prog 23 #[.agg #[.int .i64 x, .int .i64 y, .int .i64 z], .int .i64 n] w fun e w' => e = .returned (.agg #[.int .i64 (x * n), .int .i64 (y * n), .int .i64 (z * n)]) ∧ Below w.heap.size w w' := by
  obtain ⟨m1, e1⟩ : ∃ m1, x * n = m1 := ⟨_, rfl⟩
  obtain ⟨m2, e2⟩ : ∃ m2, y * n = m2 := ⟨_, rfl⟩
  obtain ⟨m3, e3⟩ : ∃ m3, z * n = m3 := ⟨_, rfl⟩
  rw [e1] at h1 ⊢
  rw [e2] at h2 ⊢
  rw [e3] at h3 ⊢
  have w1 := h1.wrap
  have w2 := h2.wrap
  have w3 := h3.wrap
  clear h1 h2 h3
  go_enter Tryz.func23, Tryz.ntmps23
  go_wp2_with fail
  refine bodyPost_ret (v := .agg #[.int .i64 m1, .int .i64 m2, .int .i64 m3]) (by simp [results, Tryz.results23, go_sem]) rfl ⟨rfl, ?_⟩
  first
    | exact ((Below.refl _ w).alloc (Nat.le_refl _) _).alloc (by simp) _
    | exact (((((Below.refl _ w).alloc (Nat.le_refl _) _).alloc (by simp) _).setCell (by simp) _).setCell (by simp) _).setCell (by simp) _
end Go.Proofs.YtggffhmdgceljaaGreatDoor

/-
  What SunTwice's walks ask for.
-/
namespace Go.Proofs.YtggffhmdgceljaaGreatDoor
open Go.RowKit
set_option linter.unusedVariables false
set_option linter.unusedSimpArgs false

/-- The reduced vector of a ray is a ray with parts that are no longer. -/
theorem red_small {x y z r1 r2 r3 M : Int} (h : Red x y z r1 r2 r3) (hx : -M ≤ x ∧ x ≤ M) (hy : -M ≤ y ∧ y ≤ M) (hz : -M ≤ z ∧ z ≤ M) : (-M ≤ r1 ∧ r1 ≤ M) ∧ (-M ≤ r2 ∧ r2 ≤ M) ∧ (-M ≤ r3 ∧ r3 ≤ M) := by
  obtain ⟨h1, h2, h3⟩ := h.small
  omega
theorem divR_le {a b : Int} {M : Int} (hM : 1 ≤ M) (ha : -M ≤ a ∧ a ≤ M) (hb : -M ≤ b ∧ b ≤ M) : -M ≤ divR a b ∧ divR a b ≤ M := by
  unfold divR
  by_cases h0 : Int.gcd a b = 0
  · rw [if_pos h0]
    omega
  · rw [if_neg h0]
    by_cases h : a = 0
    · by_cases h2 : b = 0
      · subst h h2
        exact absurd rfl h0
      · have := Nat.le_of_dvd (by omega) (Int.gcd_dvd_natAbs_right a b)
        omega
    · have := Nat.le_of_dvd (by omega) (Int.gcd_dvd_natAbs_left a b)
      omega
theorem fit_small {x a : Int} (hx : -4096 ≤ x ∧ x ≤ 4096) (ha : -4096 ≤ a ∧ a ≤ 4096) : Fit (x * a) := by
  have h : (x * a).natAbs ≤ 4096 * 4096 := by
    rw [Int.natAbs_mul]
    exact Nat.mul_le_mul (by omega) (by omega)
  unfold Fit
  omega
end Go.Proofs.YtggffhmdgceljaaGreatDoor

/-
  Contracts of the reference's checks of cones and turns, of its reduced vectors, and of what has one direction, or opposite ones.
-/
namespace Go.Proofs.YtggffhmdgceljaaGreatDoor
open Go.RowKit
set_option linter.unusedVariables false
set_option linter.unusedSimpArgs false

set_option maxRecDepth 100000 in
set_option maxHeartbeats 6400000 in
theorem refCheckCone_all (x y z num den : Int) (w : World) :
    Calls Tryz.prog 10 #[.agg #[.int .i64 x, .int .i64 y, .int .i64 z, .int .i64 num, .int .i64 den]] w fun e w' => e = .returned (.int .i64 (coneErr x y z num den)) ∧ Below w.heap.size w w' := by
  unfold coneErr
  obtain ⟨e1, he1⟩ : ∃ e : Int, rayErr x y z = e := ⟨_, rfl⟩
  obtain ⟨e2, he2⟩ : ∃ e : Int, rangeErr den 1 100 = e := ⟨_, rfl⟩
  obtain ⟨e3, he3⟩ : ∃ e : Int, rangeErr num 0 den = e := ⟨_, rfl⟩
  have KR : Hid (∀ w1 : World, Calls Tryz.prog 11 #[.agg #[.int .i64 x, .int .i64 y, .int .i64 z]] w1 fun e w' => e = .returned (.int .i64 e1) ∧ Below w1.heap.size w1 w') := Lib.hid fun w1 => by
    have h := refCheckRay_all x y z w1
    rwa [he1] at h
  have KA : Hid (∀ w1 : World, Calls Tryz.prog 50 #[.int .i64 den, .int .i64 1, .int .i64 100] w1 fun e w' => e = .returned (.int .i64 e2) ∧ w1 = w') := Lib.hid fun w1 => by
    have h := refCheckRange_any den 1 100 w1
    rwa [he2] at h
  have KB : Hid (∀ w1 : World, Calls Tryz.prog 50 #[.int .i64 num, .int .i64 0, .int .i64 den] w1 fun e w' => e = .returned (.int .i64 e3) ∧ w1 = w') := Lib.hid fun w1 => by
    have h := refCheckRange_any num 0 den w1
    rwa [he3] at h
  rw [he1, he2, he3]
  clear he1 he2 he3
  obtain ⟨E, hE⟩ : ∃ E : Int, firstNZ [e1, e2, e3] = E := ⟨_, rfl⟩
  have KF : Hid (∀ (w1 : World) (b : Nat), (∀ j, j < 3 → w1.cell? ⟨b, 0 + j, none⟩ = some (.int .i64 (([e1, e2, e3] : List Int)[j]?.getD 0))) → Calls Tryz.prog 49 #[.slice (some ⟨b, 0, none⟩) 3 3] w1 fun e w' => e = .returned (.int .i64 E) ∧ w1 = w') := Lib.hid fun w1 b h => by
    have k := refFirst_any b 0 3 3 [e1, e2, e3] rfl (by omega) w1 h
    rwa [hE] at k
  rw [hE]
  clear hE
  obtain ⟨W0, hW0⟩ : ∃ W0, (w.alloc (.cells #[.int .i64 x, .int .i64 y, .int .i64 z, .int .i64 num, .int .i64 den] 25)) = W0 := ⟨_, rfl⟩
  have K0 : Hid (Kp w W0 [(w.heap.size, (.cells #[.int .i64 x, .int .i64 y, .int .i64 z, .int .i64 num, .int .i64 den] 25 (0, 0)))]) := Lib.hid (by
    rw [← hW0]
    have k := ((Kp.none w).alloc (.cells #[.int .i64 x, .int .i64 y, .int .i64 z, .int .i64 num, .int .i64 den] 25))
    simpa using k)
  go_enter Tryz.func10, Tryz.ntmps10
  go_upto_region 1 with fail
  try rw [hW0]
  clear hW0
  apply wp_region_gives 11 (fun w' => Blw W0.heap.size W0 w') [.pointer (some ⟨w.heap.size, 0, none⟩), .agg #[.int .i64 x, .int .i64 y, .int .i64 z], .int .i64 e1, .pointer (some ⟨w.heap.size, 4, none⟩), .int .i64 den, .int .i64 e2, .pointer (some ⟨w.heap.size, 3, none⟩), .int .i64 num, .pointer (some ⟨w.heap.size, 4, none⟩), .int .i64 den, .int .i64 e3] (by kernel_rfl) (by kernel_rfl) (by kernel_rfl) (show Below _ _ _ from (Below.refl _ _).drew)
  case haF =>
    simp [putJs, Act.put, List.range, List.range.loop]
    exact rfl
  case h =>
    have hBq := K0.out.2 _ (.head _)
    simp only [List.take_succ_cons, List.take_zero, GivesL]
    clear K0
    refine ⟨?_, ?_, ?_, ?_, ?_, ?_, ?_, ?_, ?_, ?_, ?_, trivial⟩
    all_goals
      intro w1 hw1
      obtain ⟨q_0, q_1, q_2, q_3, q_4⟩ := cells5 (((show Below _ _ _ from hw1).block _ (lt_of_blk hBq)).trans hBq)
      unfold Oper.wp
      simp only [execOp]
      go_simp <;> first
        | exact ⟨rfl, hw1⟩
        | ((with_reducible refine (KR.out _).mono ?_); rintro e w2 ⟨rfl, hb⟩; exact ⟨rfl, below_call hb hw1⟩)
        | ((with_reducible refine (KA.out _).mono ?_); rintro e w2 ⟨rfl, rfl⟩; exact ⟨rfl, hw1⟩)
        | ((with_reducible refine (KB.out _).mono ?_); rintro e w2 ⟨rfl, rfl⟩; exact ⟨rfl, hw1⟩)
  case ht =>
    intro w2 hw5
    have K2 := Lib.hid (K0.out.call (show Below _ _ _ from hw5))
    clear hw5 K0
    simp only [List.drop_succ_cons, List.drop_zero]
    go_wp2_with (first
      | (go_at_call 49; (with_reducible refine (KF.out _ _ ?_).mono ?_); rotate_left 1; rintro e w6 ⟨rfl, rfl⟩; rotate_left 1; (intro j hj; match j, hj with | 0, _ => simp [go_sem] | 1, _ => simp [go_sem] | 2, _ => simp [go_sem])))
    go_ret
    exact ⟨rfl, (Kp.below K2.out).alloc (Kp.below K2.out).size _⟩

set_option maxRecDepth 100000 in
set_option maxHeartbeats 6400000 in
theorem refReduced_a (x y z g0 g1 g q1 q2 q3 : Int) (nx : (x != 0) = true) (hg : ¬ g = 0) (d1 : IntKind.i64.wrap (x.tdiv g) = q1) (d2 : IntKind.i64.wrap (y.tdiv g) = q2) (d3 : IntKind.i64.wrap (z.tdiv g) = q3) (w : World)
    (KV0 : Hid (∀ w1 : World, Calls Tryz.prog 85 #[.int .i64 z, .int .i64 0] w1 fun e w' => e = .returned (.int .i64 g0) ∧ w1 = w'))
    (KV1 : Hid (∀ w1 : World, Calls Tryz.prog 85 #[.int .i64 x, .int .i64 y] w1 fun e w' => e = .returned (.int .i64 g1) ∧ w1 = w'))
    (KV2 : Hid (∀ w1 : World, Calls Tryz.prog 85 #[.int .i64 g1, .int .i64 z] w1 fun e w' => e = .returned (.int .i64 g) ∧ w1 = w')) :
    Calls Tryz.prog 77 #[.agg #[.int .i64 x, .int .i64 y, .int .i64 z]] w fun e w' => e = .returned (.agg #[.int .i64 q1, .int .i64 q2, .int .i64 q3]) ∧ Below w.heap.size w w' := by
  obtain ⟨W0, hW0⟩ : ∃ W0, ((w.alloc (.cells #[.int .i64 x, .int .i64 y, .int .i64 z] 23)).alloc (.cells #[.int .i64 0, .int .i64 0, .int .i64 0] 23)) = W0 := ⟨_, rfl⟩
  have K0 : Hid (Kp w W0 [(w.heap.size + 1, (.cells #[.int .i64 0, .int .i64 0, .int .i64 0] 23 (0, 0))), (w.heap.size, (.cells #[.int .i64 x, .int .i64 y, .int .i64 z] 23 (0, 0)))]) := Lib.hid (by
    rw [← hW0]
    have k := (((Kp.none w).alloc (.cells #[.int .i64 x, .int .i64 y, .int .i64 z] 23)).alloc (.cells #[.int .i64 0, .int .i64 0, .int .i64 0] 23))
    simpa using k)
  go_enter Tryz.func77, Tryz.ntmps77
  go_upto_region 1 with fail
  try rw [hW0]
  clear hW0
  obtain ⟨x0, x1, x2⟩ := cells3 (K0.out.2 _ (.tail _ (.head _)))
  go_upto_region 3 with (first
    | (go_at_call 85; (with_reducible refine (KV0.out _).mono ?_); rintro e w1 ⟨rfl, rfl⟩))
  clear x0 x1 x2
  apply wp_region_gives 8 (fun w' => Blw W0.heap.size W0 w') [.pointer (some ⟨w.heap.size, 0, none⟩), .int .i64 x, .pointer (some ⟨w.heap.size, 1, none⟩), .int .i64 y, .int .i64 g1, .pointer (some ⟨w.heap.size, 2, none⟩), .int .i64 z, .int .i64 g] (by kernel_rfl) (by kernel_rfl) (by kernel_rfl) (show Below _ _ _ from (Below.refl _ _).drew)
  case haF =>
    simp [putJs, Act.put, List.range, List.range.loop]
    exact rfl
  case h =>
    have hBe := K0.out.2 _ (.tail _ (.head _))
    simp only [List.take_succ_cons, List.take_zero, GivesL]
    clear K0
    refine ⟨?_, ?_, ?_, ?_, ?_, ?_, ?_, ?_, trivial⟩
    all_goals
      intro w1 hw1
      obtain ⟨e_0, e_1, e_2⟩ := cells3 (((show Below _ _ _ from hw1).block _ (lt_of_blk hBe)).trans hBe)
      unfold Oper.wp
      simp only [execOp]
      go_simp <;> first
        | exact ⟨rfl, hw1⟩
        | ((with_reducible refine (KV1.out _).mono ?_); rintro e w2 ⟨rfl, rfl⟩; exact ⟨rfl, hw1⟩)
        | ((with_reducible refine (KV2.out _).mono ?_); rintro e w2 ⟨rfl, rfl⟩; exact ⟨rfl, hw1⟩)
  case ht =>
  intro w5 hw5
  have K5 := Lib.hid (K0.out.call (show Below _ _ _ from hw5))
  clear hw5 K0
  simp only [List.drop_succ_cons, List.drop_zero]
  go_wp2_with fail
  apply wp_region_gives 13 (fun w' => Blw w5.heap.size w5 w') [.pointer (some ⟨w.heap.size, 0, none⟩), .int .i64 x, .int .i64 g, .int .i64 q1, .pointer (some ⟨w.heap.size, 1, none⟩), .int .i64 y, .int .i64 g, .int .i64 q2, .pointer (some ⟨w.heap.size, 2, none⟩), .int .i64 z, .int .i64 g, .int .i64 q3, .agg #[.int .i64 q1, .int .i64 q2, .int .i64 q3]] (by kernel_rfl) (by kernel_rfl) (by kernel_rfl) (show Below _ _ _ from (Below.refl _ _).drew)
  case haF =>
    simp [putJs, Act.put, List.range, List.range.loop]
    exact rfl
  case h =>
    have hBe := K5.out.2 _ (.tail _ (.head _))
    simp only [List.take_succ_cons, List.take_zero, GivesL]
    clear K5
    refine ⟨?_, ?_, ?_, ?_, ?_, ?_, ?_, ?_, ?_, ?_, ?_, ?_, ?_, trivial⟩
    all_goals
      intro w1 hw1
      obtain ⟨e_0, e_1, e_2⟩ := cells3 (((show Below _ _ _ from hw1).block _ (lt_of_blk hBe)).trans hBe)
      unfold Oper.wp
      simp only [execOp]
      go_simp <;> first
        | exact ⟨rfl, hw1⟩
  case ht =>
  intro w6 hw6
  have K6 := Lib.hid (K5.out.call (show Below _ _ _ from hw6))
  clear hw6 K5
  simp only [List.drop_succ_cons, List.drop_zero]
  obtain ⟨o0, o1, o2⟩ := cells3 (K6.out.2 _ (.head _))
  have oz : ∀ j, w6.frozen? ⟨w.heap.size + 1, j, none⟩ = false := fun j => frozen_of_row w6 (w.heap.size + 1) j _ _ (K6.out.2 _ (.head _))
  go_wp2_with fail
  refine bodyPost_ret (v := .agg #[.int .i64 q1, .int .i64 q2, .int .i64 q3]) (by simp [results, Tryz.results77, go_sem, o0, o1, o2]) rfl ⟨rfl, ?_⟩
  exact (((Kp.below K6.out).setCell (show w.heap.size ≤ w.heap.size + 1 by omega) _).setCell (show w.heap.size ≤ w.heap.size + 1 by omega) _).setCell (show w.heap.size ≤ w.heap.size + 1 by omega) _

set_option maxRecDepth 100000 in
set_option maxHeartbeats 6400000 in
theorem refReduced_b (x y z g0 g1 g q1 q2 q3 : Int) (nx : (x != 0) = false) (ny : (y != 0) = true) (hg : ¬ g = 0) (d1 : IntKind.i64.wrap (x.tdiv g) = q1) (d2 : IntKind.i64.wrap (y.tdiv g) = q2) (d3 : IntKind.i64.wrap (z.tdiv g) = q3) (w : World)
    (KV0 : Hid (∀ w1 : World, Calls Tryz.prog 85 #[.int .i64 z, .int .i64 0] w1 fun e w' => e = .returned (.int .i64 g0) ∧ w1 = w'))
    (KV1 : Hid (∀ w1 : World, Calls Tryz.prog 85 #[.int .i64 x, .int .i64 y] w1 fun e w' => e = .returned (.int .i64 g1) ∧ w1 = w'))
    (KV2 : Hid (∀ w1 : World, Calls Tryz.prog 85 #[.int .i64 g1, .int .i64 z] w1 fun e w' => e = .returned (.int .i64 g) ∧ w1 = w')) :
    Calls Tryz.prog 77 #[.agg #[.int .i64 x, .int .i64 y, .int .i64 z]] w fun e w' => e = .returned (.agg #[.int .i64 q1, .int .i64 q2, .int .i64 q3]) ∧ Below w.heap.size w w' := by
  obtain ⟨W0, hW0⟩ : ∃ W0, ((w.alloc (.cells #[.int .i64 x, .int .i64 y, .int .i64 z] 23)).alloc (.cells #[.int .i64 0, .int .i64 0, .int .i64 0] 23)) = W0 := ⟨_, rfl⟩
  have K0 : Hid (Kp w W0 [(w.heap.size + 1, (.cells #[.int .i64 0, .int .i64 0, .int .i64 0] 23 (0, 0))), (w.heap.size, (.cells #[.int .i64 x, .int .i64 y, .int .i64 z] 23 (0, 0)))]) := Lib.hid (by
    rw [← hW0]
    have k := (((Kp.none w).alloc (.cells #[.int .i64 x, .int .i64 y, .int .i64 z] 23)).alloc (.cells #[.int .i64 0, .int .i64 0, .int .i64 0] 23))
    simpa using k)
  go_enter Tryz.func77, Tryz.ntmps77
  go_upto_region 1 with fail
  try rw [hW0]
  clear hW0
  obtain ⟨x0, x1, x2⟩ := cells3 (K0.out.2 _ (.tail _ (.head _)))
  go_upto_region 3 with (first
    | (go_at_call 85; (with_reducible refine (KV0.out _).mono ?_); rintro e w1 ⟨rfl, rfl⟩))
  clear x0 x1 x2
  apply wp_region_gives 8 (fun w' => Blw W0.heap.size W0 w') [.pointer (some ⟨w.heap.size, 0, none⟩), .int .i64 x, .pointer (some ⟨w.heap.size, 1, none⟩), .int .i64 y, .int .i64 g1, .pointer (some ⟨w.heap.size, 2, none⟩), .int .i64 z, .int .i64 g] (by kernel_rfl) (by kernel_rfl) (by kernel_rfl) (show Below _ _ _ from (Below.refl _ _).drew)
  case haF =>
    simp [putJs, Act.put, List.range, List.range.loop]
    exact rfl
  case h =>
    have hBe := K0.out.2 _ (.tail _ (.head _))
    simp only [List.take_succ_cons, List.take_zero, GivesL]
    clear K0
    refine ⟨?_, ?_, ?_, ?_, ?_, ?_, ?_, ?_, trivial⟩
    all_goals
      intro w1 hw1
      obtain ⟨e_0, e_1, e_2⟩ := cells3 (((show Below _ _ _ from hw1).block _ (lt_of_blk hBe)).trans hBe)
      unfold Oper.wp
      simp only [execOp]
      go_simp <;> first
        | exact ⟨rfl, hw1⟩
        | ((with_reducible refine (KV1.out _).mono ?_); rintro e w2 ⟨rfl, rfl⟩; exact ⟨rfl, hw1⟩)
        | ((with_reducible refine (KV2.out _).mono ?_); rintro e w2 ⟨rfl, rfl⟩; exact ⟨rfl, hw1⟩)
  case ht =>
  intro w5 hw5
  have K5 := Lib.hid (K0.out.call (show Below _ _ _ from hw5))
  clear hw5 K0
  simp only [List.drop_succ_cons, List.drop_zero]
  go_wp2_with fail
  apply wp_region_gives 13 (fun w' => Blw w5.heap.size w5 w') [.pointer (some ⟨w.heap.size, 0, none⟩), .int .i64 x, .int .i64 g, .int .i64 q1, .pointer (some ⟨w.heap.size, 1, none⟩), .int .i64 y, .int .i64 g, .int .i64 q2, .pointer (some ⟨w.heap.size, 2, none⟩), .int .i64 z, .int .i64 g, .int .i64 q3, .agg #[.int .i64 q1, .int .i64 q2, .int .i64 q3]] (by kernel_rfl) (by kernel_rfl) (by kernel_rfl) (show Below _ _ _ from (Below.refl _ _).drew)
  case haF =>
    simp [putJs, Act.put, List.range, List.range.loop]
    exact rfl
  case h =>
    have hBe := K5.out.2 _ (.tail _ (.head _))
    simp only [List.take_succ_cons, List.take_zero, GivesL]
    clear K5
    refine ⟨?_, ?_, ?_, ?_, ?_, ?_, ?_, ?_, ?_, ?_, ?_, ?_, ?_, trivial⟩
    all_goals
      intro w1 hw1
      obtain ⟨e_0, e_1, e_2⟩ := cells3 (((show Below _ _ _ from hw1).block _ (lt_of_blk hBe)).trans hBe)
      unfold Oper.wp
      simp only [execOp]
      go_simp <;> first
        | exact ⟨rfl, hw1⟩
  case ht =>
  intro w6 hw6
  have K6 := Lib.hid (K5.out.call (show Below _ _ _ from hw6))
  clear hw6 K5
  simp only [List.drop_succ_cons, List.drop_zero]
  obtain ⟨o0, o1, o2⟩ := cells3 (K6.out.2 _ (.head _))
  have oz : ∀ j, w6.frozen? ⟨w.heap.size + 1, j, none⟩ = false := fun j => frozen_of_row w6 (w.heap.size + 1) j _ _ (K6.out.2 _ (.head _))
  go_wp2_with fail
  refine bodyPost_ret (v := .agg #[.int .i64 q1, .int .i64 q2, .int .i64 q3]) (by simp [results, Tryz.results77, go_sem, o0, o1, o2]) rfl ⟨rfl, ?_⟩
  exact (((Kp.below K6.out).setCell (show w.heap.size ≤ w.heap.size + 1 by omega) _).setCell (show w.heap.size ≤ w.heap.size + 1 by omega) _).setCell (show w.heap.size ≤ w.heap.size + 1 by omega) _

set_option maxRecDepth 100000 in
set_option maxHeartbeats 6400000 in
theorem refReduced_c (x y z g0 g1 g q1 q2 q3 : Int) (nx : (x != 0) = false) (ny : (y != 0) = false) (hg : ¬ g = 0) (d1 : IntKind.i64.wrap (x.tdiv g) = q1) (d2 : IntKind.i64.wrap (y.tdiv g) = q2) (d3 : IntKind.i64.wrap (z.tdiv g) = q3) (w : World)
    (KV0 : Hid (∀ w1 : World, Calls Tryz.prog 85 #[.int .i64 z, .int .i64 0] w1 fun e w' => e = .returned (.int .i64 g) ∧ w1 = w')) :
    Calls Tryz.prog 77 #[.agg #[.int .i64 x, .int .i64 y, .int .i64 z]] w fun e w' => e = .returned (.agg #[.int .i64 q1, .int .i64 q2, .int .i64 q3]) ∧ Below w.heap.size w w' := by
  obtain ⟨W0, hW0⟩ : ∃ W0, ((w.alloc (.cells #[.int .i64 x, .int .i64 y, .int .i64 z] 23)).alloc (.cells #[.int .i64 0, .int .i64 0, .int .i64 0] 23)) = W0 := ⟨_, rfl⟩
  have K0 : Hid (Kp w W0 [(w.heap.size + 1, (.cells #[.int .i64 0, .int .i64 0, .int .i64 0] 23 (0, 0))), (w.heap.size, (.cells #[.int .i64 x, .int .i64 y, .int .i64 z] 23 (0, 0)))]) := Lib.hid (by
    rw [← hW0]
    have k := (((Kp.none w).alloc (.cells #[.int .i64 x, .int .i64 y, .int .i64 z] 23)).alloc (.cells #[.int .i64 0, .int .i64 0, .int .i64 0] 23))
    simpa using k)
  go_enter Tryz.func77, Tryz.ntmps77
  go_upto_region 1 with fail
  try rw [hW0]
  clear hW0
  obtain ⟨x0, x1, x2⟩ := cells3 (K0.out.2 _ (.tail _ (.head _)))
  go_upto_region 4 with (first
    | (go_at_call 85; (with_reducible refine (KV0.out _).mono ?_); rintro e w1 ⟨rfl, rfl⟩))
  clear x0 x1 x2
  apply wp_region_gives 13 (fun w' => Blw W0.heap.size W0 w') [.pointer (some ⟨w.heap.size, 0, none⟩), .int .i64 x, .int .i64 g, .int .i64 q1, .pointer (some ⟨w.heap.size, 1, none⟩), .int .i64 y, .int .i64 g, .int .i64 q2, .pointer (some ⟨w.heap.size, 2, none⟩), .int .i64 z, .int .i64 g, .int .i64 q3, .agg #[.int .i64 q1, .int .i64 q2, .int .i64 q3]] (by kernel_rfl) (by kernel_rfl) (by kernel_rfl) (show Below _ _ _ from (Below.refl _ _).drew)
  case haF =>
    simp [putJs, Act.put, List.range, List.range.loop]
    exact rfl
  case h =>
    have hBe := K0.out.2 _ (.tail _ (.head _))
    simp only [List.take_succ_cons, List.take_zero, GivesL]
    clear K0
    refine ⟨?_, ?_, ?_, ?_, ?_, ?_, ?_, ?_, ?_, ?_, ?_, ?_, ?_, trivial⟩
    all_goals
      intro w1 hw1
      obtain ⟨e_0, e_1, e_2⟩ := cells3 (((show Below _ _ _ from hw1).block _ (lt_of_blk hBe)).trans hBe)
      unfold Oper.wp
      simp only [execOp]
      go_simp <;> first
        | exact ⟨rfl, hw1⟩
  case ht =>
  intro w6 hw6
  have K6 := Lib.hid (K0.out.call (show Below _ _ _ from hw6))
  clear hw6 K0
  simp only [List.drop_succ_cons, List.drop_zero]
  obtain ⟨o0, o1, o2⟩ := cells3 (K6.out.2 _ (.head _))
  have oz : ∀ j, w6.frozen? ⟨w.heap.size + 1, j, none⟩ = false := fun j => frozen_of_row w6 (w.heap.size + 1) j _ _ (K6.out.2 _ (.head _))
  go_wp2_with fail
  refine bodyPost_ret (v := .agg #[.int .i64 q1, .int .i64 q2, .int .i64 q3]) (by simp [results, Tryz.results77, go_sem, o0, o1, o2]) rfl ⟨rfl, ?_⟩
  exact (((Kp.below K6.out).setCell (show w.heap.size ≤ w.heap.size + 1 by omega) _).setCell (show w.heap.size ≤ w.heap.size + 1 by omega) _).setCell (show w.heap.size ≤ w.heap.size + 1 by omega) _

/-- An integer of which twice as much is one of 64 bits. -/
def Half (n : Int) : Prop := -4611686018427387904 ≤ n ∧ n ≤ 4611686018427387904
theorem divR_gcd {x y : Int} (h : ¬ (x = 0 ∧ y = 0)) : divR x y = (Int.gcd x y : Int) := by
  unfold divR
  rw [if_neg]
  intro h0
  exact h (Int.gcd_eq_zero_iff.1 h0)
theorem wrap_tdiv {x g : Int} (hx : Half x) : IntKind.i64.wrap (x.tdiv g) = x.tdiv g := by
  have h := tdiv_le x g
  have hx1 := hx.1
  have hx2 := hx.2
  exact IntWalk.i64_in _ ⟨by omega, by omega⟩
set_option maxHeartbeats 800000 in
theorem refReduced_ok (x y z : Int) (hx : Half x) (hy : Half y) (hz : Half z) (h0 : ¬ (x = 0 ∧ y = 0 ∧ z = 0)) (w : World) :
    Calls Tryz.prog 77 #[.agg #[.int .i64 x, .int .i64 y, .int .i64 z]] w fun e w' => e = .returned (.agg #[.int .i64 (x.tdiv (g3 x y z)), .int .i64 (y.tdiv (g3 x y z)), .int .i64 (z.tdiv (g3 x y z))]) ∧ Below w.heap.size w w' := by
  have hg := g3_pos h0
  have d1 := wrap_tdiv (g := g3 x y z) hx
  have d2 := wrap_tdiv (g := g3 x y z) hy
  have d3 := wrap_tdiv (g := g3 x y z) hz
  have KV0 := fun w1 => refDivisor_all z 0 hz (by omega) w1
  by_cases h1 : x = 0 ∧ y = 0
  · obtain ⟨e1, e2⟩ := h1
    have hz0 : z ≠ 0 := fun h => h0 ⟨e1, e2, h⟩
    have e3 : divR z 0 = g3 x y z := by
      rw [divR_gcd (by omega), e1, e2]
      unfold g3
      rw [Int.gcd_zero]
      show (z.natAbs : Int) = (Int.gcd (Int.gcd 0 0 : Int) z : Int)
      rw [Int.gcd_zero]
      simp
    rw [e3] at KV0
    exact refReduced_c x y z 0 0 (g3 x y z) _ _ _ (by simp [e1]) (by simp [e2]) (by omega) d1 d2 d3 w (Lib.hid KV0)
  · have KV1 := fun w1 => refDivisor_all x y hx hy w1
    have e1 := divR_gcd h1
    have hgc : 0 < Int.gcd x y := Int.gcd_pos_iff.2 (by omega)
    have hb : Half (divR x y) := by
      have hx1 := hx.1
      have hx2 := hx.2
      have hy1 := hy.1
      have hy2 := hy.2
      exact divR_le (M := 4611686018427387904) (by decide) ⟨by omega, by omega⟩ ⟨by omega, by omega⟩
    have KV2 := fun w1 => refDivisor_all (divR x y) z hb hz w1
    have e3 : divR (divR x y) z = g3 x y z := by
      rw [divR_gcd (by omega), e1]
      rfl
    rw [e3] at KV2
    by_cases hx0 : x = 0
    · exact refReduced_b x y z _ _ (g3 x y z) _ _ _ (by simp [hx0]) (by simp; omega) (by omega) d1 d2 d3 w (Lib.hid KV0) (Lib.hid KV1) (Lib.hid KV2)
    · exact refReduced_a x y z _ _ (g3 x y z) _ _ _ (by simp [hx0]) (by omega) d1 d2 d3 w (Lib.hid KV0) (Lib.hid KV1) (Lib.hid KV2)

set_option maxRecDepth 100000 in
set_option maxHeartbeats 6400000 in
theorem refSame_walk (x y z a b c r1 r2 r3 s1 s2 s3 t1 t2 t3 : Int) (v1 v2 v3 : Bool) (e1 : (r1 == s1) = v1) (e2 : (r2 == s2) = v2) (e3 : (r3 == s3) = v3) (w : World)
    (KA : Hid (∀ w1 : World, Calls Tryz.prog 77 #[.agg #[.int .i64 x, .int .i64 y, .int .i64 z]] w1 fun e w' => e = .returned (.agg #[.int .i64 r1, .int .i64 r2, .int .i64 r3]) ∧ Below w1.heap.size w1 w'))
    (KB : Hid (∀ w1 : World, Calls Tryz.prog 77 #[.agg #[.int .i64 a, .int .i64 b, .int .i64 c]] w1 fun e w' => e = .returned (.agg #[.int .i64 s1, .int .i64 s2, .int .i64 s3]) ∧ Below w1.heap.size w1 w')) :
    Calls Tryz.prog 53 #[.agg #[.int .i64 x, .int .i64 y, .int .i64 z], .agg #[.int .i64 a, .int .i64 b, .int .i64 c]] w fun e w' => e = .returned (.bool (v1 && (v2 && v3))) ∧ Below w.heap.size w w' := by
  obtain ⟨W0, hW0⟩ : ∃ W0, ((w.alloc (.cells #[.int .i64 x, .int .i64 y, .int .i64 z] 23)).alloc (.cells #[.int .i64 a, .int .i64 b, .int .i64 c] 23)) = W0 := ⟨_, rfl⟩
  have K0 : Hid (Kp w W0 [(w.heap.size + 1, (.cells #[.int .i64 a, .int .i64 b, .int .i64 c] 23 (0, 0))), (w.heap.size, (.cells #[.int .i64 x, .int .i64 y, .int .i64 z] 23 (0, 0)))]) := Lib.hid (by
    rw [← hW0]
    have k := (((Kp.none w).alloc (.cells #[.int .i64 x, .int .i64 y, .int .i64 z] 23)).alloc (.cells #[.int .i64 a, .int .i64 b, .int .i64 c] 23))
    simpa using k)
  go_enter Tryz.func53, Tryz.ntmps53
  go_upto_region 1 with fail
  try rw [hW0]
  clear hW0
  apply wp_region_gives 4 (fun w' => Blw W0.heap.size W0 w') [.agg #[.int .i64 x, .int .i64 y, .int .i64 z], .agg #[.int .i64 r1, .int .i64 r2, .int .i64 r3], .agg #[.int .i64 a, .int .i64 b, .int .i64 c], .agg #[.int .i64 s1, .int .i64 s2, .int .i64 s3]] (by kernel_rfl) (by kernel_rfl) (by kernel_rfl) (show Below _ _ _ from (Below.refl _ _).drew)
  case haF =>
    simp [putJs, Act.put, List.range, List.range.loop]
    exact rfl
  case h =>
    have hBe := K0.out.2 _ (.tail _ (.head _))
    have hBh := K0.out.2 _ (.head _)
    simp only [List.take_succ_cons, List.take_zero, GivesL]
    clear K0
    refine ⟨?_, ?_, ?_, ?_, trivial⟩
    all_goals
      intro w1 hw1
      obtain ⟨e_0, e_1, e_2⟩ := cells3 (((show Below _ _ _ from hw1).block _ (lt_of_blk hBe)).trans hBe)
      obtain ⟨h_0, h_1, h_2⟩ := cells3 (((show Below _ _ _ from hw1).block _ (lt_of_blk hBh)).trans hBh)
      unfold Oper.wp
      simp only [execOp]
      go_simp <;> first
        | exact ⟨rfl, hw1⟩
        | ((with_reducible refine (KA.out _).mono ?_); rintro e w2 ⟨rfl, hb⟩; exact ⟨rfl, below_call hb hw1⟩)
        | ((with_reducible refine (KB.out _).mono ?_); rintro e w2 ⟨rfl, hb⟩; exact ⟨rfl, below_call hb hw1⟩)
  case ht =>
    intro w5 hw5
    have hb5 := Lib.hid ((Kp.below K0.out).trans ((show Below _ _ _ from hw5).mono (Kp.below K0.out).size))
    clear hw5 K0
    simp only [List.drop_succ_cons, List.drop_zero]
    cases v1 <;> cases v2 <;> cases v3 <;> (go_wp2_with fail; go_ret; exact ⟨rfl, hb5.out⟩)

set_option maxRecDepth 100000 in
set_option maxHeartbeats 6400000 in
theorem refOpposite_walk (x y z a b c r1 r2 r3 s1 s2 s3 t1 t2 t3 : Int) (v1 v2 v3 : Bool) (e1 : (r1 == t1) = v1) (e2 : (r2 == t2) = v2) (e3 : (r3 == t3) = v3) (w : World)
    (KA : Hid (∀ w1 : World, Calls Tryz.prog 77 #[.agg #[.int .i64 x, .int .i64 y, .int .i64 z]] w1 fun e w' => e = .returned (.agg #[.int .i64 r1, .int .i64 r2, .int .i64 r3]) ∧ Below w1.heap.size w1 w'))
    (KB : Hid (∀ w1 : World, Calls Tryz.prog 77 #[.agg #[.int .i64 a, .int .i64 b, .int .i64 c]] w1 fun e w' => e = .returned (.agg #[.int .i64 s1, .int .i64 s2, .int .i64 s3]) ∧ Below w1.heap.size w1 w'))
    (KT : Hid (∀ w1 : World, Calls Tryz.prog 23 #[.agg #[.int .i64 s1, .int .i64 s2, .int .i64 s3], .int .i64 (-1)] w1 fun e w' => e = .returned (.agg #[.int .i64 t1, .int .i64 t2, .int .i64 t3]) ∧ Below w1.heap.size w1 w')) :
    Calls Tryz.prog 26 #[.agg #[.int .i64 x, .int .i64 y, .int .i64 z], .agg #[.int .i64 a, .int .i64 b, .int .i64 c]] w fun e w' => e = .returned (.bool (v1 && (v2 && v3))) ∧ Below w.heap.size w w' := by
  obtain ⟨W0, hW0⟩ : ∃ W0, ((w.alloc (.cells #[.int .i64 x, .int .i64 y, .int .i64 z] 23)).alloc (.cells #[.int .i64 a, .int .i64 b, .int .i64 c] 23)) = W0 := ⟨_, rfl⟩
  have K0 : Hid (Kp w W0 [(w.heap.size + 1, (.cells #[.int .i64 a, .int .i64 b, .int .i64 c] 23 (0, 0))), (w.heap.size, (.cells #[.int .i64 x, .int .i64 y, .int .i64 z] 23 (0, 0)))]) := Lib.hid (by
    rw [← hW0]
    have k := (((Kp.none w).alloc (.cells #[.int .i64 x, .int .i64 y, .int .i64 z] 23)).alloc (.cells #[.int .i64 a, .int .i64 b, .int .i64 c] 23))
    simpa using k)
  go_enter Tryz.func26, Tryz.ntmps26
  go_upto_region 1 with fail
  try rw [hW0]
  clear hW0
  apply wp_region_gives 5 (fun w' => Blw W0.heap.size W0 w') [.agg #[.int .i64 x, .int .i64 y, .int .i64 z], .agg #[.int .i64 r1, .int .i64 r2, .int .i64 r3], .agg #[.int .i64 a, .int .i64 b, .int .i64 c], .agg #[.int .i64 s1, .int .i64 s2, .int .i64 s3], .agg #[.int .i64 t1, .int .i64 t2, .int .i64 t3]] (by kernel_rfl) (by kernel_rfl) (by kernel_rfl) (show Below _ _ _ from (Below.refl _ _).drew)
  case haF =>
    simp [putJs, Act.put, List.range, List.range.loop]
    exact rfl
  case h =>
    have hBe := K0.out.2 _ (.tail _ (.head _))
    have hBh := K0.out.2 _ (.head _)
    simp only [List.take_succ_cons, List.take_zero, GivesL]
    clear K0
    refine ⟨?_, ?_, ?_, ?_, ?_, trivial⟩
    all_goals
      intro w1 hw1
      obtain ⟨e_0, e_1, e_2⟩ := cells3 (((show Below _ _ _ from hw1).block _ (lt_of_blk hBe)).trans hBe)
      obtain ⟨h_0, h_1, h_2⟩ := cells3 (((show Below _ _ _ from hw1).block _ (lt_of_blk hBh)).trans hBh)
      unfold Oper.wp
      simp only [execOp]
      go_simp <;> first
        | exact ⟨rfl, hw1⟩
        | ((with_reducible refine (KA.out _).mono ?_); rintro e w2 ⟨rfl, hb⟩; exact ⟨rfl, below_call hb hw1⟩)
        | ((with_reducible refine (KB.out _).mono ?_); rintro e w2 ⟨rfl, hb⟩; exact ⟨rfl, below_call hb hw1⟩)
        | ((with_reducible refine (KT.out _).mono ?_); rintro e w2 ⟨rfl, hb⟩; exact ⟨rfl, below_call hb hw1⟩)
  case ht =>
    intro w5 hw5
    have hb5 := Lib.hid ((Kp.below K0.out).trans ((show Below _ _ _ from hw5).mono (Kp.below K0.out).size))
    clear hw5 K0
    simp only [List.drop_succ_cons, List.drop_zero]
    cases v1 <;> cases v2 <;> cases v3 <;> (go_wp2_with fail; go_ret; exact ⟨rfl, hb5.out⟩)

theorem half_ray {x : Int} (h : -4096 ≤ x ∧ x ≤ 4096) : Half x := ⟨by omega, by omega⟩
theorem refReduced_ray {x y z : Int} (he : rayErr x y z = 0) (w : World) :
    Calls Tryz.prog 77 #[.agg #[.int .i64 x, .int .i64 y, .int .i64 z]] w fun e w' => e = .returned (.agg #[.int .i64 (x.tdiv (g3 x y z)), .int .i64 (y.tdiv (g3 x y z)), .int .i64 (z.tdiv (g3 x y z))]) ∧ Below w.heap.size w w' := by
  obtain ⟨e1, h1, h2, h3⟩ := ray_ok he
  exact refReduced_ok x y z (half_ray h1) (half_ray h2) (half_ray h3) (dir_ok e1).1 w
theorem bool3 {p q r : Prop} [Decidable p] [Decidable q] [Decidable r] : (decide p && (decide q && decide r)) = decide (p ∧ q ∧ r) := by
  by_cases h1 : p <;> by_cases h2 : q <;> by_cases h3 : r <;> simp [h1, h2, h3]
theorem refSame_ok {x y z a b c : Int} (he : rayErr x y z = 0) (hf : rayErr a b c = 0) (w : World) :
    Calls Tryz.prog 53 #[.agg #[.int .i64 x, .int .i64 y, .int .i64 z], .agg #[.int .i64 a, .int .i64 b, .int .i64 c]] w fun e w' => e = .returned (.bool (sameB x y z a b c)) ∧ Below w.heap.size w w' := by
  have h := refSame_walk x y z a b c _ _ _ _ _ _ 0 0 0 _ _ _ rfl rfl rfl w (Lib.hid fun w1 => refReduced_ray he w1) (Lib.hid fun w1 => refReduced_ray hf w1)
  have e : sameB x y z a b c = ((x.tdiv (g3 x y z) == a.tdiv (g3 a b c)) && ((y.tdiv (g3 x y z) == b.tdiv (g3 a b c)) && (z.tdiv (g3 x y z) == c.tdiv (g3 a b c)))) := by
    unfold sameB
    simp only [List.cons.injEq, and_true]
    exact bool3.symm
  rw [e]
  exact h
theorem refOpposite_ok {x y z a b c : Int} (he : rayErr x y z = 0) (hf : rayErr a b c = 0) (w : World) :
    Calls Tryz.prog 26 #[.agg #[.int .i64 x, .int .i64 y, .int .i64 z], .agg #[.int .i64 a, .int .i64 b, .int .i64 c]] w fun e w' => e = .returned (.bool (oppB x y z a b c)) ∧ Below w.heap.size w w' := by
  have hB := red_of (dir_ok (ray_ok hf).1).1
  obtain ⟨_, h1, h2, h3⟩ := ray_ok hf
  obtain ⟨i1, i2, i3⟩ := red_small (M := 4096) hB h1 h2 h3
  have KT := fun w1 => refTimes_any (a.tdiv (g3 a b c)) (b.tdiv (g3 a b c)) (c.tdiv (g3 a b c)) (-1) (fit_small i1 (by omega)) (fit_small i2 (by omega)) (fit_small i3 (by omega)) w1
  have h := refOpposite_walk x y z a b c _ _ _ _ _ _ _ _ _ _ _ _ rfl rfl rfl w (Lib.hid fun w1 => refReduced_ray he w1) (Lib.hid fun w1 => refReduced_ray hf w1) (Lib.hid KT)
  have m : ∀ n : Int, n * -1 = -n := fun n => by omega
  have e : oppB x y z a b c = ((x.tdiv (g3 x y z) == a.tdiv (g3 a b c) * -1) && ((y.tdiv (g3 x y z) == b.tdiv (g3 a b c) * -1) && (z.tdiv (g3 x y z) == c.tdiv (g3 a b c) * -1))) := by
    unfold oppB
    rw [m, m, m]
    exact bool3.symm
  rw [e]
  exact h

set_option maxRecDepth 100000 in
set_option maxHeartbeats 6400000 in
theorem refCheckTurns_ok (x y z num den a b c d i f : Int) (he : rayErr a b c = 0) (hf : rayErr d i f = 0) (w : World) :
    Calls Tryz.prog 14 #[.agg #[.int .i64 x, .int .i64 y, .int .i64 z, .int .i64 num, .int .i64 den], .agg #[.int .i64 a, .int .i64 b, .int .i64 c], .agg #[.int .i64 d, .int .i64 i, .int .i64 f]] w fun e w' => e = .returned (.int .i64 (firstNZ [vectorErrL 256 x y z, vectorErrL 256 a b c, vectorErrL 256 d i f, if oppB a b c d i f = true then 1 else 0])) ∧ Below w.heap.size w w' := by
  obtain ⟨e1, he1⟩ : ∃ e : Int, vectorErrL 256 x y z = e := ⟨_, rfl⟩
  obtain ⟨e2, he2⟩ : ∃ e : Int, vectorErrL 256 a b c = e := ⟨_, rfl⟩
  obtain ⟨e3, he3⟩ : ∃ e : Int, vectorErrL 256 d i f = e := ⟨_, rfl⟩
  obtain ⟨bo, hbo⟩ : ∃ v : Bool, oppB a b c d i f = v := ⟨_, rfl⟩
  obtain ⟨e4, he4⟩ : ∃ n : Int, (if bo = true then (1 : Int) else 0) = n := ⟨_, rfl⟩
  have KX : Hid (∀ w1 : World, Calls Tryz.prog 51 #[.agg #[.int .i64 x, .int .i64 y, .int .i64 z], .int .i64 256] w1 fun e w' => e = .returned (.int .i64 e1) ∧ Below w1.heap.size w1 w') := Lib.hid fun w1 => by
    have h := refWithin_all x y z 256 (by omega) w1
    rwa [he1] at h
  have KY : Hid (∀ w1 : World, Calls Tryz.prog 51 #[.agg #[.int .i64 a, .int .i64 b, .int .i64 c], .int .i64 256] w1 fun e w' => e = .returned (.int .i64 e2) ∧ Below w1.heap.size w1 w') := Lib.hid fun w1 => by
    have h := refWithin_all a b c 256 (by omega) w1
    rwa [he2] at h
  have KZ : Hid (∀ w1 : World, Calls Tryz.prog 51 #[.agg #[.int .i64 d, .int .i64 i, .int .i64 f], .int .i64 256] w1 fun e w' => e = .returned (.int .i64 e3) ∧ Below w1.heap.size w1 w') := Lib.hid fun w1 => by
    have h := refWithin_all d i f 256 (by omega) w1
    rwa [he3] at h
  have KO : Hid (∀ w1 : World, Calls Tryz.prog 26 #[.agg #[.int .i64 a, .int .i64 b, .int .i64 c], .agg #[.int .i64 d, .int .i64 i, .int .i64 f]] w1 fun e w' => e = .returned (.bool bo) ∧ Below w1.heap.size w1 w') := Lib.hid fun w1 => by
    have h := refOpposite_ok he hf w1
    rwa [hbo] at h
  have KW : Hid (∀ w1 : World, Calls Tryz.prog 52 #[.bool bo, .int .i64 1] w1 fun e w' => e = .returned (.int .i64 e4) ∧ w1 = w') := Lib.hid fun w1 => by
    have h := when_any bo 1 w1
    rwa [he4] at h
  rw [he1, he2, he3, hbo, he4]
  clear he1 he2 he3 hbo he4 he hf
  obtain ⟨E, hE⟩ : ∃ E : Int, firstNZ [e1, e2, e3, e4] = E := ⟨_, rfl⟩
  have KF : Hid (∀ (w1 : World) (b : Nat), (∀ j, j < 4 → w1.cell? ⟨b, 0 + j, none⟩ = some (.int .i64 (([e1, e2, e3, e4] : List Int)[j]?.getD 0))) → Calls Tryz.prog 49 #[.slice (some ⟨b, 0, none⟩) 4 4] w1 fun e w' => e = .returned (.int .i64 E) ∧ w1 = w') := Lib.hid fun w1 b h => by
    have k := refFirst_any b 0 4 4 [e1, e2, e3, e4] rfl (by omega) w1 h
    rwa [hE] at k
  rw [hE]
  clear hE
  obtain ⟨W0, hW0⟩ : ∃ W0, (((w.alloc (.cells #[.int .i64 x, .int .i64 y, .int .i64 z, .int .i64 num, .int .i64 den] 25)).alloc (.cells #[.int .i64 a, .int .i64 b, .int .i64 c] 23)).alloc (.cells #[.int .i64 d, .int .i64 i, .int .i64 f] 23)) = W0 := ⟨_, rfl⟩
  have K0 : Hid (Kp w W0 [(w.heap.size + 1 + 1, (.cells #[.int .i64 d, .int .i64 i, .int .i64 f] 23 (0, 0))), (w.heap.size + 1, (.cells #[.int .i64 a, .int .i64 b, .int .i64 c] 23 (0, 0))), (w.heap.size, (.cells #[.int .i64 x, .int .i64 y, .int .i64 z, .int .i64 num, .int .i64 den] 25 (0, 0)))]) := Lib.hid (by
    rw [← hW0]
    have k := ((((Kp.none w).alloc (.cells #[.int .i64 x, .int .i64 y, .int .i64 z, .int .i64 num, .int .i64 den] 25)).alloc (.cells #[.int .i64 a, .int .i64 b, .int .i64 c] 23)).alloc (.cells #[.int .i64 d, .int .i64 i, .int .i64 f] 23))
    simpa using k)
  go_enter Tryz.func14, Tryz.ntmps14
  go_upto_region 1 with fail
  try rw [hW0]
  clear hW0
  apply wp_region_gives 11 (fun w' => Blw W0.heap.size W0 w') [.pointer (some ⟨w.heap.size, 0, none⟩), .agg #[.int .i64 x, .int .i64 y, .int .i64 z], .int .i64 e1, .agg #[.int .i64 a, .int .i64 b, .int .i64 c], .int .i64 e2, .agg #[.int .i64 d, .int .i64 i, .int .i64 f], .int .i64 e3, .agg #[.int .i64 a, .int .i64 b, .int .i64 c], .agg #[.int .i64 d, .int .i64 i, .int .i64 f], .bool bo, .int .i64 e4] (by kernel_rfl) (by kernel_rfl) (by kernel_rfl) (show Below _ _ _ from (Below.refl _ _).drew)
  case haF =>
    simp [putJs, Act.put, List.range, List.range.loop]
    exact rfl
  case h =>
    have hBq := K0.out.2 _ (.tail _ (.tail _ (.head _)))
    have hBr := K0.out.2 _ (.tail _ (.head _))
    have hBs := K0.out.2 _ (.head _)
    simp only [List.take_succ_cons, List.take_zero, GivesL]
    clear K0
    refine ⟨?_, ?_, ?_, ?_, ?_, ?_, ?_, ?_, ?_, ?_, ?_, trivial⟩
    all_goals
      intro w1 hw1
      obtain ⟨q_0, q_1, q_2, q_3, q_4⟩ := cells5 (((show Below _ _ _ from hw1).block _ (lt_of_blk hBq)).trans hBq)
      obtain ⟨r_0, r_1, r_2⟩ := cells3 (((show Below _ _ _ from hw1).block _ (lt_of_blk hBr)).trans hBr)
      obtain ⟨s_0, s_1, s_2⟩ := cells3 (((show Below _ _ _ from hw1).block _ (lt_of_blk hBs)).trans hBs)
      unfold Oper.wp
      simp only [execOp]
      go_simp <;> first
        | exact ⟨rfl, hw1⟩
        | ((with_reducible refine (KX.out _).mono ?_); rintro e w2 ⟨rfl, hb⟩; exact ⟨rfl, below_call hb hw1⟩)
        | ((with_reducible refine (KY.out _).mono ?_); rintro e w2 ⟨rfl, hb⟩; exact ⟨rfl, below_call hb hw1⟩)
        | ((with_reducible refine (KZ.out _).mono ?_); rintro e w2 ⟨rfl, hb⟩; exact ⟨rfl, below_call hb hw1⟩)
        | ((with_reducible refine (KO.out _).mono ?_); rintro e w2 ⟨rfl, hb⟩; exact ⟨rfl, below_call hb hw1⟩)
        | ((with_reducible refine (KW.out _).mono ?_); rintro e w2 ⟨rfl, rfl⟩; exact ⟨rfl, hw1⟩)
  case ht =>
    intro w2 hw5
    have K2 := Lib.hid (K0.out.call (show Below _ _ _ from hw5))
    clear hw5 K0
    simp only [List.drop_succ_cons, List.drop_zero]
    go_wp2_with (first
      | (go_at_call 49; (with_reducible refine (KF.out _ _ ?_).mono ?_); rotate_left 1; rintro e w6 ⟨rfl, rfl⟩; rotate_left 1; (intro j hj; match j, hj with | 0, _ => simp [go_sem] | 1, _ => simp [go_sem] | 2, _ => simp [go_sem] | 3, _ => simp [go_sem])))
    go_ret
    exact ⟨rfl, (Kp.below K2.out).alloc (Kp.below K2.out).size _⟩
end Go.Proofs.YtggffhmdgceljaaGreatDoor

/-
  The walks of the reference's Meets.
-/
namespace Go.Proofs.YtggffhmdgceljaaGreatDoor
open Go.RowKit
set_option linter.unusedVariables false
set_option linter.unusedSimpArgs false

set_option maxRecDepth 100000 in
set_option maxHeartbeats 6400000 in
theorem refMeets_in1 (x y z num den a b c d i f : Int) (w : World)
    (KI1 : Hid (∀ w1 : World, Calls Tryz.prog 13 #[.agg #[.int .i64 x, .int .i64 y, .int .i64 z, .int .i64 num, .int .i64 den], .agg #[.int .i64 a, .int .i64 b, .int .i64 c]] w1 fun e w' => e = .returned (.bool true) ∧ Below w1.heap.size w1 w')) :
    Calls Tryz.prog 15 #[.agg #[.int .i64 x, .int .i64 y, .int .i64 z, .int .i64 num, .int .i64 den], .agg #[.int .i64 a, .int .i64 b, .int .i64 c], .agg #[.int .i64 d, .int .i64 i, .int .i64 f]] w fun e w' => e = .returned (.bool true) ∧ Below w.heap.size w w' := by
  obtain ⟨W0, hW0⟩ : ∃ W0, (((w.alloc (.cells #[.int .i64 x, .int .i64 y, .int .i64 z, .int .i64 num, .int .i64 den] 25)).alloc (.cells #[.int .i64 a, .int .i64 b, .int .i64 c] 23)).alloc (.cells #[.int .i64 d, .int .i64 i, .int .i64 f] 23)) = W0 := ⟨_, rfl⟩
  have K0 : Hid (Kp w W0 [(w.heap.size + 1 + 1, (.cells #[.int .i64 d, .int .i64 i, .int .i64 f] 23 (0, 0))), (w.heap.size + 1, (.cells #[.int .i64 a, .int .i64 b, .int .i64 c] 23 (0, 0))), (w.heap.size, (.cells #[.int .i64 x, .int .i64 y, .int .i64 z, .int .i64 num, .int .i64 den] 25 (0, 0)))]) := Lib.hid (by
    rw [← hW0]
    have k := ((((Kp.none w).alloc (.cells #[.int .i64 x, .int .i64 y, .int .i64 z, .int .i64 num, .int .i64 den] 25)).alloc (.cells #[.int .i64 a, .int .i64 b, .int .i64 c] 23)).alloc (.cells #[.int .i64 d, .int .i64 i, .int .i64 f] 23))
    simpa using k)
  go_enter Tryz.func15, Tryz.ntmps15
  go_upto_region 1 with fail
  try rw [hW0]
  clear hW0
  obtain ⟨x0, x1, x2, x3, x4⟩ := cells5 (K0.out.2 _ (.tail _ (.tail _ (.head _)))); obtain ⟨a0, a1, a2⟩ := cells3 (K0.out.2 _ (.tail _ (.head _))); obtain ⟨d0, d1, d2⟩ := cells3 (K0.out.2 _ (.head _))
  go_wp2_with (first
    | (go_at_call 13; (with_reducible refine (KI1.out _).mono ?_); rintro e w1 ⟨rfl, hb1⟩; have K1 := Lib.hid (K0.out.call hb1); clear hb1; clear x0 x1 x2 x3 x4 a0 a1 a2 d0 d1 d2; obtain ⟨x0, x1, x2, x3, x4⟩ := cells5 (K1.out.2 _ (.tail _ (.tail _ (.head _)))); obtain ⟨a0, a1, a2⟩ := cells3 (K1.out.2 _ (.tail _ (.head _))); obtain ⟨d0, d1, d2⟩ := cells3 (K1.out.2 _ (.head _))))
  go_ret
  exact ⟨rfl, Kp.below K1.out⟩

set_option maxRecDepth 100000 in
set_option maxHeartbeats 6400000 in
theorem refMeets_in2 (x y z num den a b c d i f : Int) (w : World)
    (KI1 : Hid (∀ w1 : World, Calls Tryz.prog 13 #[.agg #[.int .i64 x, .int .i64 y, .int .i64 z, .int .i64 num, .int .i64 den], .agg #[.int .i64 a, .int .i64 b, .int .i64 c]] w1 fun e w' => e = .returned (.bool false) ∧ Below w1.heap.size w1 w'))
    (KI2 : Hid (∀ w1 : World, Calls Tryz.prog 13 #[.agg #[.int .i64 x, .int .i64 y, .int .i64 z, .int .i64 num, .int .i64 den], .agg #[.int .i64 d, .int .i64 i, .int .i64 f]] w1 fun e w' => e = .returned (.bool true) ∧ Below w1.heap.size w1 w')) :
    Calls Tryz.prog 15 #[.agg #[.int .i64 x, .int .i64 y, .int .i64 z, .int .i64 num, .int .i64 den], .agg #[.int .i64 a, .int .i64 b, .int .i64 c], .agg #[.int .i64 d, .int .i64 i, .int .i64 f]] w fun e w' => e = .returned (.bool true) ∧ Below w.heap.size w w' := by
  obtain ⟨W0, hW0⟩ : ∃ W0, (((w.alloc (.cells #[.int .i64 x, .int .i64 y, .int .i64 z, .int .i64 num, .int .i64 den] 25)).alloc (.cells #[.int .i64 a, .int .i64 b, .int .i64 c] 23)).alloc (.cells #[.int .i64 d, .int .i64 i, .int .i64 f] 23)) = W0 := ⟨_, rfl⟩
  have K0 : Hid (Kp w W0 [(w.heap.size + 1 + 1, (.cells #[.int .i64 d, .int .i64 i, .int .i64 f] 23 (0, 0))), (w.heap.size + 1, (.cells #[.int .i64 a, .int .i64 b, .int .i64 c] 23 (0, 0))), (w.heap.size, (.cells #[.int .i64 x, .int .i64 y, .int .i64 z, .int .i64 num, .int .i64 den] 25 (0, 0)))]) := Lib.hid (by
    rw [← hW0]
    have k := ((((Kp.none w).alloc (.cells #[.int .i64 x, .int .i64 y, .int .i64 z, .int .i64 num, .int .i64 den] 25)).alloc (.cells #[.int .i64 a, .int .i64 b, .int .i64 c] 23)).alloc (.cells #[.int .i64 d, .int .i64 i, .int .i64 f] 23))
    simpa using k)
  go_enter Tryz.func15, Tryz.ntmps15
  go_upto_region 1 with fail
  try rw [hW0]
  clear hW0
  obtain ⟨x0, x1, x2, x3, x4⟩ := cells5 (K0.out.2 _ (.tail _ (.tail _ (.head _)))); obtain ⟨a0, a1, a2⟩ := cells3 (K0.out.2 _ (.tail _ (.head _))); obtain ⟨d0, d1, d2⟩ := cells3 (K0.out.2 _ (.head _))
  go_wp2_with (first
    | (go_at_call 13; (with_reducible refine (KI1.out _).mono ?_); rintro e w1 ⟨rfl, hb1⟩; have K1 := Lib.hid (K0.out.call hb1); clear hb1; clear x0 x1 x2 x3 x4 a0 a1 a2 d0 d1 d2; obtain ⟨x0, x1, x2, x3, x4⟩ := cells5 (K1.out.2 _ (.tail _ (.tail _ (.head _)))); obtain ⟨a0, a1, a2⟩ := cells3 (K1.out.2 _ (.tail _ (.head _))); obtain ⟨d0, d1, d2⟩ := cells3 (K1.out.2 _ (.head _)))
    | (go_at_call 13; (with_reducible refine (KI2.out _).mono ?_); rintro e w2 ⟨rfl, hb2⟩; have K2 := Lib.hid (K1.out.call hb2); clear hb2; clear x0 x1 x2 x3 x4 a0 a1 a2 d0 d1 d2; obtain ⟨x0, x1, x2, x3, x4⟩ := cells5 (K2.out.2 _ (.tail _ (.tail _ (.head _)))); obtain ⟨a0, a1, a2⟩ := cells3 (K2.out.2 _ (.tail _ (.head _))); obtain ⟨d0, d1, d2⟩ := cells3 (K2.out.2 _ (.head _))))
  go_ret
  exact ⟨rfl, Kp.below K2.out⟩

set_option maxRecDepth 100000 in
set_option maxHeartbeats 6400000 in
theorem refMeets_same (x y z num den a b c d i f : Int) (w : World)
    (KI1 : Hid (∀ w1 : World, Calls Tryz.prog 13 #[.agg #[.int .i64 x, .int .i64 y, .int .i64 z, .int .i64 num, .int .i64 den], .agg #[.int .i64 a, .int .i64 b, .int .i64 c]] w1 fun e w' => e = .returned (.bool false) ∧ Below w1.heap.size w1 w'))
    (KI2 : Hid (∀ w1 : World, Calls Tryz.prog 13 #[.agg #[.int .i64 x, .int .i64 y, .int .i64 z, .int .i64 num, .int .i64 den], .agg #[.int .i64 d, .int .i64 i, .int .i64 f]] w1 fun e w' => e = .returned (.bool false) ∧ Below w1.heap.size w1 w'))
    (KS : Hid (∀ w1 : World, Calls Tryz.prog 53 #[.agg #[.int .i64 a, .int .i64 b, .int .i64 c], .agg #[.int .i64 d, .int .i64 i, .int .i64 f]] w1 fun e w' => e = .returned (.bool true) ∧ Below w1.heap.size w1 w')) :
    Calls Tryz.prog 15 #[.agg #[.int .i64 x, .int .i64 y, .int .i64 z, .int .i64 num, .int .i64 den], .agg #[.int .i64 a, .int .i64 b, .int .i64 c], .agg #[.int .i64 d, .int .i64 i, .int .i64 f]] w fun e w' => e = .returned (.bool false) ∧ Below w.heap.size w w' := by
  obtain ⟨W0, hW0⟩ : ∃ W0, (((w.alloc (.cells #[.int .i64 x, .int .i64 y, .int .i64 z, .int .i64 num, .int .i64 den] 25)).alloc (.cells #[.int .i64 a, .int .i64 b, .int .i64 c] 23)).alloc (.cells #[.int .i64 d, .int .i64 i, .int .i64 f] 23)) = W0 := ⟨_, rfl⟩
  have K0 : Hid (Kp w W0 [(w.heap.size + 1 + 1, (.cells #[.int .i64 d, .int .i64 i, .int .i64 f] 23 (0, 0))), (w.heap.size + 1, (.cells #[.int .i64 a, .int .i64 b, .int .i64 c] 23 (0, 0))), (w.heap.size, (.cells #[.int .i64 x, .int .i64 y, .int .i64 z, .int .i64 num, .int .i64 den] 25 (0, 0)))]) := Lib.hid (by
    rw [← hW0]
    have k := ((((Kp.none w).alloc (.cells #[.int .i64 x, .int .i64 y, .int .i64 z, .int .i64 num, .int .i64 den] 25)).alloc (.cells #[.int .i64 a, .int .i64 b, .int .i64 c] 23)).alloc (.cells #[.int .i64 d, .int .i64 i, .int .i64 f] 23))
    simpa using k)
  go_enter Tryz.func15, Tryz.ntmps15
  go_upto_region 1 with fail
  try rw [hW0]
  clear hW0
  obtain ⟨x0, x1, x2, x3, x4⟩ := cells5 (K0.out.2 _ (.tail _ (.tail _ (.head _)))); obtain ⟨a0, a1, a2⟩ := cells3 (K0.out.2 _ (.tail _ (.head _))); obtain ⟨d0, d1, d2⟩ := cells3 (K0.out.2 _ (.head _))
  go_wp2_with (first
    | (go_at_call 13; (with_reducible refine (KI1.out _).mono ?_); rintro e w1 ⟨rfl, hb1⟩; have K1 := Lib.hid (K0.out.call hb1); clear hb1; clear x0 x1 x2 x3 x4 a0 a1 a2 d0 d1 d2; obtain ⟨x0, x1, x2, x3, x4⟩ := cells5 (K1.out.2 _ (.tail _ (.tail _ (.head _)))); obtain ⟨a0, a1, a2⟩ := cells3 (K1.out.2 _ (.tail _ (.head _))); obtain ⟨d0, d1, d2⟩ := cells3 (K1.out.2 _ (.head _)))
    | (go_at_call 13; (with_reducible refine (KI2.out _).mono ?_); rintro e w2 ⟨rfl, hb2⟩; have K2 := Lib.hid (K1.out.call hb2); clear hb2; clear x0 x1 x2 x3 x4 a0 a1 a2 d0 d1 d2; obtain ⟨x0, x1, x2, x3, x4⟩ := cells5 (K2.out.2 _ (.tail _ (.tail _ (.head _)))); obtain ⟨a0, a1, a2⟩ := cells3 (K2.out.2 _ (.tail _ (.head _))); obtain ⟨d0, d1, d2⟩ := cells3 (K2.out.2 _ (.head _)))
    | (go_at_call 53; (with_reducible refine (KS.out _).mono ?_); rintro e w3 ⟨rfl, hb3⟩; have K3 := Lib.hid (K2.out.call hb3); clear hb3; clear x0 x1 x2 x3 x4 a0 a1 a2 d0 d1 d2; obtain ⟨x0, x1, x2, x3, x4⟩ := cells5 (K3.out.2 _ (.tail _ (.tail _ (.head _)))); obtain ⟨a0, a1, a2⟩ := cells3 (K3.out.2 _ (.tail _ (.head _))); obtain ⟨d0, d1, d2⟩ := cells3 (K3.out.2 _ (.head _))))
  go_ret
  exact ⟨rfl, Kp.below K3.out⟩

set_option maxRecDepth 100000 in
set_option maxHeartbeats 6400000 in
theorem refMeets_yes (x y z num den a b c d i f pp pq qq ap aq aa m1 m2 X m3 m4 Y : Int) (w : World)
    (KI1 : Hid (∀ w1 : World, Calls Tryz.prog 13 #[.agg #[.int .i64 x, .int .i64 y, .int .i64 z, .int .i64 num, .int .i64 den], .agg #[.int .i64 a, .int .i64 b, .int .i64 c]] w1 fun e w' => e = .returned (.bool false) ∧ Below w1.heap.size w1 w'))
    (KI2 : Hid (∀ w1 : World, Calls Tryz.prog 13 #[.agg #[.int .i64 x, .int .i64 y, .int .i64 z, .int .i64 num, .int .i64 den], .agg #[.int .i64 d, .int .i64 i, .int .i64 f]] w1 fun e w' => e = .returned (.bool false) ∧ Below w1.heap.size w1 w'))
    (KS : Hid (∀ w1 : World, Calls Tryz.prog 53 #[.agg #[.int .i64 a, .int .i64 b, .int .i64 c], .agg #[.int .i64 d, .int .i64 i, .int .i64 f]] w1 fun e w' => e = .returned (.bool false) ∧ Below w1.heap.size w1 w'))
    (Kpp : Hid (∀ w1 : World, Calls Tryz.prog 29 #[.agg #[.int .i64 a, .int .i64 b, .int .i64 c], .agg #[.int .i64 a, .int .i64 b, .int .i64 c]] w1 fun e w' => e = .returned (.int .i64 pp) ∧ Below w1.heap.size w1 w'))
    (Kqq : Hid (∀ w1 : World, Calls Tryz.prog 29 #[.agg #[.int .i64 d, .int .i64 i, .int .i64 f], .agg #[.int .i64 d, .int .i64 i, .int .i64 f]] w1 fun e w' => e = .returned (.int .i64 qq) ∧ Below w1.heap.size w1 w'))
    (Kpq : Hid (∀ w1 : World, Calls Tryz.prog 29 #[.agg #[.int .i64 a, .int .i64 b, .int .i64 c], .agg #[.int .i64 d, .int .i64 i, .int .i64 f]] w1 fun e w' => e = .returned (.int .i64 pq) ∧ Below w1.heap.size w1 w'))
    (Kap : Hid (∀ w1 : World, Calls Tryz.prog 29 #[.agg #[.int .i64 x, .int .i64 y, .int .i64 z], .agg #[.int .i64 a, .int .i64 b, .int .i64 c]] w1 fun e w' => e = .returned (.int .i64 ap) ∧ Below w1.heap.size w1 w'))
    (Kaq : Hid (∀ w1 : World, Calls Tryz.prog 29 #[.agg #[.int .i64 x, .int .i64 y, .int .i64 z], .agg #[.int .i64 d, .int .i64 i, .int .i64 f]] w1 fun e w' => e = .returned (.int .i64 aq) ∧ Below w1.heap.size w1 w'))
    (Kaa : Hid (∀ w1 : World, Calls Tryz.prog 29 #[.agg #[.int .i64 x, .int .i64 y, .int .i64 z], .agg #[.int .i64 x, .int .i64 y, .int .i64 z]] w1 fun e w' => e = .returned (.int .i64 aa) ∧ Below w1.heap.size w1 w'))
    (w1 : IntKind.i64.wrap (ap * qq) = m1) (w2 : IntKind.i64.wrap (aq * pq) = m2) (w3 : IntKind.i64.wrap (m1 - m2) = X) (w4 : IntKind.i64.wrap (aq * pp) = m3) (w5 : IntKind.i64.wrap (ap * pq) = m4) (w6 : IntKind.i64.wrap (m3 - m4) = Y)
    (m5 m6 DD m7 m8 TT l n1 r : Int) (v1 : IntKind.i64.wrap (pp * qq) = m5) (v2 : IntKind.i64.wrap (pq * pq) = m6) (v3 : IntKind.i64.wrap (m5 - m6) = DD) (v4 : IntKind.i64.wrap (X * ap) = m7) (v5 : IntKind.i64.wrap (Y * aq) = m8) (v6 : IntKind.i64.wrap (m7 + m8) = TT)
    (u1 : IntKind.i64.wrap (TT * den) = l) (u2 : IntKind.i64.wrap (num * DD) = n1) (u3 : IntKind.i64.wrap (n1 * aa) = r)
    (hX : 0 < X) (hY : 0 < Y) :
    Calls Tryz.prog 15 #[.agg #[.int .i64 x, .int .i64 y, .int .i64 z, .int .i64 num, .int .i64 den], .agg #[.int .i64 a, .int .i64 b, .int .i64 c], .agg #[.int .i64 d, .int .i64 i, .int .i64 f]] w fun e w' => e = .returned (.bool (decide (r ≤ l))) ∧ Below w.heap.size w w' := by
  have hX1 : (0 < X) = True := by simp; omega
  have hX2 : decide (0 < X) = true := by simp; omega
  have hY1 : (0 < Y) = True := by simp; omega
  have hY2 : decide (0 < Y) = true := by simp; omega
  clear hX hY
  obtain ⟨W0, hW0⟩ : ∃ W0, (((w.alloc (.cells #[.int .i64 x, .int .i64 y, .int .i64 z, .int .i64 num, .int .i64 den] 25)).alloc (.cells #[.int .i64 a, .int .i64 b, .int .i64 c] 23)).alloc (.cells #[.int .i64 d, .int .i64 i, .int .i64 f] 23)) = W0 := ⟨_, rfl⟩
  have K0 : Hid (Kp w W0 [(w.heap.size + 1 + 1, (.cells #[.int .i64 d, .int .i64 i, .int .i64 f] 23 (0, 0))), (w.heap.size + 1, (.cells #[.int .i64 a, .int .i64 b, .int .i64 c] 23 (0, 0))), (w.heap.size, (.cells #[.int .i64 x, .int .i64 y, .int .i64 z, .int .i64 num, .int .i64 den] 25 (0, 0)))]) := Lib.hid (by
    rw [← hW0]
    have k := ((((Kp.none w).alloc (.cells #[.int .i64 x, .int .i64 y, .int .i64 z, .int .i64 num, .int .i64 den] 25)).alloc (.cells #[.int .i64 a, .int .i64 b, .int .i64 c] 23)).alloc (.cells #[.int .i64 d, .int .i64 i, .int .i64 f] 23))
    simpa using k)
  go_enter Tryz.func15, Tryz.ntmps15
  go_upto_region 1 with fail
  try rw [hW0]
  clear hW0
  obtain ⟨x0, x1, x2, x3, x4⟩ := cells5 (K0.out.2 _ (.tail _ (.tail _ (.head _)))); obtain ⟨a0, a1, a2⟩ := cells3 (K0.out.2 _ (.tail _ (.head _))); obtain ⟨d0, d1, d2⟩ := cells3 (K0.out.2 _ (.head _))
  go_upto_region 5 with (first
    | (go_at_call 13; (with_reducible refine (KI1.out _).mono ?_); rintro e w1 ⟨rfl, hb1⟩; have K1 := Lib.hid (K0.out.call hb1); clear hb1; clear x0 x1 x2 x3 x4 a0 a1 a2 d0 d1 d2; obtain ⟨x0, x1, x2, x3, x4⟩ := cells5 (K1.out.2 _ (.tail _ (.tail _ (.head _)))); obtain ⟨a0, a1, a2⟩ := cells3 (K1.out.2 _ (.tail _ (.head _))); obtain ⟨d0, d1, d2⟩ := cells3 (K1.out.2 _ (.head _)))
    | (go_at_call 13; (with_reducible refine (KI2.out _).mono ?_); rintro e w2 ⟨rfl, hb2⟩; have K2 := Lib.hid (K1.out.call hb2); clear hb2; clear x0 x1 x2 x3 x4 a0 a1 a2 d0 d1 d2; obtain ⟨x0, x1, x2, x3, x4⟩ := cells5 (K2.out.2 _ (.tail _ (.tail _ (.head _)))); obtain ⟨a0, a1, a2⟩ := cells3 (K2.out.2 _ (.tail _ (.head _))); obtain ⟨d0, d1, d2⟩ := cells3 (K2.out.2 _ (.head _)))
    | (go_at_call 53; (with_reducible refine (KS.out _).mono ?_); rintro e w3 ⟨rfl, hb3⟩; have K3 := Lib.hid (K2.out.call hb3); clear hb3; clear x0 x1 x2 x3 x4 a0 a1 a2 d0 d1 d2))
  apply wp_region_gives 9 (fun w' => Blw w3.heap.size w3 w') [.agg #[.int .i64 a, .int .i64 b, .int .i64 c], .agg #[.int .i64 a, .int .i64 b, .int .i64 c], .int .i64 pp, .agg #[.int .i64 d, .int .i64 i, .int .i64 f], .agg #[.int .i64 d, .int .i64 i, .int .i64 f], .int .i64 qq, .agg #[.int .i64 a, .int .i64 b, .int .i64 c], .agg #[.int .i64 d, .int .i64 i, .int .i64 f], .int .i64 pq] (by kernel_rfl) (by kernel_rfl) (by kernel_rfl) (show Below _ _ _ from (Below.refl _ _).drew)
  case haF =>
    simp [putJs, Act.put, List.range, List.range.loop]
    exact rfl
  case h =>
    have hBy := K3.out.2 _ (.tail _ (.head _))
    have hBz := K3.out.2 _ (.head _)
    simp only [List.take_succ_cons, List.take_zero, GivesL]
    clear K3
    refine ⟨?_, ?_, ?_, ?_, ?_, ?_, ?_, ?_, ?_, trivial⟩
    all_goals
      intro w1 hw1
      obtain ⟨y_0, y_1, y_2⟩ := cells3 (((show Below _ _ _ from hw1).block _ (lt_of_blk hBy)).trans hBy)
      obtain ⟨z_0, z_1, z_2⟩ := cells3 (((show Below _ _ _ from hw1).block _ (lt_of_blk hBz)).trans hBz)
      unfold Oper.wp
      simp only [execOp]
      go_simp <;> first
        | exact ⟨rfl, hw1⟩
        | ((with_reducible refine (Kpp.out _).mono ?_); rintro e w2 ⟨rfl, hb⟩; exact ⟨rfl, below_call hb hw1⟩)
        | ((with_reducible refine (Kqq.out _).mono ?_); rintro e w2 ⟨rfl, hb⟩; exact ⟨rfl, below_call hb hw1⟩)
        | ((with_reducible refine (Kpq.out _).mono ?_); rintro e w2 ⟨rfl, hb⟩; exact ⟨rfl, below_call hb hw1⟩)
  case ht =>
    intro w4 hw5
    have K4 := Lib.hid (K3.out.call (show Below _ _ _ from hw5))
    clear hw5 K3
    simp only [List.drop_succ_cons, List.drop_zero]
    go_wp2_with fail
    apply wp_region_gives 8 (fun w' => Blw w4.heap.size w4 w') [.pointer (some ⟨w.heap.size, 0, none⟩), .agg #[.int .i64 x, .int .i64 y, .int .i64 z], .agg #[.int .i64 a, .int .i64 b, .int .i64 c], .int .i64 ap, .pointer (some ⟨w.heap.size, 0, none⟩), .agg #[.int .i64 x, .int .i64 y, .int .i64 z], .agg #[.int .i64 d, .int .i64 i, .int .i64 f], .int .i64 aq] (by kernel_rfl) (by kernel_rfl) (by kernel_rfl) (show Below _ _ _ from (Below.refl _ _).drew)
    case haF =>
      simp [putJs, Act.put, List.range, List.range.loop]
      exact rfl
    case h =>
      have hBx := K4.out.2 _ (.tail _ (.tail _ (.head _)))
      have hBy := K4.out.2 _ (.tail _ (.head _))
      have hBz := K4.out.2 _ (.head _)
      simp only [List.take_succ_cons, List.take_zero, GivesL]
      clear K4
      refine ⟨?_, ?_, ?_, ?_, ?_, ?_, ?_, ?_, trivial⟩
      all_goals
        intro w1 hw1
        obtain ⟨x_0, x_1, x_2, x_3, x_4⟩ := cells5 (((show Below _ _ _ from hw1).block _ (lt_of_blk hBx)).trans hBx)
        obtain ⟨y_0, y_1, y_2⟩ := cells3 (((show Below _ _ _ from hw1).block _ (lt_of_blk hBy)).trans hBy)
        obtain ⟨z_0, z_1, z_2⟩ := cells3 (((show Below _ _ _ from hw1).block _ (lt_of_blk hBz)).trans hBz)
        unfold Oper.wp
        simp only [execOp]
        go_simp <;> first
          | exact ⟨rfl, hw1⟩
          | ((with_reducible refine (Kap.out _).mono ?_); rintro e w2 ⟨rfl, hb⟩; exact ⟨rfl, below_call hb hw1⟩)
          | ((with_reducible refine (Kaq.out _).mono ?_); rintro e w2 ⟨rfl, hb⟩; exact ⟨rfl, below_call hb hw1⟩)
    case ht =>
      intro w5 hw5
      have K5 := Lib.hid (K4.out.call (show Below _ _ _ from hw5))
      clear hw5 K4
      simp only [List.drop_succ_cons, List.drop_zero]
      go_wp2_with fail
      apply wp_region_yields 35 (fun w' => Blw w5.heap.size w5 w') [.int .i64 X, .bool true, .bool true, .int .i64 Y, .bool true, .bool true, .bool true, .int .i64 X, .int .i64 ap, .int .i64 m7, .int .i64 Y, .int .i64 aq, .int .i64 m8, .int .i64 TT, .pointer (some ⟨w.heap.size, 4, none⟩), .int .i64 den, .int .i64 l, .pointer (some ⟨w.heap.size, 3, none⟩), .int .i64 num, .int .i64 pp, .int .i64 qq, .int .i64 m5, .int .i64 pq, .int .i64 pq, .int .i64 m6, .int .i64 DD, .int .i64 n1, .pointer (some ⟨w.heap.size, 0, none⟩), .agg #[.int .i64 x, .int .i64 y, .int .i64 z], .pointer (some ⟨w.heap.size, 0, none⟩), .agg #[.int .i64 x, .int .i64 y, .int .i64 z], .int .i64 aa, .int .i64 r, .bool (decide (r ≤ l)), .bool (decide (r ≤ l))] (by kernel_rfl) (by kernel_rfl) (show Below _ _ _ from (Below.refl _ _).drew)
      case haF =>
        simp [putJs, Act.put, List.range, List.range.loop]
        exact rfl
      case h =>
        have hBx := K5.out.2 _ (.tail _ (.tail _ (.head _)))
        have hBy := K5.out.2 _ (.tail _ (.head _))
        have hBz := K5.out.2 _ (.head _)
        simp only [List.take_succ_cons, List.take_zero, YieldsL]
        clear K5
        refine ⟨.no rfl ?_, .no rfl ?_, .no rfl ?_, .yes rfl rfl ?_, .yes rfl rfl ?_, .no rfl ?_, .no rfl ?_, .yes rfl rfl ?_, .yes rfl rfl ?_, .yes rfl rfl ?_, .yes rfl rfl ?_, .yes rfl rfl ?_, .yes rfl rfl ?_, .yes rfl rfl ?_, .yes rfl rfl ?_, .yes rfl rfl ?_, .yes rfl rfl ?_, .yes rfl rfl ?_, .yes rfl rfl ?_, .yes rfl rfl ?_, .yes rfl rfl ?_, .yes rfl rfl ?_, .yes rfl rfl ?_, .yes rfl rfl ?_, .yes rfl rfl ?_, .yes rfl rfl ?_, .yes rfl rfl ?_, .yes rfl rfl ?_, .yes rfl rfl ?_, .yes rfl rfl ?_, .yes rfl rfl ?_, .yes rfl rfl ?_, .yes rfl rfl ?_, .yes rfl rfl ?_, .no rfl ?_, trivial⟩
        all_goals
          intro w1 hw1
          obtain ⟨x_0, x_1, x_2, x_3, x_4⟩ := cells5 (((show Below _ _ _ from hw1).block _ (lt_of_blk hBx)).trans hBx)
          obtain ⟨y_0, y_1, y_2⟩ := cells3 (((show Below _ _ _ from hw1).block _ (lt_of_blk hBy)).trans hBy)
          obtain ⟨z_0, z_1, z_2⟩ := cells3 (((show Below _ _ _ from hw1).block _ (lt_of_blk hBz)).trans hBz)
          unfold Oper.wp
          simp only [execOp]
          go_simp <;> first
            | exact ⟨rfl, hw1⟩
            | ((with_reducible refine (Kaa.out _).mono ?_); rintro e w2 ⟨rfl, hb⟩; exact ⟨rfl, below_call hb hw1⟩)
      case ht =>
        intro w6 hw5
        have K6 := Lib.hid (K5.out.call (show Below _ _ _ from hw5))
        clear hw5 K5
        simp only [List.drop_succ_cons, List.drop_zero]
        go_wp2_with fail
        go_ret
        exact ⟨rfl, Kp.below K6.out⟩

set_option maxRecDepth 100000 in
set_option maxHeartbeats 6400000 in
theorem refMeets_no1 (x y z num den a b c d i f pp pq qq ap aq aa m1 m2 X m3 m4 Y : Int) (w : World)
    (KI1 : Hid (∀ w1 : World, Calls Tryz.prog 13 #[.agg #[.int .i64 x, .int .i64 y, .int .i64 z, .int .i64 num, .int .i64 den], .agg #[.int .i64 a, .int .i64 b, .int .i64 c]] w1 fun e w' => e = .returned (.bool false) ∧ Below w1.heap.size w1 w'))
    (KI2 : Hid (∀ w1 : World, Calls Tryz.prog 13 #[.agg #[.int .i64 x, .int .i64 y, .int .i64 z, .int .i64 num, .int .i64 den], .agg #[.int .i64 d, .int .i64 i, .int .i64 f]] w1 fun e w' => e = .returned (.bool false) ∧ Below w1.heap.size w1 w'))
    (KS : Hid (∀ w1 : World, Calls Tryz.prog 53 #[.agg #[.int .i64 a, .int .i64 b, .int .i64 c], .agg #[.int .i64 d, .int .i64 i, .int .i64 f]] w1 fun e w' => e = .returned (.bool false) ∧ Below w1.heap.size w1 w'))
    (Kpp : Hid (∀ w1 : World, Calls Tryz.prog 29 #[.agg #[.int .i64 a, .int .i64 b, .int .i64 c], .agg #[.int .i64 a, .int .i64 b, .int .i64 c]] w1 fun e w' => e = .returned (.int .i64 pp) ∧ Below w1.heap.size w1 w'))
    (Kqq : Hid (∀ w1 : World, Calls Tryz.prog 29 #[.agg #[.int .i64 d, .int .i64 i, .int .i64 f], .agg #[.int .i64 d, .int .i64 i, .int .i64 f]] w1 fun e w' => e = .returned (.int .i64 qq) ∧ Below w1.heap.size w1 w'))
    (Kpq : Hid (∀ w1 : World, Calls Tryz.prog 29 #[.agg #[.int .i64 a, .int .i64 b, .int .i64 c], .agg #[.int .i64 d, .int .i64 i, .int .i64 f]] w1 fun e w' => e = .returned (.int .i64 pq) ∧ Below w1.heap.size w1 w'))
    (Kap : Hid (∀ w1 : World, Calls Tryz.prog 29 #[.agg #[.int .i64 x, .int .i64 y, .int .i64 z], .agg #[.int .i64 a, .int .i64 b, .int .i64 c]] w1 fun e w' => e = .returned (.int .i64 ap) ∧ Below w1.heap.size w1 w'))
    (Kaq : Hid (∀ w1 : World, Calls Tryz.prog 29 #[.agg #[.int .i64 x, .int .i64 y, .int .i64 z], .agg #[.int .i64 d, .int .i64 i, .int .i64 f]] w1 fun e w' => e = .returned (.int .i64 aq) ∧ Below w1.heap.size w1 w'))
    (w1 : IntKind.i64.wrap (ap * qq) = m1) (w2 : IntKind.i64.wrap (aq * pq) = m2) (w3 : IntKind.i64.wrap (m1 - m2) = X) (w4 : IntKind.i64.wrap (aq * pp) = m3) (w5 : IntKind.i64.wrap (ap * pq) = m4) (w6 : IntKind.i64.wrap (m3 - m4) = Y)
    (hX : X ≤ 0) :
    Calls Tryz.prog 15 #[.agg #[.int .i64 x, .int .i64 y, .int .i64 z, .int .i64 num, .int .i64 den], .agg #[.int .i64 a, .int .i64 b, .int .i64 c], .agg #[.int .i64 d, .int .i64 i, .int .i64 f]] w fun e w' => e = .returned (.bool false) ∧ Below w.heap.size w w' := by
  have hX1 : (0 < X) = False := by simp; omega
  have hX2 : decide (0 < X) = false := by simp; omega
  clear hX
  obtain ⟨W0, hW0⟩ : ∃ W0, (((w.alloc (.cells #[.int .i64 x, .int .i64 y, .int .i64 z, .int .i64 num, .int .i64 den] 25)).alloc (.cells #[.int .i64 a, .int .i64 b, .int .i64 c] 23)).alloc (.cells #[.int .i64 d, .int .i64 i, .int .i64 f] 23)) = W0 := ⟨_, rfl⟩
  have K0 : Hid (Kp w W0 [(w.heap.size + 1 + 1, (.cells #[.int .i64 d, .int .i64 i, .int .i64 f] 23 (0, 0))), (w.heap.size + 1, (.cells #[.int .i64 a, .int .i64 b, .int .i64 c] 23 (0, 0))), (w.heap.size, (.cells #[.int .i64 x, .int .i64 y, .int .i64 z, .int .i64 num, .int .i64 den] 25 (0, 0)))]) := Lib.hid (by
    rw [← hW0]
    have k := ((((Kp.none w).alloc (.cells #[.int .i64 x, .int .i64 y, .int .i64 z, .int .i64 num, .int .i64 den] 25)).alloc (.cells #[.int .i64 a, .int .i64 b, .int .i64 c] 23)).alloc (.cells #[.int .i64 d, .int .i64 i, .int .i64 f] 23))
    simpa using k)
  go_enter Tryz.func15, Tryz.ntmps15
  go_upto_region 1 with fail
  try rw [hW0]
  clear hW0
  obtain ⟨x0, x1, x2, x3, x4⟩ := cells5 (K0.out.2 _ (.tail _ (.tail _ (.head _)))); obtain ⟨a0, a1, a2⟩ := cells3 (K0.out.2 _ (.tail _ (.head _))); obtain ⟨d0, d1, d2⟩ := cells3 (K0.out.2 _ (.head _))
  go_upto_region 5 with (first
    | (go_at_call 13; (with_reducible refine (KI1.out _).mono ?_); rintro e w1 ⟨rfl, hb1⟩; have K1 := Lib.hid (K0.out.call hb1); clear hb1; clear x0 x1 x2 x3 x4 a0 a1 a2 d0 d1 d2; obtain ⟨x0, x1, x2, x3, x4⟩ := cells5 (K1.out.2 _ (.tail _ (.tail _ (.head _)))); obtain ⟨a0, a1, a2⟩ := cells3 (K1.out.2 _ (.tail _ (.head _))); obtain ⟨d0, d1, d2⟩ := cells3 (K1.out.2 _ (.head _)))
    | (go_at_call 13; (with_reducible refine (KI2.out _).mono ?_); rintro e w2 ⟨rfl, hb2⟩; have K2 := Lib.hid (K1.out.call hb2); clear hb2; clear x0 x1 x2 x3 x4 a0 a1 a2 d0 d1 d2; obtain ⟨x0, x1, x2, x3, x4⟩ := cells5 (K2.out.2 _ (.tail _ (.tail _ (.head _)))); obtain ⟨a0, a1, a2⟩ := cells3 (K2.out.2 _ (.tail _ (.head _))); obtain ⟨d0, d1, d2⟩ := cells3 (K2.out.2 _ (.head _)))
    | (go_at_call 53; (with_reducible refine (KS.out _).mono ?_); rintro e w3 ⟨rfl, hb3⟩; have K3 := Lib.hid (K2.out.call hb3); clear hb3; clear x0 x1 x2 x3 x4 a0 a1 a2 d0 d1 d2))
  apply wp_region_gives 9 (fun w' => Blw w3.heap.size w3 w') [.agg #[.int .i64 a, .int .i64 b, .int .i64 c], .agg #[.int .i64 a, .int .i64 b, .int .i64 c], .int .i64 pp, .agg #[.int .i64 d, .int .i64 i, .int .i64 f], .agg #[.int .i64 d, .int .i64 i, .int .i64 f], .int .i64 qq, .agg #[.int .i64 a, .int .i64 b, .int .i64 c], .agg #[.int .i64 d, .int .i64 i, .int .i64 f], .int .i64 pq] (by kernel_rfl) (by kernel_rfl) (by kernel_rfl) (show Below _ _ _ from (Below.refl _ _).drew)
  case haF =>
    simp [putJs, Act.put, List.range, List.range.loop]
    exact rfl
  case h =>
    have hBy := K3.out.2 _ (.tail _ (.head _))
    have hBz := K3.out.2 _ (.head _)
    simp only [List.take_succ_cons, List.take_zero, GivesL]
    clear K3
    refine ⟨?_, ?_, ?_, ?_, ?_, ?_, ?_, ?_, ?_, trivial⟩
    all_goals
      intro w1 hw1
      obtain ⟨y_0, y_1, y_2⟩ := cells3 (((show Below _ _ _ from hw1).block _ (lt_of_blk hBy)).trans hBy)
      obtain ⟨z_0, z_1, z_2⟩ := cells3 (((show Below _ _ _ from hw1).block _ (lt_of_blk hBz)).trans hBz)
      unfold Oper.wp
      simp only [execOp]
      go_simp <;> first
        | exact ⟨rfl, hw1⟩
        | ((with_reducible refine (Kpp.out _).mono ?_); rintro e w2 ⟨rfl, hb⟩; exact ⟨rfl, below_call hb hw1⟩)
        | ((with_reducible refine (Kqq.out _).mono ?_); rintro e w2 ⟨rfl, hb⟩; exact ⟨rfl, below_call hb hw1⟩)
        | ((with_reducible refine (Kpq.out _).mono ?_); rintro e w2 ⟨rfl, hb⟩; exact ⟨rfl, below_call hb hw1⟩)
  case ht =>
    intro w4 hw5
    have K4 := Lib.hid (K3.out.call (show Below _ _ _ from hw5))
    clear hw5 K3
    simp only [List.drop_succ_cons, List.drop_zero]
    go_wp2_with fail
    apply wp_region_gives 8 (fun w' => Blw w4.heap.size w4 w') [.pointer (some ⟨w.heap.size, 0, none⟩), .agg #[.int .i64 x, .int .i64 y, .int .i64 z], .agg #[.int .i64 a, .int .i64 b, .int .i64 c], .int .i64 ap, .pointer (some ⟨w.heap.size, 0, none⟩), .agg #[.int .i64 x, .int .i64 y, .int .i64 z], .agg #[.int .i64 d, .int .i64 i, .int .i64 f], .int .i64 aq] (by kernel_rfl) (by kernel_rfl) (by kernel_rfl) (show Below _ _ _ from (Below.refl _ _).drew)
    case haF =>
      simp [putJs, Act.put, List.range, List.range.loop]
      exact rfl
    case h =>
      have hBx := K4.out.2 _ (.tail _ (.tail _ (.head _)))
      have hBy := K4.out.2 _ (.tail _ (.head _))
      have hBz := K4.out.2 _ (.head _)
      simp only [List.take_succ_cons, List.take_zero, GivesL]
      clear K4
      refine ⟨?_, ?_, ?_, ?_, ?_, ?_, ?_, ?_, trivial⟩
      all_goals
        intro w1 hw1
        obtain ⟨x_0, x_1, x_2, x_3, x_4⟩ := cells5 (((show Below _ _ _ from hw1).block _ (lt_of_blk hBx)).trans hBx)
        obtain ⟨y_0, y_1, y_2⟩ := cells3 (((show Below _ _ _ from hw1).block _ (lt_of_blk hBy)).trans hBy)
        obtain ⟨z_0, z_1, z_2⟩ := cells3 (((show Below _ _ _ from hw1).block _ (lt_of_blk hBz)).trans hBz)
        unfold Oper.wp
        simp only [execOp]
        go_simp <;> first
          | exact ⟨rfl, hw1⟩
          | ((with_reducible refine (Kap.out _).mono ?_); rintro e w2 ⟨rfl, hb⟩; exact ⟨rfl, below_call hb hw1⟩)
          | ((with_reducible refine (Kaq.out _).mono ?_); rintro e w2 ⟨rfl, hb⟩; exact ⟨rfl, below_call hb hw1⟩)
    case ht =>
      intro w5 hw5
      have K5 := Lib.hid (K4.out.call (show Below _ _ _ from hw5))
      clear hw5 K4
      simp only [List.drop_succ_cons, List.drop_zero]
      go_wp2_with fail
      apply wp_region_yields 35 (fun w' => Blw w5.heap.size w5 w') [.int .i64 X, .bool false, .bool false, undef, undef, .bool false, .bool false, undef, undef, undef, undef, undef, undef, undef, undef, undef, undef, undef, undef, undef, undef, undef, undef, undef, undef, undef, undef, undef, undef, undef, undef, undef, undef, undef, .bool false] (by kernel_rfl) (by kernel_rfl) (show Below _ _ _ from (Below.refl _ _).drew)
      case haF =>
        simp [putJs, Act.put, List.range, List.range.loop]
        exact rfl
      case h =>
        have hBx := K5.out.2 _ (.tail _ (.tail _ (.head _)))
        have hBy := K5.out.2 _ (.tail _ (.head _))
        have hBz := K5.out.2 _ (.head _)
        simp only [List.take_succ_cons, List.take_zero, YieldsL]
        clear K5
        refine ⟨.no rfl ?_, .no rfl ?_, .no rfl ?_, .not rfl rfl, .not rfl rfl, .no rfl ?_, .no rfl ?_, .not rfl rfl, .not rfl rfl, .not rfl rfl, .not rfl rfl, .not rfl rfl, .not rfl rfl, .not rfl rfl, .not rfl rfl, .not rfl rfl, .not rfl rfl, .not rfl rfl, .not rfl rfl, .not rfl rfl, .not rfl rfl, .not rfl rfl, .not rfl rfl, .not rfl rfl, .not rfl rfl, .not rfl rfl, .not rfl rfl, .not rfl rfl, .not rfl rfl, .not rfl rfl, .not rfl rfl, .not rfl rfl, .not rfl rfl, .not rfl rfl, .no rfl ?_, trivial⟩
        all_goals
          intro w1 hw1
          obtain ⟨x_0, x_1, x_2, x_3, x_4⟩ := cells5 (((show Below _ _ _ from hw1).block _ (lt_of_blk hBx)).trans hBx)
          obtain ⟨y_0, y_1, y_2⟩ := cells3 (((show Below _ _ _ from hw1).block _ (lt_of_blk hBy)).trans hBy)
          obtain ⟨z_0, z_1, z_2⟩ := cells3 (((show Below _ _ _ from hw1).block _ (lt_of_blk hBz)).trans hBz)
          unfold Oper.wp
          simp only [execOp]
          go_simp <;> first
            | exact ⟨rfl, hw1⟩
      case ht =>
        intro w6 hw5
        have K6 := Lib.hid (K5.out.call (show Below _ _ _ from hw5))
        clear hw5 K5
        simp only [List.drop_succ_cons, List.drop_zero]
        go_wp2_with fail
        go_ret
        exact ⟨rfl, Kp.below K6.out⟩

set_option maxRecDepth 100000 in
set_option maxHeartbeats 6400000 in
theorem refMeets_no2 (x y z num den a b c d i f pp pq qq ap aq aa m1 m2 X m3 m4 Y : Int) (w : World)
    (KI1 : Hid (∀ w1 : World, Calls Tryz.prog 13 #[.agg #[.int .i64 x, .int .i64 y, .int .i64 z, .int .i64 num, .int .i64 den], .agg #[.int .i64 a, .int .i64 b, .int .i64 c]] w1 fun e w' => e = .returned (.bool false) ∧ Below w1.heap.size w1 w'))
    (KI2 : Hid (∀ w1 : World, Calls Tryz.prog 13 #[.agg #[.int .i64 x, .int .i64 y, .int .i64 z, .int .i64 num, .int .i64 den], .agg #[.int .i64 d, .int .i64 i, .int .i64 f]] w1 fun e w' => e = .returned (.bool false) ∧ Below w1.heap.size w1 w'))
    (KS : Hid (∀ w1 : World, Calls Tryz.prog 53 #[.agg #[.int .i64 a, .int .i64 b, .int .i64 c], .agg #[.int .i64 d, .int .i64 i, .int .i64 f]] w1 fun e w' => e = .returned (.bool false) ∧ Below w1.heap.size w1 w'))
    (Kpp : Hid (∀ w1 : World, Calls Tryz.prog 29 #[.agg #[.int .i64 a, .int .i64 b, .int .i64 c], .agg #[.int .i64 a, .int .i64 b, .int .i64 c]] w1 fun e w' => e = .returned (.int .i64 pp) ∧ Below w1.heap.size w1 w'))
    (Kqq : Hid (∀ w1 : World, Calls Tryz.prog 29 #[.agg #[.int .i64 d, .int .i64 i, .int .i64 f], .agg #[.int .i64 d, .int .i64 i, .int .i64 f]] w1 fun e w' => e = .returned (.int .i64 qq) ∧ Below w1.heap.size w1 w'))
    (Kpq : Hid (∀ w1 : World, Calls Tryz.prog 29 #[.agg #[.int .i64 a, .int .i64 b, .int .i64 c], .agg #[.int .i64 d, .int .i64 i, .int .i64 f]] w1 fun e w' => e = .returned (.int .i64 pq) ∧ Below w1.heap.size w1 w'))
    (Kap : Hid (∀ w1 : World, Calls Tryz.prog 29 #[.agg #[.int .i64 x, .int .i64 y, .int .i64 z], .agg #[.int .i64 a, .int .i64 b, .int .i64 c]] w1 fun e w' => e = .returned (.int .i64 ap) ∧ Below w1.heap.size w1 w'))
    (Kaq : Hid (∀ w1 : World, Calls Tryz.prog 29 #[.agg #[.int .i64 x, .int .i64 y, .int .i64 z], .agg #[.int .i64 d, .int .i64 i, .int .i64 f]] w1 fun e w' => e = .returned (.int .i64 aq) ∧ Below w1.heap.size w1 w'))
    (w1 : IntKind.i64.wrap (ap * qq) = m1) (w2 : IntKind.i64.wrap (aq * pq) = m2) (w3 : IntKind.i64.wrap (m1 - m2) = X) (w4 : IntKind.i64.wrap (aq * pp) = m3) (w5 : IntKind.i64.wrap (ap * pq) = m4) (w6 : IntKind.i64.wrap (m3 - m4) = Y)
    (hX : 0 < X) (hY : Y ≤ 0) :
    Calls Tryz.prog 15 #[.agg #[.int .i64 x, .int .i64 y, .int .i64 z, .int .i64 num, .int .i64 den], .agg #[.int .i64 a, .int .i64 b, .int .i64 c], .agg #[.int .i64 d, .int .i64 i, .int .i64 f]] w fun e w' => e = .returned (.bool false) ∧ Below w.heap.size w w' := by
  have hX1 : (0 < X) = True := by simp; omega
  have hX2 : decide (0 < X) = true := by simp; omega
  have hY1 : (0 < Y) = False := by simp; omega
  have hY2 : decide (0 < Y) = false := by simp; omega
  clear hX hY
  obtain ⟨W0, hW0⟩ : ∃ W0, (((w.alloc (.cells #[.int .i64 x, .int .i64 y, .int .i64 z, .int .i64 num, .int .i64 den] 25)).alloc (.cells #[.int .i64 a, .int .i64 b, .int .i64 c] 23)).alloc (.cells #[.int .i64 d, .int .i64 i, .int .i64 f] 23)) = W0 := ⟨_, rfl⟩
  have K0 : Hid (Kp w W0 [(w.heap.size + 1 + 1, (.cells #[.int .i64 d, .int .i64 i, .int .i64 f] 23 (0, 0))), (w.heap.size + 1, (.cells #[.int .i64 a, .int .i64 b, .int .i64 c] 23 (0, 0))), (w.heap.size, (.cells #[.int .i64 x, .int .i64 y, .int .i64 z, .int .i64 num, .int .i64 den] 25 (0, 0)))]) := Lib.hid (by
    rw [← hW0]
    have k := ((((Kp.none w).alloc (.cells #[.int .i64 x, .int .i64 y, .int .i64 z, .int .i64 num, .int .i64 den] 25)).alloc (.cells #[.int .i64 a, .int .i64 b, .int .i64 c] 23)).alloc (.cells #[.int .i64 d, .int .i64 i, .int .i64 f] 23))
    simpa using k)
  go_enter Tryz.func15, Tryz.ntmps15
  go_upto_region 1 with fail
  try rw [hW0]
  clear hW0
  obtain ⟨x0, x1, x2, x3, x4⟩ := cells5 (K0.out.2 _ (.tail _ (.tail _ (.head _)))); obtain ⟨a0, a1, a2⟩ := cells3 (K0.out.2 _ (.tail _ (.head _))); obtain ⟨d0, d1, d2⟩ := cells3 (K0.out.2 _ (.head _))
  go_upto_region 5 with (first
    | (go_at_call 13; (with_reducible refine (KI1.out _).mono ?_); rintro e w1 ⟨rfl, hb1⟩; have K1 := Lib.hid (K0.out.call hb1); clear hb1; clear x0 x1 x2 x3 x4 a0 a1 a2 d0 d1 d2; obtain ⟨x0, x1, x2, x3, x4⟩ := cells5 (K1.out.2 _ (.tail _ (.tail _ (.head _)))); obtain ⟨a0, a1, a2⟩ := cells3 (K1.out.2 _ (.tail _ (.head _))); obtain ⟨d0, d1, d2⟩ := cells3 (K1.out.2 _ (.head _)))
    | (go_at_call 13; (with_reducible refine (KI2.out _).mono ?_); rintro e w2 ⟨rfl, hb2⟩; have K2 := Lib.hid (K1.out.call hb2); clear hb2; clear x0 x1 x2 x3 x4 a0 a1 a2 d0 d1 d2; obtain ⟨x0, x1, x2, x3, x4⟩ := cells5 (K2.out.2 _ (.tail _ (.tail _ (.head _)))); obtain ⟨a0, a1, a2⟩ := cells3 (K2.out.2 _ (.tail _ (.head _))); obtain ⟨d0, d1, d2⟩ := cells3 (K2.out.2 _ (.head _)))
    | (go_at_call 53; (with_reducible refine (KS.out _).mono ?_); rintro e w3 ⟨rfl, hb3⟩; have K3 := Lib.hid (K2.out.call hb3); clear hb3; clear x0 x1 x2 x3 x4 a0 a1 a2 d0 d1 d2))
  apply wp_region_gives 9 (fun w' => Blw w3.heap.size w3 w') [.agg #[.int .i64 a, .int .i64 b, .int .i64 c], .agg #[.int .i64 a, .int .i64 b, .int .i64 c], .int .i64 pp, .agg #[.int .i64 d, .int .i64 i, .int .i64 f], .agg #[.int .i64 d, .int .i64 i, .int .i64 f], .int .i64 qq, .agg #[.int .i64 a, .int .i64 b, .int .i64 c], .agg #[.int .i64 d, .int .i64 i, .int .i64 f], .int .i64 pq] (by kernel_rfl) (by kernel_rfl) (by kernel_rfl) (show Below _ _ _ from (Below.refl _ _).drew)
  case haF =>
    simp [putJs, Act.put, List.range, List.range.loop]
    exact rfl
  case h =>
    have hBy := K3.out.2 _ (.tail _ (.head _))
    have hBz := K3.out.2 _ (.head _)
    simp only [List.take_succ_cons, List.take_zero, GivesL]
    clear K3
    refine ⟨?_, ?_, ?_, ?_, ?_, ?_, ?_, ?_, ?_, trivial⟩
    all_goals
      intro w1 hw1
      obtain ⟨y_0, y_1, y_2⟩ := cells3 (((show Below _ _ _ from hw1).block _ (lt_of_blk hBy)).trans hBy)
      obtain ⟨z_0, z_1, z_2⟩ := cells3 (((show Below _ _ _ from hw1).block _ (lt_of_blk hBz)).trans hBz)
      unfold Oper.wp
      simp only [execOp]
      go_simp <;> first
        | exact ⟨rfl, hw1⟩
        | ((with_reducible refine (Kpp.out _).mono ?_); rintro e w2 ⟨rfl, hb⟩; exact ⟨rfl, below_call hb hw1⟩)
        | ((with_reducible refine (Kqq.out _).mono ?_); rintro e w2 ⟨rfl, hb⟩; exact ⟨rfl, below_call hb hw1⟩)
        | ((with_reducible refine (Kpq.out _).mono ?_); rintro e w2 ⟨rfl, hb⟩; exact ⟨rfl, below_call hb hw1⟩)
  case ht =>
    intro w4 hw5
    have K4 := Lib.hid (K3.out.call (show Below _ _ _ from hw5))
    clear hw5 K3
    simp only [List.drop_succ_cons, List.drop_zero]
    go_wp2_with fail
    apply wp_region_gives 8 (fun w' => Blw w4.heap.size w4 w') [.pointer (some ⟨w.heap.size, 0, none⟩), .agg #[.int .i64 x, .int .i64 y, .int .i64 z], .agg #[.int .i64 a, .int .i64 b, .int .i64 c], .int .i64 ap, .pointer (some ⟨w.heap.size, 0, none⟩), .agg #[.int .i64 x, .int .i64 y, .int .i64 z], .agg #[.int .i64 d, .int .i64 i, .int .i64 f], .int .i64 aq] (by kernel_rfl) (by kernel_rfl) (by kernel_rfl) (show Below _ _ _ from (Below.refl _ _).drew)
    case haF =>
      simp [putJs, Act.put, List.range, List.range.loop]
      exact rfl
    case h =>
      have hBx := K4.out.2 _ (.tail _ (.tail _ (.head _)))
      have hBy := K4.out.2 _ (.tail _ (.head _))
      have hBz := K4.out.2 _ (.head _)
      simp only [List.take_succ_cons, List.take_zero, GivesL]
      clear K4
      refine ⟨?_, ?_, ?_, ?_, ?_, ?_, ?_, ?_, trivial⟩
      all_goals
        intro w1 hw1
        obtain ⟨x_0, x_1, x_2, x_3, x_4⟩ := cells5 (((show Below _ _ _ from hw1).block _ (lt_of_blk hBx)).trans hBx)
        obtain ⟨y_0, y_1, y_2⟩ := cells3 (((show Below _ _ _ from hw1).block _ (lt_of_blk hBy)).trans hBy)
        obtain ⟨z_0, z_1, z_2⟩ := cells3 (((show Below _ _ _ from hw1).block _ (lt_of_blk hBz)).trans hBz)
        unfold Oper.wp
        simp only [execOp]
        go_simp <;> first
          | exact ⟨rfl, hw1⟩
          | ((with_reducible refine (Kap.out _).mono ?_); rintro e w2 ⟨rfl, hb⟩; exact ⟨rfl, below_call hb hw1⟩)
          | ((with_reducible refine (Kaq.out _).mono ?_); rintro e w2 ⟨rfl, hb⟩; exact ⟨rfl, below_call hb hw1⟩)
    case ht =>
      intro w5 hw5
      have K5 := Lib.hid (K4.out.call (show Below _ _ _ from hw5))
      clear hw5 K4
      simp only [List.drop_succ_cons, List.drop_zero]
      go_wp2_with fail
      apply wp_region_yields 35 (fun w' => Blw w5.heap.size w5 w') [.int .i64 X, .bool true, .bool true, .int .i64 Y, .bool false, .bool false, .bool false, undef, undef, undef, undef, undef, undef, undef, undef, undef, undef, undef, undef, undef, undef, undef, undef, undef, undef, undef, undef, undef, undef, undef, undef, undef, undef, undef, .bool false] (by kernel_rfl) (by kernel_rfl) (show Below _ _ _ from (Below.refl _ _).drew)
      case haF =>
        simp [putJs, Act.put, List.range, List.range.loop]
        exact rfl
      case h =>
        have hBx := K5.out.2 _ (.tail _ (.tail _ (.head _)))
        have hBy := K5.out.2 _ (.tail _ (.head _))
        have hBz := K5.out.2 _ (.head _)
        simp only [List.take_succ_cons, List.take_zero, YieldsL]
        clear K5
        refine ⟨.no rfl ?_, .no rfl ?_, .no rfl ?_, .yes rfl rfl ?_, .yes rfl rfl ?_, .no rfl ?_, .no rfl ?_, .not rfl rfl, .not rfl rfl, .not rfl rfl, .not rfl rfl, .not rfl rfl, .not rfl rfl, .not rfl rfl, .not rfl rfl, .not rfl rfl, .not rfl rfl, .not rfl rfl, .not rfl rfl, .not rfl rfl, .not rfl rfl, .not rfl rfl, .not rfl rfl, .not rfl rfl, .not rfl rfl, .not rfl rfl, .not rfl rfl, .not rfl rfl, .not rfl rfl, .not rfl rfl, .not rfl rfl, .not rfl rfl, .not rfl rfl, .not rfl rfl, .no rfl ?_, trivial⟩
        all_goals
          intro w1 hw1
          obtain ⟨x_0, x_1, x_2, x_3, x_4⟩ := cells5 (((show Below _ _ _ from hw1).block _ (lt_of_blk hBx)).trans hBx)
          obtain ⟨y_0, y_1, y_2⟩ := cells3 (((show Below _ _ _ from hw1).block _ (lt_of_blk hBy)).trans hBy)
          obtain ⟨z_0, z_1, z_2⟩ := cells3 (((show Below _ _ _ from hw1).block _ (lt_of_blk hBz)).trans hBz)
          unfold Oper.wp
          simp only [execOp]
          go_simp <;> first
            | exact ⟨rfl, hw1⟩
      case ht =>
        intro w6 hw5
        have K6 := Lib.hid (K5.out.call (show Below _ _ _ from hw5))
        clear hw5 K5
        simp only [List.drop_succ_cons, List.drop_zero]
        go_wp2_with fail
        go_ret
        exact ⟨rfl, Kp.below K6.out⟩
end Go.Proofs.YtggffhmdgceljaaGreatDoor
