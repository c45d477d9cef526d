/-
  Mathematics of rays that are reflected twice at one ray.
-/
import Derived.Test.YtpflbkgmgfhhnaaGreatDoorRows
import Derived.WalkKit
import Derived.WalkSpells
import Derived.WalkLawsBesides
import Derived.Lib.Hide
import Derived.BigQuiet
import Derived.Deep.QuietTactic
import Derived.Laws.FloatArith
import Derived.Laws.BitsAllLaws
import Derived.Deep.CutBlock
import Derived.Deep.DeepCutAuto
import Derived.Deep.RegionHeld3
import Derived.StillTailTactics
import Derived.LoopTactic
import Derived.Handy
import Derived.Laws.StructEq
import Derived.RangeFuncNested
import Derived.RangeFuncBound
import Derived.RangeFuncCalls
import Derived.RangeFuncLeaves
import Derived.RangeFuncBox
import Derived.Shelf.Abstract
import Derived.Shelf.RegionOpen
import Derived.OwnWalkIn
import Derived.TacticsInMore
import Derived.LoopNIn
import Derived.LoopIn
import Derived.Maps.AppendAt
import Derived.Test.YtpflbkgmgfhhnaaGreatDoorProg
import Derived.Deep.RegionWith
import Derived.Stop.BytesEq
import Derived.Deep.MidRow
import Derived.Laws.CopyRow
import Derived.WalkMore
import Derived.Deep.DrawnRows
import Derived.Deep.RegionLaw
import Derived.Orders
import Derived.RegionTactic
import Derived.StillTail
import Derived.Test.YtpflbkgmgfhhnaaGreatDoorOtaXc
import Derived.Test.YtpflbkgmgfhhnaaGreatDoorOtaXe
import Derived.Test.YtpflbkgmgfhhnaaGreatDoorOtaFc
import Derived.Test.YtpflbkgmgfhhnaaGreatDoorOtaIi
import Derived.Test.YtpflbkgmgfhhnaaGreatDoorOtaIg
import Derived.Test.YtpflbkgmgfhhnaaGreatDoorOtaWa
import Derived.Test.YtpflbkgmgfhhnaaGreatDoorOtaFlo
import Derived.Test.YtpflbkgmgfhhnaaGreatDoorOtaWi
import Derived.Test.YtpflbkgmgfhhnaaGreatDoorOtaIb
import Derived.Test.YtpflbkgmgfhhnaaGreatDoorOtaId
import Derived.Test.YtpflbkgmgfhhnaaGreatDoorOtaIl
import Derived.Laws.RangeString
import Derived.Laws.RangeAny
import Derived.Shelf.Strings.Builder1
import Derived.Shelf.Strings.OnBuilder
import Derived.Shelf.LaysM
import Derived.Shelf.Strconv.Itoa3
import Derived.Lib.AppendIntMem
import Derived.Lib.ItoaLen
import Derived.RowKit
import Derived.Test.YtpflbkgmgfhhnaaGreatDoorOtaNc
import Derived.Test.YtpflbkgmgfhhnaaGreatDoorOtaNi
import Derived.Test.YtpflbkgmgfhhnaaGreatDoorOtaNv
import Derived.Test.YtpflbkgmgfhhnaaGreatDoorOtaWe
import Derived.Test.YtpflbkgmgfhhnaaGreatDoorOtaNo
import Derived.Test.YtpflbkgmgfhhnaaGreatDoorOtaNr
import Derived.Test.YtpflbkgmgfhhnaaGreatDoorOtaNy
import Derived.Test.YtpflbkgmgfhhnaaGreatDoorOtaAu
import Derived.Test.YtpflbkgmgfhhnaaGreatDoorCards
import Derived.Test.YtpflbkgmgfhhnaaGreatDoorTie
import Derived.ProofKit
import Derived.OpenShut
import Derived.Lib.SmallJoins
import Derived.Laws.Cover2
import Derived.Carry
import Derived.SizedLaws
import Derived.Deep.Slices
import Derived.Deep.DeepHandedRow
import Derived.Lib.LaidTab
import Derived.Lay
import Derived.Test.YtpflbkgmgfhhnaaGreatDoorOtaAf
namespace Go.Proofs.YtpflbkgmgfhhnaaGreatDoor
open Go.RowKit
set_option linter.unusedVariables false
set_option linter.unusedSimpArgs false

theorem rfl_dot (x y z a b c : Int) : dot3 (rflP x a (dot3 x y z a b c) (dot3 a b c a b c)) (rflP y b (dot3 x y z a b c) (dot3 a b c a b c)) (rflP z c (dot3 x y z a b c) (dot3 a b c a b c)) a b c = dot3 a b c a b c * dot3 x y z a b c := by
  unfold rflP dot3
  grind
theorem rfl_again (x a D N : Int) : rflP (rflP x a D N) a (N * D) N = N * N * x := by
  unfold rflP
  grind
theorem rfl_lin (g x a D N : Int) : g * rflP x a D N = rflP (g * x) a (g * D) N := by
  unfold rflP
  grind
theorem dot_lin (g x y z a b c : Int) : dot3 (g * x) (g * y) (g * z) a b c = g * dot3 x y z a b c := by
  unfold dot3
  grind
theorem dot_lin2 (g x y z : Int) : dot3 (g * x) (g * y) (g * z) (g * x) (g * y) (g * z) = g * g * dot3 x y z x y z := by
  unfold dot3
  grind
theorem pos_cancel {a b : Int} (ha : 0 < a) (h : 0 < a * b) : 0 < b := by
  rcases Int.lt_or_le 0 b with k | k
  · exact k
  · have := Int.mul_nonpos_of_nonneg_of_nonpos (Int.le_of_lt ha) k
    omega
theorem neg_cancel {a b : Int} (ha : 0 < a) (h : a * b < 0) : b < 0 := by
  rcases Int.lt_or_le b 0 with k | k
  · exact k
  · have := Int.mul_nonneg (Int.le_of_lt ha) k
    omega
theorem sgnI_scale {g h u v : Int} (hg : 0 < g) (hh : 0 < h) (e : g * u = h * v) : sgnI u = sgnI v := by
  unfold sgnI
  have a1 : 0 < u ↔ 0 < v := ⟨fun k => pos_cancel hh (by rw [← e]; exact Int.mul_pos hg k), fun k => pos_cancel hg (by rw [e]; exact Int.mul_pos hh k)⟩
  have a2 : u < 0 ↔ v < 0 := ⟨fun k => neg_cancel hh (by rw [← e]; exact Int.mul_neg_of_pos_of_neg hg k), fun k => neg_cancel hg (by rw [e]; exact Int.mul_neg_of_pos_of_neg hh k)⟩
  simp only [a1, a2]

/-- What reflects a ray at itself. -/
theorem rfl_self (x N : Int) : rflP x x N N = N * x := by
  unfold rflP
  grind

section
variable {x y z a b c p1 p2 p3 r1 r2 r3 a1 a2 a3 : Int}

/-- A reflected ray, reflected again at the same ray, is the ray. -/
theorem twice_back (hn : ¬ (a = 0 ∧ b = 0 ∧ c = 0)) (h1 : rflP x a (dot3 x y z a b c) (dot3 a b c a b c) = p1) (h2 : rflP y b (dot3 x y z a b c) (dot3 a b c a b c) = p2) (h3 : rflP z c (dot3 x y z a b c) (dot3 a b c a b c) = p3)
    (hr : Red p1 p2 p3 r1 r2 r3) (ha : Red x y z a1 a2 a3) {s1 s2 s3 : Int} (hs : Red (rflP r1 a (dot3 r1 r2 r3 a b c) (dot3 a b c a b c)) (rflP r2 b (dot3 r1 r2 r3 a b c) (dot3 a b c a b c)) (rflP r3 c (dot3 r1 r2 r3 a b c) (dot3 a b c a b c)) s1 s2 s3) :
    s1 = a1 ∧ s2 = a2 ∧ s3 = a3 := by
  obtain ⟨g, hg, e1, e2, e3⟩ := hr.ex
  have hN := dot_pos hn
  have hd : dot3 p1 p2 p3 a b c = dot3 a b c a b c * dot3 x y z a b c := by rw [← h1, ← h2, ← h3]; exact rfl_dot x y z a b c
  have hg2 : g * dot3 r1 r2 r3 a b c = dot3 a b c a b c * dot3 x y z a b c := by rw [← dot_lin, ← e1, ← e2, ← e3, hd]
  refine hs.unique ha hg (Int.mul_pos hN hN) ?_ ?_ ?_
  · rw [rfl_lin, hg2, ← e1, ← h1]; exact rfl_again x a _ _
  · rw [rfl_lin, hg2, ← e2, ← h2]; exact rfl_again y b _ _
  · rw [rfl_lin, hg2, ← e3, ← h3]; exact rfl_again z c _ _

theorem twice_dots (h1 : rflP x a (dot3 x y z a b c) (dot3 a b c a b c) = p1) (h2 : rflP y b (dot3 x y z a b c) (dot3 a b c a b c) = p2) (h3 : rflP z c (dot3 x y z a b c) (dot3 a b c a b c) = p3) (hr : Red p1 p2 p3 r1 r2 r3) :
    ∃ g, 0 < g ∧ g * dot3 r1 r2 r3 a b c = dot3 a b c a b c * dot3 x y z a b c ∧ g * g * dot3 r1 r2 r3 r1 r2 r3 = dot3 a b c a b c * dot3 a b c a b c * dot3 x y z x y z := by
  obtain ⟨g, hg, e1, e2, e3⟩ := hr.ex
  have hd : dot3 p1 p2 p3 a b c = dot3 a b c a b c * dot3 x y z a b c := by rw [← h1, ← h2, ← h3]; exact rfl_dot x y z a b c
  have hq : dot3 p1 p2 p3 p1 p2 p3 = dot3 a b c a b c * dot3 a b c a b c * dot3 x y z x y z := by rw [← h1, ← h2, ← h3]; exact rfl_sq x y z a b c
  exact ⟨g, hg, by rw [← dot_lin, ← e1, ← e2, ← e3, hd], by rw [← dot_lin2, ← e1, ← e2, ← e3, hq]⟩

/-- The reflected ray has the cosine of the ray. -/
theorem twice_cos (hn : ¬ (a = 0 ∧ b = 0 ∧ c = 0)) (hd0 : ¬ (x = 0 ∧ y = 0 ∧ z = 0)) (h1 : rflP x a (dot3 x y z a b c) (dot3 a b c a b c) = p1) (h2 : rflP y b (dot3 x y z a b c) (dot3 a b c a b c) = p2) (h3 : rflP z c (dot3 x y z a b c) (dot3 a b c a b c) = p3) (hr : Red p1 p2 p3 r1 r2 r3) :
    sgnI (dot3 x y z a b c) = sgnI (dot3 r1 r2 r3 a b c) ∧ dot3 x y z a b c * dot3 x y z a b c * (dot3 r1 r2 r3 r1 r2 r3 * dot3 a b c a b c) = dot3 r1 r2 r3 a b c * dot3 r1 r2 r3 a b c * (dot3 x y z x y z * dot3 a b c a b c) := by
  obtain ⟨g, hg, e1, e2⟩ := twice_dots h1 h2 h3 hr
  have hN := dot_pos hn
  refine ⟨(sgnI_scale hg hN e1).symm, ?_⟩
  generalize dot3 x y z a b c = D at *
  generalize dot3 r1 r2 r3 r1 r2 r3 = R at *
  generalize dot3 a b c a b c = N at *
  generalize dot3 r1 r2 r3 a b c = E at *
  generalize dot3 x y z x y z = X at *
  have hgg : g * g ≠ 0 := by have := Int.mul_pos hg hg; omega
  apply Int.eq_of_mul_eq_mul_left hgg
  calc g * g * (D * D * (R * N)) = D * D * N * (g * g * R) := by grind
    _ = D * D * N * (N * N * X) := by rw [e2]
    _ = (N * D) * (N * D) * (X * N) := by grind
    _ = (g * E) * (g * E) * (X * N) := by rw [e1]
    _ = g * g * (E * E * (X * N)) := by grind

/-- A ray is reflected to the opposite direction just by what is at right angles to it. -/
theorem twice_right (hn : ¬ (a = 0 ∧ b = 0 ∧ c = 0)) (h1 : rflP x a (dot3 x y z a b c) (dot3 a b c a b c) = p1) (h2 : rflP y b (dot3 x y z a b c) (dot3 a b c a b c) = p2) (h3 : rflP z c (dot3 x y z a b c) (dot3 a b c a b c) = p3)
    (hr : Red p1 p2 p3 r1 r2 r3) (ha : Red x y z a1 a2 a3) (h0 : dot3 x y z a b c = 0) : r1 = -a1 ∧ r2 = -a2 ∧ r3 = -a3 := by
  have hN := dot_pos hn
  rw [h0] at h1 h2 h3
  refine hr.unique ha.neg (by decide : (0 : Int) < 1) hN ?_ ?_ ?_
  · rw [← h1]; unfold rflP; grind
  · rw [← h2]; unfold rflP; grind
  · rw [← h3]; unfold rflP; grind
theorem twice_not (hn : ¬ (a = 0 ∧ b = 0 ∧ c = 0)) (hd0 : ¬ (x = 0 ∧ y = 0 ∧ z = 0)) (h1 : rflP x a (dot3 x y z a b c) (dot3 a b c a b c) = p1) (h2 : rflP y b (dot3 x y z a b c) (dot3 a b c a b c) = p2) (h3 : rflP z c (dot3 x y z a b c) (dot3 a b c a b c) = p3)
    (hr : Red p1 p2 p3 r1 r2 r3) (ha : Red x y z a1 a2 a3) (h0 : dot3 x y z a b c ≠ 0) : ¬ (r1 = -a1 ∧ r2 = -a2 ∧ r3 = -a3) := by
  rintro ⟨q1, q2, q3⟩
  obtain ⟨g, hg, e1, e2⟩ := twice_dots h1 h2 h3 hr
  obtain ⟨k, hk, f1, f2, f3⟩ := ha.ex
  have hN := dot_pos hn
  have hX := dot_pos hd0
  have i1 : dot3 r1 r2 r3 a b c = -dot3 a1 a2 a3 a b c := by rw [q1, q2, q3]; unfold dot3; grind
  have i2 : dot3 r1 r2 r3 r1 r2 r3 = dot3 a1 a2 a3 a1 a2 a3 := by rw [q1, q2, q3]; unfold dot3; grind
  have i3 : dot3 x y z a b c = k * dot3 a1 a2 a3 a b c := by rw [f1, f2, f3]; exact dot_lin ..
  have i4 : dot3 x y z x y z = k * k * dot3 a1 a2 a3 a1 a2 a3 := by rw [f1, f2, f3]; exact dot_lin2 ..
  rw [i1, i3] at e1
  rw [i2, i4] at e2
  rw [i3] at h0
  rw [i4] at hX
  generalize dot3 a b c a b c = N at *
  generalize dot3 a1 a2 a3 a b c = E at *
  generalize dot3 a1 a2 a3 a1 a2 a3 = A at *
  have hE : E ≠ 0 := fun h => h0 (by rw [h]; grind)
  have h4 : -g = N * k := Int.eq_of_mul_eq_mul_right hE (by grind)
  have h5 := Int.mul_pos hN hk
  omega
end
end Go.Proofs.YtpflbkgmgfhhnaaGreatDoor

/-
  Contracts of the reference's divisors of all integers, and of chapter 2's checks of rays, dot products and multiples.
-/
namespace Go.Proofs.YtpflbkgmgfhhnaaGreatDoor
open Go.RowKit
set_option linter.unusedVariables false
set_option linter.unusedSimpArgs false

/-- The greatest common divisor, and 1 if both are 0. -/
def divR (a b : Int) : Int := if Int.gcd a b = 0 then 1 else (Int.gcd a b : Int)
theorem divR_of {a b g : Int} (h : (Int.gcd a b : Int) = g) : divR a b = if g = 0 then 1 else g := by
  unfold divR
  by_cases h0 : Int.gcd a b = 0
  · rw [if_pos h0, if_pos (by omega)]
  · rw [if_neg h0, if_neg (by omega), h]
set_option maxHeartbeats 3200000 in
theorem refDivisor_all (a b : Int) (ha : -4611686018427387904 ≤ a ∧ a ≤ 4611686018427387904) (hb : -4611686018427387904 ≤ b ∧ b ≤ 4611686018427387904) (w : World) :
    Calls Tryz.prog 22 #[.int .i64 a, .int .i64 b] w fun e w' => e = .returned (.int .i64 (divR a b)) ∧ w = w' := by
  by_cases h : a < 0
  · obtain ⟨a1, ea⟩ : ∃ a1, (0 : Int) - a = a1 := ⟨_, rfl⟩
    have ha1 : 0 ≤ a1 ∧ a1 ≤ 4611686018427387904 := by omega
    by_cases h2 : b < 0
    · obtain ⟨b1, eb⟩ : ∃ b1, (0 : Int) - b = b1 := ⟨_, rfl⟩
      have hb1 : 0 ≤ b1 ∧ b1 ≤ 4611686018427387904 := by omega
      have HG1 : Hid (Int.gcd a1 b1 = Int.gcd a b) := Lib.hid (by rw [← ea, ← eb, Int.zero_sub, Int.zero_sub, Int.neg_gcd, Int.gcd_neg])
      go_enter Tryz.func22, Tryz.ntmps22
      go_wp2_with fail
      go_loop [0, 1] (fun x y => ∃ a' b' : Int, x = .int .i64 a' ∧ y = .int .i64 b' ∧ (0 ≤ a' ∧ a' ≤ 4611686018427387904) ∧ (0 ≤ b' ∧ b' ≤ 4611686018427387904) ∧ Hid (Int.gcd a' b' = Int.gcd a b)) (fun _ y => (intOf y).natAbs)
      case atStart => exact ⟨a1, b1, rfl, rfl, ha1, hb1, HG1⟩
      case round =>
        obtain ⟨a', b', rfl, rfl, ha', hb', hg⟩ := hrel
        clear hb ha1 hb1
        by_cases h0 : b' = 0
        · have HG : Hid ((Int.gcd a b : Int) = a') := Lib.hid (by rw [← hg.out, h0, gcd_zero]; omega)
          have HD := Lib.hid (divR_of HG.out)
          subst h0
          clear hg
          by_cases hz : a' = 0
          · have e0 : (a' == 0) = true := by simp [hz]
            rw [if_pos hz] at HD
            go_wp2
            go_ret
            exact ⟨ret_int HD.out.symm, rfl⟩
          · have e0 : (a' == 0) = false := by simp [hz]
            rw [if_neg hz] at HD
            go_wp2
            go_ret
            exact ⟨ret_int HD.out.symm, rfl⟩
        · have e0 : (b' != 0) = true := by simp [h0]
          have em : a'.tmod b' = a' % b' := Int.tmod_eq_emod_of_nonneg ha'.1
          have hn := tmod_small a' b' h0
          have hb2 : 0 ≤ a' % b' ∧ a' % b' ≤ 4611686018427387904 := by
            have := Int.emod_nonneg a' h0
            rw [em] at hn
            omega
          have hg2 := Lib.hid ((gcd_step a' b').trans hg.out)
          rw [em] at hg2 hn
          clear hg em
          go_wp2
          go_round
          case rel => exact ⟨b', a' % b', rfl, rfl, hb', hb2, hg2⟩
          case measure => exact hn
    · have hb1 : 0 ≤ b ∧ b ≤ 4611686018427387904 := by omega
      have HG1 : Hid (Int.gcd a1 b = Int.gcd a b) := Lib.hid (by rw [← ea, Int.zero_sub, Int.neg_gcd])
      go_enter Tryz.func22, Tryz.ntmps22
      go_wp2_with fail
      go_loop [0, 1] (fun x y => ∃ a' b' : Int, x = .int .i64 a' ∧ y = .int .i64 b' ∧ (0 ≤ a' ∧ a' ≤ 4611686018427387904) ∧ (0 ≤ b' ∧ b' ≤ 4611686018427387904) ∧ Hid (Int.gcd a' b' = Int.gcd a b)) (fun _ y => (intOf y).natAbs)
      case atStart => exact ⟨a1, b, rfl, rfl, ha1, hb1, HG1⟩
      case round =>
        obtain ⟨a', b', rfl, rfl, ha', hb', hg⟩ := hrel
        clear hb ha1 hb1
        by_cases h0 : b' = 0
        · have HG : Hid ((Int.gcd a b : Int) = a') := Lib.hid (by rw [← hg.out, h0, gcd_zero]; omega)
          have HD := Lib.hid (divR_of HG.out)
          subst h0
          clear hg
          by_cases hz : a' = 0
          · have e0 : (a' == 0) = true := by simp [hz]
            rw [if_pos hz] at HD
            go_wp2
            go_ret
            exact ⟨ret_int HD.out.symm, rfl⟩
          · have e0 : (a' == 0) = false := by simp [hz]
            rw [if_neg hz] at HD
            go_wp2
            go_ret
            exact ⟨ret_int HD.out.symm, rfl⟩
        · have e0 : (b' != 0) = true := by simp [h0]
          have em : a'.tmod b' = a' % b' := Int.tmod_eq_emod_of_nonneg ha'.1
          have hn := tmod_small a' b' h0
          have hb2 : 0 ≤ a' % b' ∧ a' % b' ≤ 4611686018427387904 := by
            have := Int.emod_nonneg a' h0
            rw [em] at hn
            omega
          have hg2 := Lib.hid ((gcd_step a' b').trans hg.out)
          rw [em] at hg2 hn
          clear hg em
          go_wp2
          go_round
          case rel => exact ⟨b', a' % b', rfl, rfl, hb', hb2, hg2⟩
          case measure => exact hn
  · have ha1 : 0 ≤ a ∧ a ≤ 4611686018427387904 := by omega
    by_cases h2 : b < 0
    · obtain ⟨b1, eb⟩ : ∃ b1, (0 : Int) - b = b1 := ⟨_, rfl⟩
      have hb1 : 0 ≤ b1 ∧ b1 ≤ 4611686018427387904 := by omega
      have HG1 : Hid (Int.gcd a b1 = Int.gcd a b) := Lib.hid (by rw [← eb, Int.zero_sub, Int.gcd_neg])
      go_enter Tryz.func22, Tryz.ntmps22
      go_wp2_with fail
      go_loop [0, 1] (fun x y => ∃ a' b' : Int, x = .int .i64 a' ∧ y = .int .i64 b' ∧ (0 ≤ a' ∧ a' ≤ 4611686018427387904) ∧ (0 ≤ b' ∧ b' ≤ 4611686018427387904) ∧ Hid (Int.gcd a' b' = Int.gcd a b)) (fun _ y => (intOf y).natAbs)
      case atStart => exact ⟨a, b1, rfl, rfl, ha1, hb1, HG1⟩
      case round =>
        obtain ⟨a', b', rfl, rfl, ha', hb', hg⟩ := hrel
        clear hb ha1 hb1
        by_cases h0 : b' = 0
        · have HG : Hid ((Int.gcd a b : Int) = a') := Lib.hid (by rw [← hg.out, h0, gcd_zero]; omega)
          have HD := Lib.hid (divR_of HG.out)
          subst h0
          clear hg
          by_cases hz : a' = 0
          · have e0 : (a' == 0) = true := by simp [hz]
            rw [if_pos hz] at HD
            go_wp2
            go_ret
            exact ⟨ret_int HD.out.symm, rfl⟩
          · have e0 : (a' == 0) = false := by simp [hz]
            rw [if_neg hz] at HD
            go_wp2
            go_ret
            exact ⟨ret_int HD.out.symm, rfl⟩
        · have e0 : (b' != 0) = true := by simp [h0]
          have em : a'.tmod b' = a' % b' := Int.tmod_eq_emod_of_nonneg ha'.1
          have hn := tmod_small a' b' h0
          have hb2 : 0 ≤ a' % b' ∧ a' % b' ≤ 4611686018427387904 := by
            have := Int.emod_nonneg a' h0
            rw [em] at hn
            omega
          have hg2 := Lib.hid ((gcd_step a' b').trans hg.out)
          rw [em] at hg2 hn
          clear hg em
          go_wp2
          go_round
          case rel => exact ⟨b', a' % b', rfl, rfl, hb', hb2, hg2⟩
          case measure => exact hn
    · have hb1 : 0 ≤ b ∧ b ≤ 4611686018427387904 := by omega
      go_enter Tryz.func22, Tryz.ntmps22
      go_wp2_with fail
      go_loop [0, 1] (fun x y => ∃ a' b' : Int, x = .int .i64 a' ∧ y = .int .i64 b' ∧ (0 ≤ a' ∧ a' ≤ 4611686018427387904) ∧ (0 ≤ b' ∧ b' ≤ 4611686018427387904) ∧ Hid (Int.gcd a' b' = Int.gcd a b)) (fun _ y => (intOf y).natAbs)
      case atStart => exact ⟨a, b, rfl, rfl, ha1, hb1, Lib.hid rfl⟩
      case round =>
        obtain ⟨a', b', rfl, rfl, ha', hb', hg⟩ := hrel
        clear hb ha1 hb1
        by_cases h0 : b' = 0
        · have HG : Hid ((Int.gcd a b : Int) = a') := Lib.hid (by rw [← hg.out, h0, gcd_zero]; omega)
          have HD := Lib.hid (divR_of HG.out)
          subst h0
          clear hg
          by_cases hz : a' = 0
          · have e0 : (a' == 0) = true := by simp [hz]
            rw [if_pos hz] at HD
            go_wp2
            go_ret
            exact ⟨ret_int HD.out.symm, rfl⟩
          · have e0 : (a' == 0) = false := by simp [hz]
            rw [if_neg hz] at HD
            go_wp2
            go_ret
            exact ⟨ret_int HD.out.symm, rfl⟩
        · have e0 : (b' != 0) = true := by simp [h0]
          have em : a'.tmod b' = a' % b' := Int.tmod_eq_emod_of_nonneg ha'.1
          have hn := tmod_small a' b' h0
          have hb2 : 0 ≤ a' % b' ∧ a' % b' ≤ 4611686018427387904 := by
            have := Int.emod_nonneg a' h0
            rw [em] at hn
            omega
          have hg2 := Lib.hid ((gcd_step a' b').trans hg.out)
          rw [em] at hg2 hn
          clear hg em
          go_wp2
          go_round
          case rel => exact ⟨b', a' % b', rfl, rfl, hb', hb2, hg2⟩
          case measure => exact hn

set_option maxRecDepth 100000 in
set_option maxHeartbeats 6400000 in
theorem refWithin_all (x y z L : Int) (hL : 0 ≤ L ∧ L ≤ 1048576) (w : World) :
    Calls Tryz.prog 43 #[.agg #[.int .i64 x, .int .i64 y, .int .i64 z], .int .i64 L] w fun e w' => e = .returned (.int .i64 (vectorErrL L x y z)) ∧ Below w.heap.size w w' := by
  obtain ⟨ex, hx⟩ : ∃ e : Int, rangeErr x (-L) L = e := ⟨_, rfl⟩
  obtain ⟨ey, hy⟩ : ∃ e : Int, rangeErr y (-L) L = e := ⟨_, rfl⟩
  obtain ⟨ez, hz⟩ : ∃ e : Int, rangeErr z (-L) L = e := ⟨_, rfl⟩
  have Kx : Hid (∀ w1 : World, Calls Tryz.prog 42 #[.int .i64 x, .int .i64 (-L), .int .i64 L] w1 fun e w' => e = .returned (.int .i64 ex) ∧ w1 = w') := Lib.hid fun w1 => by
    have h := refCheckRange_any x (-L) L w1
    rwa [hx] at h
  have Ky : Hid (∀ w1 : World, Calls Tryz.prog 42 #[.int .i64 y, .int .i64 (-L), .int .i64 L] w1 fun e w' => e = .returned (.int .i64 ey) ∧ w1 = w') := Lib.hid fun w1 => by
    have h := refCheckRange_any y (-L) L w1
    rwa [hy] at h
  have Kz : Hid (∀ w1 : World, Calls Tryz.prog 42 #[.int .i64 z, .int .i64 (-L), .int .i64 L] w1 fun e w' => e = .returned (.int .i64 ez) ∧ w1 = w') := Lib.hid fun w1 => by
    have h := refCheckRange_any z (-L) L w1
    rwa [hz] at h
  unfold vectorErrL
  rw [hx, hy, hz]
  obtain ⟨E, hE⟩ : ∃ E : Int, firstNZ [ex, ey, ez] = E := ⟨_, rfl⟩
  have KF : Hid (∀ (w1 : World) (b : Nat), (∀ j, j < 3 → w1.cell? ⟨b, 0 + j, none⟩ = some (.int .i64 (([ex, ey, ez] : List Int)[j]?.getD 0))) → Calls Tryz.prog 41 #[.slice (some ⟨b, 0, none⟩) 3 3] w1 fun e w' => e = .returned (.int .i64 E) ∧ w1 = w') := Lib.hid fun w1 b h => by
    have k := refFirst_any b 0 3 3 [ex, ey, ez] rfl (by omega) w1 h
    rwa [hE] at k
  rw [hE]
  have wl : IntKind.i64.wrap (0 - L) = -L := by rw [Int.zero_sub]; exact IntWalk.i64_in _ ⟨by omega, by omega⟩
  have wl2 : IntKind.i64.wrap (-L) = -L := IntWalk.i64_in _ ⟨by omega, by omega⟩
  clear hx hy hz hE hL
  obtain ⟨W0, hW0⟩ : ∃ W0, (w.alloc (.cells #[.int .i64 x, .int .i64 y, .int .i64 z] 23)) = W0 := ⟨_, rfl⟩
  have K0 : Hid (Kp w W0 [(w.heap.size, (.cells #[.int .i64 x, .int .i64 y, .int .i64 z] 23 (0, 0)))]) := Lib.hid (by
    rw [← hW0]
    have k := ((Kp.none w).alloc (.cells #[.int .i64 x, .int .i64 y, .int .i64 z] 23))
    simpa using k)
  go_enter Tryz.func43, Tryz.ntmps43
  go_upto_region 1 with fail
  try rw [hW0]
  clear hW0
  apply wp_region_gives 18 (fun w' => Blw W0.heap.size W0 w') [.pointer (some ⟨w.heap.size, 0, none⟩), .int .i64 x, .int .i64 L, .int .i64 (-L), .int .i64 L, .int .i64 ex, .pointer (some ⟨w.heap.size, 1, none⟩), .int .i64 y, .int .i64 L, .int .i64 (-L), .int .i64 L, .int .i64 ey, .pointer (some ⟨w.heap.size, 2, none⟩), .int .i64 z, .int .i64 L, .int .i64 (-L), .int .i64 L, .int .i64 ez] (by kernel_rfl) (by kernel_rfl) (by kernel_rfl) (show Below _ _ _ from (Below.refl _ _).drew)
  case haF =>
    simp [putJs, Act.put, List.range, List.range.loop]
    exact rfl
  case h =>
    have hBq := K0.out.2 _ (.head _)
    simp only [List.take_succ_cons, List.take_zero, GivesL]
    clear K0
    refine ⟨?_, ?_, ?_, ?_, ?_, ?_, ?_, ?_, ?_, ?_, ?_, ?_, ?_, ?_, ?_, ?_, ?_, ?_, trivial⟩
    all_goals
      intro w1 hw1
      obtain ⟨q_0, q_1, q_2⟩ := cells3 (((show Below _ _ _ from hw1).block _ (lt_of_blk hBq)).trans hBq)
      unfold Oper.wp
      simp only [execOp]
      go_simp <;> first
        | exact ⟨rfl, hw1⟩
        | ((with_reducible refine (Kx.out _).mono ?_); rintro e w2 ⟨rfl, rfl⟩; exact ⟨rfl, hw1⟩)
        | ((with_reducible refine (Ky.out _).mono ?_); rintro e w2 ⟨rfl, rfl⟩; exact ⟨rfl, hw1⟩)
        | ((with_reducible refine (Kz.out _).mono ?_); rintro e w2 ⟨rfl, rfl⟩; exact ⟨rfl, hw1⟩)
  case ht =>
    intro w2 hw5
    have K2 := Lib.hid (K0.out.call (show Below _ _ _ from hw5))
    clear hw5 K0
    simp only [List.drop_succ_cons, List.drop_zero]
    go_wp2_with (first
      | (go_at_call 41; (with_reducible refine (KF.out _ _ ?_).mono ?_); rotate_left 1; rintro e w6 ⟨rfl, rfl⟩; rotate_left 1; (intro j hj; match j, hj with | 0, _ => simp [go_sem] | 1, _ => simp [go_sem] | 2, _ => simp [go_sem])))
    go_ret
    exact ⟨rfl, (Kp.below K2.out).alloc (Kp.below K2.out).size _⟩

set_option maxRecDepth 100000 in
set_option maxHeartbeats 6400000 in
theorem refCheckRay_all (x y z : Int) (w : World) :
    Calls Tryz.prog 11 #[.agg #[.int .i64 x, .int .i64 y, .int .i64 z]] w fun e w' => e = .returned (.int .i64 (rayErr x y z)) ∧ Below w.heap.size w w' := by
  obtain ⟨e1, h1⟩ : ∃ e : Int, directionErr x y z = e := ⟨_, rfl⟩
  obtain ⟨e2, h2⟩ : ∃ e : Int, vectorErrL 4096 x y z = e := ⟨_, rfl⟩
  have KA : Hid (∀ w1 : World, Calls Tryz.prog 31 #[.agg #[.int .i64 x, .int .i64 y, .int .i64 z]] w1 fun e w' => e = .returned (.int .i64 e1) ∧ Below w1.heap.size w1 w') := Lib.hid fun w1 => by
    have h := refCheckDirection_all x y z w1
    rwa [h1] at h
  have KB : Hid (∀ w1 : World, Calls Tryz.prog 43 #[.agg #[.int .i64 x, .int .i64 y, .int .i64 z], .int .i64 4096] w1 fun e w' => e = .returned (.int .i64 e2) ∧ Below w1.heap.size w1 w') := Lib.hid fun w1 => by
    have h := refWithin_all x y z 4096 (by omega) w1
    rwa [h2] at h
  unfold rayErr
  rw [h1, h2]
  obtain ⟨E, hE⟩ : ∃ E : Int, firstNZ [e1, e2] = E := ⟨_, rfl⟩
  have KF : Hid (∀ (w1 : World) (b : Nat), (∀ j, j < 2 → w1.cell? ⟨b, 0 + j, none⟩ = some (.int .i64 (([e1, e2] : List Int)[j]?.getD 0))) → Calls Tryz.prog 41 #[.slice (some ⟨b, 0, none⟩) 2 2] w1 fun e w' => e = .returned (.int .i64 E) ∧ w1 = w') := Lib.hid fun w1 b h => by
    have k := refFirst_any b 0 2 2 [e1, e2] rfl (by omega) w1 h
    rwa [hE] at k
  rw [hE]
  clear h1 h2 hE
  obtain ⟨W0, hW0⟩ : ∃ W0, (w.alloc (.cells #[.int .i64 x, .int .i64 y, .int .i64 z] 23)) = W0 := ⟨_, rfl⟩
  have K0 : Hid (Kp w W0 [(w.heap.size, (.cells #[.int .i64 x, .int .i64 y, .int .i64 z] 23 (0, 0)))]) := Lib.hid (by
    rw [← hW0]
    have k := ((Kp.none w).alloc (.cells #[.int .i64 x, .int .i64 y, .int .i64 z] 23))
    simpa using k)
  go_enter Tryz.func11, Tryz.ntmps11
  go_upto_region 1 with fail
  try rw [hW0]
  clear hW0
  apply wp_region_gives 4 (fun w' => Blw W0.heap.size W0 w') [.agg #[.int .i64 x, .int .i64 y, .int .i64 z], .int .i64 e1, .agg #[.int .i64 x, .int .i64 y, .int .i64 z], .int .i64 e2] (by kernel_rfl) (by kernel_rfl) (by kernel_rfl) (show Below _ _ _ from (Below.refl _ _).drew)
  case haF =>
    simp [putJs, Act.put, List.range, List.range.loop]
    exact rfl
  case h =>
    have hBq := K0.out.2 _ (.head _)
    simp only [List.take_succ_cons, List.take_zero, GivesL]
    clear K0
    refine ⟨?_, ?_, ?_, ?_, trivial⟩
    all_goals
      intro w1 hw1
      obtain ⟨q_0, q_1, q_2⟩ := cells3 (((show Below _ _ _ from hw1).block _ (lt_of_blk hBq)).trans hBq)
      unfold Oper.wp
      simp only [execOp]
      go_simp <;> first
        | exact ⟨rfl, hw1⟩
        | ((with_reducible refine (KA.out _).mono ?_); rintro e w2 ⟨rfl, hb⟩; exact ⟨rfl, below_call hb hw1⟩)
        | ((with_reducible refine (KB.out _).mono ?_); rintro e w2 ⟨rfl, hb⟩; exact ⟨rfl, below_call hb hw1⟩)
  case ht =>
    intro w2 hw5
    have K2 := Lib.hid (K0.out.call (show Below _ _ _ from hw5))
    clear hw5 K0
    simp only [List.drop_succ_cons, List.drop_zero]
    go_wp2_with (first
      | (go_at_call 41; (with_reducible refine (KF.out _ _ ?_).mono ?_); rotate_left 1; rintro e w6 ⟨rfl, rfl⟩; rotate_left 1; (intro j hj; match j, hj with | 0, _ => simp [go_sem] | 1, _ => simp [go_sem])))
    go_ret
    exact ⟨rfl, (Kp.below K2.out).alloc (Kp.below K2.out).size _⟩

set_option maxRecDepth 100000 in
set_option maxHeartbeats 6400000 in
theorem refDot_any (x y z a b c : Int) (h1 : Fit (x * a)) (h2 : Fit (y * b)) (h3 : Fit (z * c)) (w : World) :
    Calls Tryz.prog 23 #[.agg #[.int .i64 x, .int .i64 y, .int .i64 z], .agg #[.int .i64 a, .int .i64 b, .int .i64 c]] w fun e w' => e = .returned (.int .i64 (dot3 x y z a b c)) ∧ Below w.heap.size w w' := by
  unfold dot3
  obtain ⟨m1, e1⟩ : ∃ m1, x * a = m1 := ⟨_, rfl⟩
  obtain ⟨m2, e2⟩ : ∃ m2, y * b = m2 := ⟨_, rfl⟩
  obtain ⟨m3, e3⟩ : ∃ m3, z * c = m3 := ⟨_, rfl⟩
  rw [e1] at h1 ⊢
  rw [e2] at h2 ⊢
  rw [e3] at h3 ⊢
  have w1 := h1.wrap
  have w2 := h2.wrap
  have w3 := h3.wrap
  have s2 := wrap_fit2 h1 h2
  have s3 := wrap_fit3 h1 h2 h3
  clear h1 h2 h3
  go_enter Tryz.func23, Tryz.ntmps23
  go_wp2_with fail
  go_ret
  exact ⟨rfl, ((Below.refl _ _).alloc (Nat.le_refl _) _).alloc (by simp) _⟩

set_option maxRecDepth 100000 in
set_option maxHeartbeats 6400000 in
theorem refTimes_any (x y z n : Int) (h1 : Fit (x * n)) (h2 : Fit (y * n)) (h3 : Fit (z * n)) (w : World) :
    Calls Tryz.prog 24 #[.agg #[.int .i64 x, .int .i64 y, .int .i64 z], .int .i64 n] w fun e w' => e = .returned (.agg #[.int .i64 (x * n), .int .i64 (y * n), .int .i64 (z * n)]) ∧ Below w.heap.size w w' := by
  obtain ⟨m1, e1⟩ : ∃ m1, x * n = m1 := ⟨_, rfl⟩
  obtain ⟨m2, e2⟩ : ∃ m2, y * n = m2 := ⟨_, rfl⟩
  obtain ⟨m3, e3⟩ : ∃ m3, z * n = m3 := ⟨_, rfl⟩
  rw [e1] at h1 ⊢
  rw [e2] at h2 ⊢
  rw [e3] at h3 ⊢
  have w1 := h1.wrap
  have w2 := h2.wrap
  have w3 := h3.wrap
  clear h1 h2 h3
  go_enter Tryz.func24, Tryz.ntmps24
  go_wp2_with fail
  refine bodyPost_ret (v := .agg #[.int .i64 m1, .int .i64 m2, .int .i64 m3]) (by simp [results, Tryz.results24, go_sem]) rfl ⟨rfl, ?_⟩
  first
    | exact ((Below.refl _ w).alloc (Nat.le_refl _) _).alloc (by simp) _
    | exact (((((Below.refl _ w).alloc (Nat.le_refl _) _).alloc (by simp) _).setCell (by simp) _).setCell (by simp) _).setCell (by simp) _
end Go.Proofs.YtpflbkgmgfhhnaaGreatDoor

/-
  Contract of what tells tiny rays.
-/
namespace Go.Proofs.YtpflbkgmgfhhnaaGreatDoor
open Go.RowKit
set_option linter.unusedVariables false
set_option linter.unusedSimpArgs false

def tinyP (x y z : Int) : Prop := rayErr x y z = 0 ∧ (-40 ≤ x ∧ x ≤ 40) ∧ (-40 ≤ y ∧ y ≤ 40) ∧ (-40 ≤ z ∧ z ≤ 40)
def max6 (a b c d e f : Int) : Int := max (max (max (max (max a b) c) d) e) f
theorem run_max2 (a b : Int) : Builtin.max2 (.int .i64 a) (.int .i64 b) = pure (.int .i64 (max a b)) := by
  have m : (if b > a then b else a) = max a b := by
    rw [Int.max_def]
    split <;> split <;> omega
  simp only [Builtin.max2, m]
@[go_sem high] theorem run_max6 {P : Program} (a b c d e f : Int) (w : World) (ts : Array TypeId) (t : TypeId) : (Builtin.max_ ts t #[.int .i64 a, .int .i64 b, .int .i64 c, .int .i64 d, .int .i64 e, .int .i64 f]).run P w = .ok (.int .i64 (max6 a b c d e f)) w := by
  simp [Builtin.max_, List.foldlM, run_max2, max6]

set_option maxRecDepth 100000 in
set_option maxHeartbeats 6400000 in
theorem tiny_yes (x y z : Int) (h : tinyP x y z) (w : World) :
    Calls Tryz.prog 18 #[.agg #[.int .i64 x, .int .i64 y, .int .i64 z]] w fun e w' => e = .returned (.bool true) ∧ Below w.heap.size w w' := by
  obtain ⟨h0, hx, hy, hz⟩ := h
  have KR : Hid (∀ w1 : World, Calls Tryz.prog 11 #[.agg #[.int .i64 x, .int .i64 y, .int .i64 z]] w1 fun e w' => e = .returned (.int .i64 0) ∧ Below w1.heap.size w1 w') := Lib.hid fun w1 => by
    have h := refCheckRay_all x y z w1
    rwa [h0] at h
  obtain ⟨W0, hW0⟩ : ∃ W0, w.alloc (.cells #[.int .i64 x, .int .i64 y, .int .i64 z] 23) = W0 := ⟨_, rfl⟩
  have K0 : Hid (Kp w W0 [(w.heap.size, .cells #[.int .i64 x, .int .i64 y, .int .i64 z] 23 (0, 0))]) := Lib.hid (by
    rw [← hW0]
    have k := (Kp.none w).alloc (.cells #[.int .i64 x, .int .i64 y, .int .i64 z] 23)
    simpa using k)
  have y6 := @run_max6
  clear y6
  have n1 : IntKind.i64.wrap (-x) = -x := IntWalk.i64_in _ ⟨by omega, by omega⟩
  have n2 : IntKind.i64.wrap (-y) = -y := IntWalk.i64_in _ ⟨by omega, by omega⟩
  have n3 : IntKind.i64.wrap (-z) = -z := IntWalk.i64_in _ ⟨by omega, by omega⟩
  obtain ⟨m, hmm⟩ : ∃ m, max6 x (-x) y (-y) z (-z) = m := ⟨_, rfl⟩
  have hle : m ≤ 40 := by unfold max6 at hmm; omega
  clear hx hy hz h0
  go_enter Tryz.func18, Tryz.ntmps18
  go_upto_region 1 with fail
  try rw [hW0]
  clear hW0
  obtain ⟨b0, b1, b2⟩ := cells3 (K0.out.2 _ (.head _))
  go_wp2_with (first
    | (go_at_call 11; (with_reducible refine (KR.out _).mono ?_); rintro e w1 ⟨rfl, hb⟩; have K1 := Lib.hid (K0.out.call hb); clear hb; obtain ⟨c0, c1, c2⟩ := cells3 (K1.out.2 _ (.head _))))
  go_ret
  first
    | exact ⟨rfl, Kp.below K1.out⟩
    | exact ⟨by show Ending.returned (Value.bool (decide (m ≤ 40))) = _; rw [decide_eq_false (by omega)], Kp.below K1.out⟩

set_option maxRecDepth 100000 in
set_option maxHeartbeats 6400000 in
theorem tiny_no (x y z : Int) (h : ¬ tinyP x y z) (w : World) :
    Calls Tryz.prog 18 #[.agg #[.int .i64 x, .int .i64 y, .int .i64 z]] w fun e w' => e = .returned (.bool false) ∧ Below w.heap.size w w' := by
  by_cases h0 : rayErr x y z = 0
  · obtain ⟨_, hx, hy, hz⟩ := ray_ok h0
    have KR : Hid (∀ w1 : World, Calls Tryz.prog 11 #[.agg #[.int .i64 x, .int .i64 y, .int .i64 z]] w1 fun e w' => e = .returned (.int .i64 0) ∧ Below w1.heap.size w1 w') := Lib.hid fun w1 => by
      have h := refCheckRay_all x y z w1
      rwa [h0] at h
    obtain ⟨W0, hW0⟩ : ∃ W0, w.alloc (.cells #[.int .i64 x, .int .i64 y, .int .i64 z] 23) = W0 := ⟨_, rfl⟩
    have K0 : Hid (Kp w W0 [(w.heap.size, .cells #[.int .i64 x, .int .i64 y, .int .i64 z] 23 (0, 0))]) := Lib.hid (by
      rw [← hW0]
      have k := (Kp.none w).alloc (.cells #[.int .i64 x, .int .i64 y, .int .i64 z] 23)
      simpa using k)
    have y6 := @run_max6
    clear y6
    have n1 : IntKind.i64.wrap (-x) = -x := IntWalk.i64_in _ ⟨by omega, by omega⟩
    have n2 : IntKind.i64.wrap (-y) = -y := IntWalk.i64_in _ ⟨by omega, by omega⟩
    have n3 : IntKind.i64.wrap (-z) = -z := IntWalk.i64_in _ ⟨by omega, by omega⟩
    obtain ⟨m, hmm⟩ : ∃ m, max6 x (-x) y (-y) z (-z) = m := ⟨_, rfl⟩
    have hle : ¬ m ≤ 40 := fun hle => h ⟨h0, by unfold max6 at hmm; omega, by unfold max6 at hmm; omega, by unfold max6 at hmm; omega⟩
    clear hx hy hz h h0
    go_enter Tryz.func18, Tryz.ntmps18
    go_upto_region 1 with fail
    try rw [hW0]
    clear hW0
    obtain ⟨b0, b1, b2⟩ := cells3 (K0.out.2 _ (.head _))
    go_wp2_with (first
      | (go_at_call 11; (with_reducible refine (KR.out _).mono ?_); rintro e w1 ⟨rfl, hb⟩; have K1 := Lib.hid (K0.out.call hb); clear hb; obtain ⟨c0, c1, c2⟩ := cells3 (K1.out.2 _ (.head _))))
    go_ret
    first
      | exact ⟨rfl, Kp.below K1.out⟩
      | exact ⟨by show Ending.returned (Value.bool (decide (m ≤ 40))) = _; rw [decide_eq_false (by omega)], Kp.below K1.out⟩
  · obtain ⟨er, her⟩ : ∃ er, rayErr x y z = er := ⟨_, rfl⟩
    rw [her] at h0
    have n0 : (er == 0) = false := by simp [h0]
    have KR : Hid (∀ w1 : World, Calls Tryz.prog 11 #[.agg #[.int .i64 x, .int .i64 y, .int .i64 z]] w1 fun e w' => e = .returned (.int .i64 er) ∧ Below w1.heap.size w1 w') := Lib.hid fun w1 => by
      have h := refCheckRay_all x y z w1
      rwa [her] at h
    obtain ⟨W0, hW0⟩ : ∃ W0, w.alloc (.cells #[.int .i64 x, .int .i64 y, .int .i64 z] 23) = W0 := ⟨_, rfl⟩
    have K0 : Hid (Kp w W0 [(w.heap.size, .cells #[.int .i64 x, .int .i64 y, .int .i64 z] 23 (0, 0))]) := Lib.hid (by
      rw [← hW0]
      have k := (Kp.none w).alloc (.cells #[.int .i64 x, .int .i64 y, .int .i64 z] 23)
      simpa using k)
    clear her h h0
    go_enter Tryz.func18, Tryz.ntmps18
    go_upto_region 1 with fail
    try rw [hW0]
    clear hW0
    obtain ⟨b0, b1, b2⟩ := cells3 (K0.out.2 _ (.head _))
    go_wp2_with (first
      | (go_at_call 11; (with_reducible refine (KR.out _).mono ?_); rintro e w1 ⟨rfl, hb⟩; have K1 := Lib.hid (K0.out.call hb); clear hb; obtain ⟨c0, c1, c2⟩ := cells3 (K1.out.2 _ (.head _))))
    go_ret
    first
      | exact ⟨rfl, Kp.below K1.out⟩
      | exact ⟨by show Ending.returned (Value.bool (decide (m ≤ 40))) = _; rw [decide_eq_false (by omega)], Kp.below K1.out⟩
end Go.Proofs.YtpflbkgmgfhhnaaGreatDoor

/-
  What SunTwice's walks ask for.
-/
namespace Go.Proofs.YtpflbkgmgfhhnaaGreatDoor
open Go.RowKit
set_option linter.unusedVariables false
set_option linter.unusedSimpArgs false

theorem rng_in {n L : Int} (h : -L ≤ n ∧ n ≤ L) : rangeErr n (-L) L = 0 := by
  unfold rangeErr
  rw [if_neg (by omega)]
theorem vec_in {L x y z : Int} (hx : -L ≤ x ∧ x ≤ L) (hy : -L ≤ y ∧ y ≤ L) (hz : -L ≤ z ∧ z ≤ L) : vectorErrL L x y z = 0 := by
  unfold vectorErrL
  rw [rng_in hx, rng_in hy, rng_in hz]
  rfl
theorem dir_in {x y z : Int} (h0 : ¬ (x = 0 ∧ y = 0 ∧ z = 0)) (hx : -4096 ≤ x ∧ x ≤ 4096) (hy : -4096 ≤ y ∧ y ≤ 4096) (hz : -4096 ≤ z ∧ z ≤ 4096) : directionErr x y z = 0 := by
  unfold directionErr
  rw [if_neg h0, vectorErr_L, vec_in (by omega) (by omega) (by omega)]
  rfl
theorem ray_in {x y z : Int} (h0 : ¬ (x = 0 ∧ y = 0 ∧ z = 0)) (hx : -4096 ≤ x ∧ x ≤ 4096) (hy : -4096 ≤ y ∧ y ≤ 4096) (hz : -4096 ≤ z ∧ z ≤ 4096) : rayErr x y z = 0 := by
  unfold rayErr
  rw [dir_in h0 hx hy hz, vec_in hx hy hz]
  rfl
/-- The reduced vector of a ray is a ray with parts that are no longer. -/
theorem red_small {x y z r1 r2 r3 M : Int} (h : Red x y z r1 r2 r3) (hx : -M ≤ x ∧ x ≤ M) (hy : -M ≤ y ∧ y ≤ M) (hz : -M ≤ z ∧ z ≤ M) : (-M ≤ r1 ∧ r1 ≤ M) ∧ (-M ≤ r2 ∧ r2 ≤ M) ∧ (-M ≤ r3 ∧ r3 ≤ M) := by
  obtain ⟨h1, h2, h3⟩ := h.small
  omega
/-- What has no common divisor is its own reduced vector. -/
theorem red_one {x y z r1 r2 r3 : Int} (h : Red x y z r1 r2 r3) : r1.tdiv (g3 r1 r2 r3) = r1 ∧ r2.tdiv (g3 r1 r2 r3) = r2 ∧ r3.tdiv (g3 r1 r2 r3) = r3 := by
  rw [h.one]
  exact ⟨Int.tdiv_one _, Int.tdiv_one _, Int.tdiv_one _⟩
theorem divR_one {x y z r1 r2 r3 : Int} (h : Red x y z r1 r2 r3) : divR (divR r1 r2) r3 = 1 := by
  have h1 := h.one
  unfold g3 at h1
  by_cases h0 : Int.gcd r1 r2 = 0
  · rw [divR_of (a := r1) (b := r2) (g := 0) (by omega), if_pos rfl]
    rw [divR_of (g := 1) (by rw [Int.one_gcd]; rfl), if_neg (by decide)]
  · have e : divR r1 r2 = (Int.gcd r1 r2 : Int) := by
      unfold divR
      rw [if_neg h0]
    rw [e, divR_of h1, if_neg (by decide)]
theorem divR_le {a b : Int} {M : Int} (hM : 1 ≤ M) (ha : -M ≤ a ∧ a ≤ M) (hb : -M ≤ b ∧ b ≤ M) : -M ≤ divR a b ∧ divR a b ≤ M := by
  unfold divR
  by_cases h0 : Int.gcd a b = 0
  · rw [if_pos h0]
    omega
  · rw [if_neg h0]
    by_cases h : a = 0
    · by_cases h2 : b = 0
      · subst h h2
        exact absurd rfl h0
      · have := Nat.le_of_dvd (by omega) (Int.gcd_dvd_natAbs_right a b)
        omega
    · have := Nat.le_of_dvd (by omega) (Int.gcd_dvd_natAbs_left a b)
      omega
theorem fit_small {x a : Int} (hx : -4096 ≤ x ∧ x ≤ 4096) (ha : -4096 ≤ a ∧ a ≤ 4096) : Fit (x * a) := by
  have h : (x * a).natAbs ≤ 4096 * 4096 := by
    rw [Int.natAbs_mul]
    exact Nat.mul_le_mul (by omega) (by omega)
  unfold Fit
  omega
end Go.Proofs.YtpflbkgmgfhhnaaGreatDoor

/-
  The walk of SunTwice: from region 9 on.
-/
namespace Go.Proofs.YtpflbkgmgfhhnaaGreatDoor
open Go.RowKit
set_option linter.unusedVariables false
set_option linter.unusedSimpArgs false
set_option maxRecDepth 1000000 in
set_option maxHeartbeats 12800000 in
theorem tw9_large (w : World) (x y z a b c a1 a2 a3 : Int)
    (KR : Hid (∀ w1 : World, Calls Tryz.prog 21 #[.agg #[.int .i64 x, .int .i64 y, .int .i64 z], .agg #[.int .i64 a, .int .i64 b, .int .i64 c]] w1 fun e w' => e = .returned (.tuple #[.agg #[.int .i64 0, .int .i64 0, .int .i64 0], .int .i64 4]) ∧ Below w1.heap.size w1 w'))
    (KW : Hid (∀ w1 : World, Below w.heap.size w w1 → Calls Tryz.prog 17 #[] w1 fun e w' => e = .returned (.bool true) ∧ Below w1.heap.size w1 w'))
    : STw9 w x y z a b c a1 a2 a3 := by
  unfold STw9
  intro wx Bd Bn B5 u0 u1 u6 u7 u8 u9 u10 u11 u12 u13 u14 u15 u16 u17 u18 u19 u20 u21 u22 u23 u24 u25 u26 u27 u28 u29 u30 u31 u32 u33 u34 u35 u36 u37 u38 u39 u40 u41 u42 u43 u44 u45 u46 u47 u48 u49 u50 u51 u52 u53 u54 u55 u56 u57 u58 u59 u60 u61 u62 u63 u64 u65 u66 u67 u68 u69 u70 u71 u72 u73 u74 u75 u76 u77 u78 u79 u80 u81 u82 u83 u84 u85 u86 u87 u88 u89 u90 u91 u92 u93 u94 u95 u96 u97 u98 u99 u100 u101 u102 u103 u104 u105 u106 u107 u108 u109 u110 u111 u112 u113 u114 u115 u116 u117 u118 u119 u120 u121 u122 u123 u124 u125 u126 u127 u128 u129 u130 u131 u132 u133 u134 u135 u136 u137 u138 u139 u140 u141 u142 u143 u144 u145 u146 u147 u148 u149 u150 u151 u152 u153 u154 u155 u156 u157 u158 u159 u160 u161 u162 u163 u164 u165 u166 u167 u168 u169 u170 u171 u172 u173 u174 u175 u176 u177 u178 u179 u180 u181 u182 u183 hk
  have K0 := Lib.hid hk
  clear hk
  conv => arg 2; whnf
  dsimp only
  go_upto_region 9 with fail
  go_cut [13, 14] (fun s13 s14 wr => ∃ B13 : Nat, s13 = .pointer (some ⟨B13, 0, none⟩) ∧ s14 = .int .i64 4 ∧ Kp w wr [(B13, (.cells #[.int .i64 0, .int .i64 0, .int .i64 0] 23 (0, 0))), (B5, (.cells #[.int .i64 a1, .int .i64 a2, .int .i64 a3] 23 (0, 0))), (Bn, (.cells #[.int .i64 a, .int .i64 b, .int .i64 c] 23 (0, 0))), (Bd, (.cells #[.int .i64 x, .int .i64 y, .int .i64 z] 23 (0, 0)))])
  case first =>
    obtain ⟨n0, n1, n2⟩ := cells3 (K0.out.2 _ (.tail _ (.head _)))
    obtain ⟨d0, d1, d2⟩ := cells3 (K0.out.2 _ (.tail _ (.tail _ (.head _))))
    go_wp2_with (first
      | (go_at_call 21; (with_reducible refine (KR.out _).mono ?_); rintro e w91 ⟨rfl, hb91⟩; have K91 := Lib.hid (K0.out.call hb91)))
    go_meet
    exact ⟨_, rfl, rfl, K91.out.alloc _⟩
  case rest =>
    rename_i hK
    obtain ⟨B13, rfl, rfl, hk⟩ := hcut
    refine hK _ _ ?_
    clear hK
    have K1 := Lib.hid hk
    clear hk K0
    go_wp2_with (first
      | (go_at_call 17; (with_reducible refine (KW.out _ K1.out.below).mono ?_); rintro e w99 ⟨rfl, hb99⟩; have K99 := Lib.hid (K1.out.call hb99)))
    go_ret
    exact ⟨rfl, K99.out.below⟩

set_option maxRecDepth 1000000 in
set_option maxHeartbeats 12800000 in
theorem tw9_right (w : World) (x y z a b c a1 a2 a3 r1 r2 r3 t1 t2 t3 m s p q : Int)
    (hm0 : Hid (m = 0)) (hm : (m == 0) = true) (e1 : (r1 == t1) = true) (e2 : (r2 == t2) = true) (e3 : (r3 == t3) = true)
    (KR : Hid (∀ w1 : World, Calls Tryz.prog 21 #[.agg #[.int .i64 x, .int .i64 y, .int .i64 z], .agg #[.int .i64 a, .int .i64 b, .int .i64 c]] w1 fun e w' => e = .returned (.tuple #[.agg #[.int .i64 r1, .int .i64 r2, .int .i64 r3], .int .i64 0]) ∧ Below w1.heap.size w1 w'))
    (KC : Hid (∀ w1 : World, Calls Tryz.prog 11 #[.agg #[.int .i64 r1, .int .i64 r2, .int .i64 r3]] w1 fun e w' => e = .returned (.int .i64 0) ∧ Below w1.heap.size w1 w'))
    (KP : Hid (∀ w1 : World, Calls Tryz.prog 23 #[.agg #[.int .i64 x, .int .i64 y, .int .i64 z], .agg #[.int .i64 a, .int .i64 b, .int .i64 c]] w1 fun e w' => e = .returned (.int .i64 m) ∧ Below w1.heap.size w1 w'))
    (KT : Hid (∀ w1 : World, Calls Tryz.prog 24 #[.agg #[.int .i64 a1, .int .i64 a2, .int .i64 a3], .int .i64 (-1)] w1 fun e w' => e = .returned (.agg #[.int .i64 t1, .int .i64 t2, .int .i64 t3]) ∧ Below w1.heap.size w1 w'))
    (KE : Hid (∀ w1 : World, Calls Tryz.prog 21 #[.agg #[.int .i64 r1, .int .i64 r2, .int .i64 r3], .agg #[.int .i64 a, .int .i64 b, .int .i64 c]] w1 fun e w' => e = .returned (.tuple #[.agg #[.int .i64 a1, .int .i64 a2, .int .i64 a3], .int .i64 0]) ∧ Below w1.heap.size w1 w'))
    (KF : Hid (∀ w1 : World, Calls Tryz.prog 25 #[.agg #[.int .i64 x, .int .i64 y, .int .i64 z], .agg #[.int .i64 a, .int .i64 b, .int .i64 c]] w1 fun e w' => e = .returned (.tuple #[.int .i64 s, .agg #[.int .i64 p, .int .i64 q], .int .i64 0]) ∧ Below w1.heap.size w1 w'))
    (KG : Hid (∀ w1 : World, Calls Tryz.prog 25 #[.agg #[.int .i64 r1, .int .i64 r2, .int .i64 r3], .agg #[.int .i64 a, .int .i64 b, .int .i64 c]] w1 fun e w' => e = .returned (.tuple #[.int .i64 s, .agg #[.int .i64 p, .int .i64 q], .int .i64 0]) ∧ Below w1.heap.size w1 w'))
    (KW : Hid (∀ w1 : World, Below w.heap.size w w1 → Calls Tryz.prog 17 #[] w1 fun e w' => e = .returned (.bool true) ∧ Below w1.heap.size w1 w'))
    : STw9 w x y z a b c a1 a2 a3 := by
  unfold STw9
  intro wx Bd Bn B5 u0 u1 u6 u7 u8 u9 u10 u11 u12 u13 u14 u15 u16 u17 u18 u19 u20 u21 u22 u23 u24 u25 u26 u27 u28 u29 u30 u31 u32 u33 u34 u35 u36 u37 u38 u39 u40 u41 u42 u43 u44 u45 u46 u47 u48 u49 u50 u51 u52 u53 u54 u55 u56 u57 u58 u59 u60 u61 u62 u63 u64 u65 u66 u67 u68 u69 u70 u71 u72 u73 u74 u75 u76 u77 u78 u79 u80 u81 u82 u83 u84 u85 u86 u87 u88 u89 u90 u91 u92 u93 u94 u95 u96 u97 u98 u99 u100 u101 u102 u103 u104 u105 u106 u107 u108 u109 u110 u111 u112 u113 u114 u115 u116 u117 u118 u119 u120 u121 u122 u123 u124 u125 u126 u127 u128 u129 u130 u131 u132 u133 u134 u135 u136 u137 u138 u139 u140 u141 u142 u143 u144 u145 u146 u147 u148 u149 u150 u151 u152 u153 u154 u155 u156 u157 u158 u159 u160 u161 u162 u163 u164 u165 u166 u167 u168 u169 u170 u171 u172 u173 u174 u175 u176 u177 u178 u179 u180 u181 u182 u183 hk
  have K0 := Lib.hid hk
  clear hk
  conv => arg 2; whnf
  dsimp only
  go_upto_region 9 with fail
  go_cut [13, 14] (fun s13 s14 wr => ∃ B13 : Nat, s13 = .pointer (some ⟨B13, 0, none⟩) ∧ s14 = .int .i64 0 ∧ Kp w wr [(B13, (.cells #[.int .i64 r1, .int .i64 r2, .int .i64 r3] 23 (0, 0))), (B5, (.cells #[.int .i64 a1, .int .i64 a2, .int .i64 a3] 23 (0, 0))), (Bn, (.cells #[.int .i64 a, .int .i64 b, .int .i64 c] 23 (0, 0))), (Bd, (.cells #[.int .i64 x, .int .i64 y, .int .i64 z] 23 (0, 0)))])
  case first =>
    obtain ⟨n0, n1, n2⟩ := cells3 (K0.out.2 _ (.tail _ (.head _)))
    obtain ⟨d0, d1, d2⟩ := cells3 (K0.out.2 _ (.tail _ (.tail _ (.head _))))
    go_wp2_with (first
      | (go_at_call 21; (with_reducible refine (KR.out _).mono ?_); rintro e w91 ⟨rfl, hb91⟩; have K91 := Lib.hid (K0.out.call hb91)))
    go_meet
    exact ⟨_, rfl, rfl, K91.out.alloc _⟩
  case rest =>
    rename_i hK
    obtain ⟨B13, rfl, rfl, hk⟩ := hcut
    refine hK _ _ ?_
    clear hK
    have K1 := Lib.hid hk
    clear hk K0
    obtain ⟨r0, ra, rb⟩ := cells3 (K1.out.2 _ (.head _))
    go_upto_region 14 with (first
      | (go_at_call 11; (with_reducible refine (KC.out _).mono ?_); rintro e w2 ⟨rfl, hb2⟩; have K2 := Lib.hid (K1.out.call hb2)))
    have K3 := Lib.hid K2.out
    clear K1 K2 hb2 r0 ra rb
    go_cut [135] (fun s135 wr => s135 = .bool false ∧ Kp w wr [(B13, (.cells #[.int .i64 r1, .int .i64 r2, .int .i64 r3] 23 (0, 0))), (B5, (.cells #[.int .i64 a1, .int .i64 a2, .int .i64 a3] 23 (0, 0))), (Bn, (.cells #[.int .i64 a, .int .i64 b, .int .i64 c] 23 (0, 0))), (Bd, (.cells #[.int .i64 x, .int .i64 y, .int .i64 z] 23 (0, 0)))])
    case first =>
      apply wp_region_yields 21 (fun w' => Blw w2.heap.size w2 w') [.agg #[.int .i64 x, .int .i64 y, .int .i64 z], .agg #[.int .i64 a, .int .i64 b, .int .i64 c], .int .i64 m, .bool true, .bool true, .agg #[.int .i64 r1, .int .i64 r2, .int .i64 r3], .agg #[.int .i64 a1, .int .i64 a2, .int .i64 a3], .agg #[.int .i64 t1, .int .i64 t2, .int .i64 t3], .bool false, .bool false, .bool false, .agg #[.int .i64 x, .int .i64 y, .int .i64 z], .agg #[.int .i64 a, .int .i64 b, .int .i64 c], .int .i64 m, .bool false, .bool false, undef, undef, undef, undef, .bool false] (by kernel_rfl) (by kernel_rfl) (show Below _ _ _ from (Below.refl _ _).drew)
      case haF =>
        simp [putJs, Act.put, List.range, List.range.loop]
        exact rfl
      case h =>
        have hBe := K3.out.2 _ (.head _)
        have hBh := K3.out.2 _ (.tail _ (.head _))
        have hBk := K3.out.2 _ (.tail _ (.tail _ (.head _)))
        have hBl := K3.out.2 _ (.tail _ (.tail _ (.tail _ (.head _))))
        simp only [List.take_succ_cons, List.take_zero, YieldsL]
        refine ⟨.no rfl ?_, .no rfl ?_, .no rfl ?_, .no rfl ?_, .no rfl ?_, .yes rfl rfl ?_, .yes rfl rfl ?_, .yes rfl rfl ?_, .yes rfl rfl ?_, .no rfl ?_, .no rfl ?_, .yes rfl rfl ?_, .yes rfl rfl ?_, .yes rfl rfl ?_, .yes rfl rfl ?_, .yes rfl rfl ?_, .not rfl rfl, .not rfl rfl, .not rfl rfl, .not rfl rfl, .yes rfl rfl ?_, trivial⟩
        all_goals
          intro w1 hw1
          obtain ⟨e_0, e_1, e_2⟩ := cells3 (((show Below _ _ _ from hw1).block _ (lt_of_blk hBe)).trans hBe)
          obtain ⟨h_0, h_1, h_2⟩ := cells3 (((show Below _ _ _ from hw1).block _ (lt_of_blk hBh)).trans hBh)
          obtain ⟨k_0, k_1, k_2⟩ := cells3 (((show Below _ _ _ from hw1).block _ (lt_of_blk hBk)).trans hBk)
          obtain ⟨l_0, l_1, l_2⟩ := cells3 (((show Below _ _ _ from hw1).block _ (lt_of_blk hBl)).trans hBl)
          unfold Oper.wp
          simp only [execOp]
          go_simp <;> first
            | exact ⟨rfl, hw1⟩
            | exact hm0.out
            | ((with_reducible refine (KP.out _).mono ?_); rintro e w2 ⟨rfl, hb⟩; exact ⟨rfl, below_call hb hw1⟩)
            | ((with_reducible refine (KT.out _).mono ?_); rintro e w2 ⟨rfl, hb⟩; exact ⟨rfl, below_call hb hw1⟩)
      case ht =>
        intro w5 hw5
        have K5 := K3.out.call (show Below _ _ _ from hw5)
        simp only [List.drop_succ_cons, List.drop_zero]
        go_wp2_with fail
        go_meet
        exact ⟨rfl, K5⟩
    case rest =>
      rename_i hK
      obtain ⟨rfl, hk⟩ := hcut
      refine hK _ _ ?_
      clear hK
      have K4 := Lib.hid hk
      clear hk K3
      go_upto_region 16 with fail
      go_cut [15, 16] (fun s15 s16 wr => ∃ B15 : Nat, s15 = .pointer (some ⟨B15, 0, none⟩) ∧ s16 = .int .i64 0 ∧ Kp w wr [(B15, (.cells #[.int .i64 a1, .int .i64 a2, .int .i64 a3] 23 (0, 0))), (B13, (.cells #[.int .i64 r1, .int .i64 r2, .int .i64 r3] 23 (0, 0))), (B5, (.cells #[.int .i64 a1, .int .i64 a2, .int .i64 a3] 23 (0, 0))), (Bn, (.cells #[.int .i64 a, .int .i64 b, .int .i64 c] 23 (0, 0))), (Bd, (.cells #[.int .i64 x, .int .i64 y, .int .i64 z] 23 (0, 0)))])
      case first =>
        obtain ⟨r0, r1, r2⟩ := cells3 (K4.out.2 _ (.head _))
        obtain ⟨n0, n1, n2⟩ := cells3 (K4.out.2 _ (.tail _ (.tail _ (.head _))))
        go_wp2_with (first
          | (go_at_call 21; (with_reducible refine (KE.out _).mono ?_); rintro e w91 ⟨rfl, hb91⟩; have K91 := Lib.hid (K4.out.call hb91)))
        go_meet
        exact ⟨_, rfl, rfl, K91.out.alloc _⟩
      case rest =>
        rename_i hK
        obtain ⟨B15, rfl, rfl, hk⟩ := hcut
        refine hK _ _ ?_
        clear hK
        have K5 := Lib.hid hk
        clear hk K4
        go_upto_region 17 with fail
        go_cut [17, 18, 19] (fun s17 s18 s19 wr => ∃ B18 : Nat, s17 = .int .i64 s ∧ s18 = .pointer (some ⟨B18, 0, none⟩) ∧ s19 = .int .i64 0 ∧ Kp w wr [(B18, (.cells #[.int .i64 p, .int .i64 q] 50 (0, 0))), (B15, (.cells #[.int .i64 a1, .int .i64 a2, .int .i64 a3] 23 (0, 0))), (B13, (.cells #[.int .i64 r1, .int .i64 r2, .int .i64 r3] 23 (0, 0))), (B5, (.cells #[.int .i64 a1, .int .i64 a2, .int .i64 a3] 23 (0, 0))), (Bn, (.cells #[.int .i64 a, .int .i64 b, .int .i64 c] 23 (0, 0))), (Bd, (.cells #[.int .i64 x, .int .i64 y, .int .i64 z] 23 (0, 0)))])
        case first =>
          obtain ⟨n0, n1, n2⟩ := cells3 (K5.out.2 _ (.tail _ (.tail _ (.tail _ (.head _)))))
          obtain ⟨d0, d1, d2⟩ := cells3 (K5.out.2 _ (.tail _ (.tail _ (.tail _ (.tail _ (.head _))))))
          go_wp2_with (first
            | (go_at_call 25; (with_reducible refine (KF.out _).mono ?_); rintro e w91 ⟨rfl, hb91⟩; have K91 := Lib.hid (K5.out.call hb91)))
          go_meet
          exact ⟨_, rfl, rfl, rfl, K91.out.alloc _⟩
        case rest =>
          rename_i hK
          obtain ⟨B18, rfl, rfl, rfl, hk⟩ := hcut
          refine hK _ _ ?_
          clear hK
          have K6 := Lib.hid hk
          clear hk K5
          go_upto_region 18 with fail
          go_cut [20, 21, 22] (fun s20 s21 s22 wr => ∃ B21 : Nat, s20 = .int .i64 s ∧ s21 = .pointer (some ⟨B21, 0, none⟩) ∧ s22 = .int .i64 0 ∧ Kp w wr [(B21, (.cells #[.int .i64 p, .int .i64 q] 50 (0, 0))), (B18, (.cells #[.int .i64 p, .int .i64 q] 50 (0, 0))), (B15, (.cells #[.int .i64 a1, .int .i64 a2, .int .i64 a3] 23 (0, 0))), (B13, (.cells #[.int .i64 r1, .int .i64 r2, .int .i64 r3] 23 (0, 0))), (B5, (.cells #[.int .i64 a1, .int .i64 a2, .int .i64 a3] 23 (0, 0))), (Bn, (.cells #[.int .i64 a, .int .i64 b, .int .i64 c] 23 (0, 0))), (Bd, (.cells #[.int .i64 x, .int .i64 y, .int .i64 z] 23 (0, 0)))])
          case first =>
            obtain ⟨r0, r1, r2⟩ := cells3 (K6.out.2 _ (.tail _ (.tail _ (.head _))))
            obtain ⟨n0, n1, n2⟩ := cells3 (K6.out.2 _ (.tail _ (.tail _ (.tail _ (.tail _ (.head _))))))
            go_wp2_with (first
              | (go_at_call 25; (with_reducible refine (KG.out _).mono ?_); rintro e w91 ⟨rfl, hb91⟩; have K91 := Lib.hid (K6.out.call hb91)))
            go_meet
            exact ⟨_, rfl, rfl, rfl, K91.out.alloc _⟩
          case rest =>
            rename_i hK
            obtain ⟨B21, rfl, rfl, rfl, hk⟩ := hcut
            refine hK _ _ ?_
            clear hK
            have K7 := Lib.hid hk
            clear hk K6
            obtain ⟨q0, q1⟩ := cells2 (K7.out.2 _ (.head _))
            obtain ⟨g0, g1⟩ := cells2 (K7.out.2 _ (.tail _ (.head _)))
            obtain ⟨h0, h1, h2⟩ := cells3 (K7.out.2 _ (.tail _ (.tail _ (.head _))))
            obtain ⟨k0, k1, k2⟩ := cells3 (K7.out.2 _ (.tail _ (.tail _ (.tail _ (.tail _ (.head _))))))
            go_wp2_with (first
              | (go_at_call 17; (with_reducible refine (KW.out _ K7.out.below).mono ?_); rintro e w99 ⟨rfl, hb99⟩; have K99 := Lib.hid (K7.out.call hb99)))
            go_ret
            exact ⟨rfl, K99.out.below⟩

set_option maxRecDepth 1000000 in
set_option maxHeartbeats 12800000 in
theorem tw9_other (w : World) (x y z a b c a1 a2 a3 r1 r2 r3 t1 t2 t3 m s p q : Int)
    (hm0 : Hid (¬ m = 0)) (hm : (m == 0) = false) (v1 v2 v3 : Bool) (e1 : (r1 == t1) = v1) (e2 : (r2 == t2) = v2) (e3 : (r3 == t3) = v3) (hv : (v1 && (v2 && v3)) = false)
    (KR : Hid (∀ w1 : World, Calls Tryz.prog 21 #[.agg #[.int .i64 x, .int .i64 y, .int .i64 z], .agg #[.int .i64 a, .int .i64 b, .int .i64 c]] w1 fun e w' => e = .returned (.tuple #[.agg #[.int .i64 r1, .int .i64 r2, .int .i64 r3], .int .i64 0]) ∧ Below w1.heap.size w1 w'))
    (KC : Hid (∀ w1 : World, Calls Tryz.prog 11 #[.agg #[.int .i64 r1, .int .i64 r2, .int .i64 r3]] w1 fun e w' => e = .returned (.int .i64 0) ∧ Below w1.heap.size w1 w'))
    (KP : Hid (∀ w1 : World, Calls Tryz.prog 23 #[.agg #[.int .i64 x, .int .i64 y, .int .i64 z], .agg #[.int .i64 a, .int .i64 b, .int .i64 c]] w1 fun e w' => e = .returned (.int .i64 m) ∧ Below w1.heap.size w1 w'))
    (KT : Hid (∀ w1 : World, Calls Tryz.prog 24 #[.agg #[.int .i64 a1, .int .i64 a2, .int .i64 a3], .int .i64 (-1)] w1 fun e w' => e = .returned (.agg #[.int .i64 t1, .int .i64 t2, .int .i64 t3]) ∧ Below w1.heap.size w1 w'))
    (KE : Hid (∀ w1 : World, Calls Tryz.prog 21 #[.agg #[.int .i64 r1, .int .i64 r2, .int .i64 r3], .agg #[.int .i64 a, .int .i64 b, .int .i64 c]] w1 fun e w' => e = .returned (.tuple #[.agg #[.int .i64 a1, .int .i64 a2, .int .i64 a3], .int .i64 0]) ∧ Below w1.heap.size w1 w'))
    (KF : Hid (∀ w1 : World, Calls Tryz.prog 25 #[.agg #[.int .i64 x, .int .i64 y, .int .i64 z], .agg #[.int .i64 a, .int .i64 b, .int .i64 c]] w1 fun e w' => e = .returned (.tuple #[.int .i64 s, .agg #[.int .i64 p, .int .i64 q], .int .i64 0]) ∧ Below w1.heap.size w1 w'))
    (KG : Hid (∀ w1 : World, Calls Tryz.prog 25 #[.agg #[.int .i64 r1, .int .i64 r2, .int .i64 r3], .agg #[.int .i64 a, .int .i64 b, .int .i64 c]] w1 fun e w' => e = .returned (.tuple #[.int .i64 s, .agg #[.int .i64 p, .int .i64 q], .int .i64 0]) ∧ Below w1.heap.size w1 w'))
    (KW : Hid (∀ w1 : World, Below w.heap.size w w1 → Calls Tryz.prog 17 #[] w1 fun e w' => e = .returned (.bool true) ∧ Below w1.heap.size w1 w'))
    : STw9 w x y z a b c a1 a2 a3 := by
  unfold STw9
  intro wx Bd Bn B5 u0 u1 u6 u7 u8 u9 u10 u11 u12 u13 u14 u15 u16 u17 u18 u19 u20 u21 u22 u23 u24 u25 u26 u27 u28 u29 u30 u31 u32 u33 u34 u35 u36 u37 u38 u39 u40 u41 u42 u43 u44 u45 u46 u47 u48 u49 u50 u51 u52 u53 u54 u55 u56 u57 u58 u59 u60 u61 u62 u63 u64 u65 u66 u67 u68 u69 u70 u71 u72 u73 u74 u75 u76 u77 u78 u79 u80 u81 u82 u83 u84 u85 u86 u87 u88 u89 u90 u91 u92 u93 u94 u95 u96 u97 u98 u99 u100 u101 u102 u103 u104 u105 u106 u107 u108 u109 u110 u111 u112 u113 u114 u115 u116 u117 u118 u119 u120 u121 u122 u123 u124 u125 u126 u127 u128 u129 u130 u131 u132 u133 u134 u135 u136 u137 u138 u139 u140 u141 u142 u143 u144 u145 u146 u147 u148 u149 u150 u151 u152 u153 u154 u155 u156 u157 u158 u159 u160 u161 u162 u163 u164 u165 u166 u167 u168 u169 u170 u171 u172 u173 u174 u175 u176 u177 u178 u179 u180 u181 u182 u183 hk
  have K0 := Lib.hid hk
  clear hk
  conv => arg 2; whnf
  dsimp only
  go_upto_region 9 with fail
  go_cut [13, 14] (fun s13 s14 wr => ∃ B13 : Nat, s13 = .pointer (some ⟨B13, 0, none⟩) ∧ s14 = .int .i64 0 ∧ Kp w wr [(B13, (.cells #[.int .i64 r1, .int .i64 r2, .int .i64 r3] 23 (0, 0))), (B5, (.cells #[.int .i64 a1, .int .i64 a2, .int .i64 a3] 23 (0, 0))), (Bn, (.cells #[.int .i64 a, .int .i64 b, .int .i64 c] 23 (0, 0))), (Bd, (.cells #[.int .i64 x, .int .i64 y, .int .i64 z] 23 (0, 0)))])
  case first =>
    obtain ⟨n0, n1, n2⟩ := cells3 (K0.out.2 _ (.tail _ (.head _)))
    obtain ⟨d0, d1, d2⟩ := cells3 (K0.out.2 _ (.tail _ (.tail _ (.head _))))
    go_wp2_with (first
      | (go_at_call 21; (with_reducible refine (KR.out _).mono ?_); rintro e w91 ⟨rfl, hb91⟩; have K91 := Lib.hid (K0.out.call hb91)))
    go_meet
    exact ⟨_, rfl, rfl, K91.out.alloc _⟩
  case rest =>
    rename_i hK
    obtain ⟨B13, rfl, rfl, hk⟩ := hcut
    refine hK _ _ ?_
    clear hK
    have K1 := Lib.hid hk
    clear hk K0
    obtain ⟨r0, ra, rb⟩ := cells3 (K1.out.2 _ (.head _))
    go_upto_region 14 with (first
      | (go_at_call 11; (with_reducible refine (KC.out _).mono ?_); rintro e w2 ⟨rfl, hb2⟩; have K2 := Lib.hid (K1.out.call hb2)))
    have K3 := Lib.hid K2.out
    clear K1 K2 hb2 r0 ra rb
    go_cut [135] (fun s135 wr => s135 = .bool false ∧ Kp w wr [(B13, (.cells #[.int .i64 r1, .int .i64 r2, .int .i64 r3] 23 (0, 0))), (B5, (.cells #[.int .i64 a1, .int .i64 a2, .int .i64 a3] 23 (0, 0))), (Bn, (.cells #[.int .i64 a, .int .i64 b, .int .i64 c] 23 (0, 0))), (Bd, (.cells #[.int .i64 x, .int .i64 y, .int .i64 z] 23 (0, 0)))])
    case first =>
      apply wp_region_yields 21 (fun w' => Blw w2.heap.size w2 w') [.agg #[.int .i64 x, .int .i64 y, .int .i64 z], .agg #[.int .i64 a, .int .i64 b, .int .i64 c], .int .i64 m, .bool false, .bool false, undef, undef, undef, undef, .bool false, .bool false, .agg #[.int .i64 x, .int .i64 y, .int .i64 z], .agg #[.int .i64 a, .int .i64 b, .int .i64 c], .int .i64 m, .bool true, .bool true, .agg #[.int .i64 r1, .int .i64 r2, .int .i64 r3], .agg #[.int .i64 a1, .int .i64 a2, .int .i64 a3], .agg #[.int .i64 t1, .int .i64 t2, .int .i64 t3], .bool false, .bool false] (by kernel_rfl) (by kernel_rfl) (show Below _ _ _ from (Below.refl _ _).drew)
      case haF =>
        simp [putJs, Act.put, List.range, List.range.loop]
        exact rfl
      case h =>
        have hBe := K3.out.2 _ (.head _)
        have hBh := K3.out.2 _ (.tail _ (.head _))
        have hBk := K3.out.2 _ (.tail _ (.tail _ (.head _)))
        have hBl := K3.out.2 _ (.tail _ (.tail _ (.tail _ (.head _))))
        simp only [List.take_succ_cons, List.take_zero, YieldsL]
        refine ⟨.no rfl ?_, .no rfl ?_, .no rfl ?_, .no rfl ?_, .no rfl ?_, .not rfl rfl, .not rfl rfl, .not rfl rfl, .not rfl rfl, .no rfl ?_, .no rfl ?_, .yes rfl rfl ?_, .yes rfl rfl ?_, .yes rfl rfl ?_, .yes rfl rfl ?_, .yes rfl rfl ?_, .yes rfl rfl ?_, .yes rfl rfl ?_, .yes rfl rfl ?_, .yes rfl rfl ?_, .yes rfl rfl ?_, trivial⟩
        all_goals
          intro w1 hw1
          obtain ⟨e_0, e_1, e_2⟩ := cells3 (((show Below _ _ _ from hw1).block _ (lt_of_blk hBe)).trans hBe)
          obtain ⟨h_0, h_1, h_2⟩ := cells3 (((show Below _ _ _ from hw1).block _ (lt_of_blk hBh)).trans hBh)
          obtain ⟨k_0, k_1, k_2⟩ := cells3 (((show Below _ _ _ from hw1).block _ (lt_of_blk hBk)).trans hBk)
          obtain ⟨l_0, l_1, l_2⟩ := cells3 (((show Below _ _ _ from hw1).block _ (lt_of_blk hBl)).trans hBl)
          unfold Oper.wp
          simp only [execOp]
          go_simp <;> first
            | exact ⟨rfl, hw1⟩
            | exact hm0.out
            | (cases v1 <;> cases v2 <;> cases v3 <;> first | (exact absurd hv (by decide)) | (go_simp; exact ⟨rfl, hw1⟩) | (go_simp; done))
            | ((with_reducible refine (KP.out _).mono ?_); rintro e w2 ⟨rfl, hb⟩; exact ⟨rfl, below_call hb hw1⟩)
            | ((with_reducible refine (KT.out _).mono ?_); rintro e w2 ⟨rfl, hb⟩; exact ⟨rfl, below_call hb hw1⟩)
      case ht =>
        intro w5 hw5
        have K5 := K3.out.call (show Below _ _ _ from hw5)
        simp only [List.drop_succ_cons, List.drop_zero]
        go_wp2_with fail
        go_meet
        exact ⟨rfl, K5⟩
    case rest =>
      rename_i hK
      obtain ⟨rfl, hk⟩ := hcut
      refine hK _ _ ?_
      clear hK
      have K4 := Lib.hid hk
      clear hk K3
      go_upto_region 16 with fail
      go_cut [15, 16] (fun s15 s16 wr => ∃ B15 : Nat, s15 = .pointer (some ⟨B15, 0, none⟩) ∧ s16 = .int .i64 0 ∧ Kp w wr [(B15, (.cells #[.int .i64 a1, .int .i64 a2, .int .i64 a3] 23 (0, 0))), (B13, (.cells #[.int .i64 r1, .int .i64 r2, .int .i64 r3] 23 (0, 0))), (B5, (.cells #[.int .i64 a1, .int .i64 a2, .int .i64 a3] 23 (0, 0))), (Bn, (.cells #[.int .i64 a, .int .i64 b, .int .i64 c] 23 (0, 0))), (Bd, (.cells #[.int .i64 x, .int .i64 y, .int .i64 z] 23 (0, 0)))])
      case first =>
        obtain ⟨r0, r1, r2⟩ := cells3 (K4.out.2 _ (.head _))
        obtain ⟨n0, n1, n2⟩ := cells3 (K4.out.2 _ (.tail _ (.tail _ (.head _))))
        go_wp2_with (first
          | (go_at_call 21; (with_reducible refine (KE.out _).mono ?_); rintro e w91 ⟨rfl, hb91⟩; have K91 := Lib.hid (K4.out.call hb91)))
        go_meet
        exact ⟨_, rfl, rfl, K91.out.alloc _⟩
      case rest =>
        rename_i hK
        obtain ⟨B15, rfl, rfl, hk⟩ := hcut
        refine hK _ _ ?_
        clear hK
        have K5 := Lib.hid hk
        clear hk K4
        go_upto_region 17 with fail
        go_cut [17, 18, 19] (fun s17 s18 s19 wr => ∃ B18 : Nat, s17 = .int .i64 s ∧ s18 = .pointer (some ⟨B18, 0, none⟩) ∧ s19 = .int .i64 0 ∧ Kp w wr [(B18, (.cells #[.int .i64 p, .int .i64 q] 50 (0, 0))), (B15, (.cells #[.int .i64 a1, .int .i64 a2, .int .i64 a3] 23 (0, 0))), (B13, (.cells #[.int .i64 r1, .int .i64 r2, .int .i64 r3] 23 (0, 0))), (B5, (.cells #[.int .i64 a1, .int .i64 a2, .int .i64 a3] 23 (0, 0))), (Bn, (.cells #[.int .i64 a, .int .i64 b, .int .i64 c] 23 (0, 0))), (Bd, (.cells #[.int .i64 x, .int .i64 y, .int .i64 z] 23 (0, 0)))])
        case first =>
          obtain ⟨n0, n1, n2⟩ := cells3 (K5.out.2 _ (.tail _ (.tail _ (.tail _ (.head _)))))
          obtain ⟨d0, d1, d2⟩ := cells3 (K5.out.2 _ (.tail _ (.tail _ (.tail _ (.tail _ (.head _))))))
          go_wp2_with (first
            | (go_at_call 25; (with_reducible refine (KF.out _).mono ?_); rintro e w91 ⟨rfl, hb91⟩; have K91 := Lib.hid (K5.out.call hb91)))
          go_meet
          exact ⟨_, rfl, rfl, rfl, K91.out.alloc _⟩
        case rest =>
          rename_i hK
          obtain ⟨B18, rfl, rfl, rfl, hk⟩ := hcut
          refine hK _ _ ?_
          clear hK
          have K6 := Lib.hid hk
          clear hk K5
          go_upto_region 18 with fail
          go_cut [20, 21, 22] (fun s20 s21 s22 wr => ∃ B21 : Nat, s20 = .int .i64 s ∧ s21 = .pointer (some ⟨B21, 0, none⟩) ∧ s22 = .int .i64 0 ∧ Kp w wr [(B21, (.cells #[.int .i64 p, .int .i64 q] 50 (0, 0))), (B18, (.cells #[.int .i64 p, .int .i64 q] 50 (0, 0))), (B15, (.cells #[.int .i64 a1, .int .i64 a2, .int .i64 a3] 23 (0, 0))), (B13, (.cells #[.int .i64 r1, .int .i64 r2, .int .i64 r3] 23 (0, 0))), (B5, (.cells #[.int .i64 a1, .int .i64 a2, .int .i64 a3] 23 (0, 0))), (Bn, (.cells #[.int .i64 a, .int .i64 b, .int .i64 c] 23 (0, 0))), (Bd, (.cells #[.int .i64 x, .int .i64 y, .int .i64 z] 23 (0, 0)))])
          case first =>
            obtain ⟨r0, r1, r2⟩ := cells3 (K6.out.2 _ (.tail _ (.tail _ (.head _))))
            obtain ⟨n0, n1, n2⟩ := cells3 (K6.out.2 _ (.tail _ (.tail _ (.tail _ (.tail _ (.head _))))))
            go_wp2_with (first
              | (go_at_call 25; (with_reducible refine (KG.out _).mono ?_); rintro e w91 ⟨rfl, hb91⟩; have K91 := Lib.hid (K6.out.call hb91)))
            go_meet
            exact ⟨_, rfl, rfl, rfl, K91.out.alloc _⟩
          case rest =>
            rename_i hK
            obtain ⟨B21, rfl, rfl, rfl, hk⟩ := hcut
            refine hK _ _ ?_
            clear hK
            have K7 := Lib.hid hk
            clear hk K6
            obtain ⟨q0, q1⟩ := cells2 (K7.out.2 _ (.head _))
            obtain ⟨g0, g1⟩ := cells2 (K7.out.2 _ (.tail _ (.head _)))
            obtain ⟨h0, h1, h2⟩ := cells3 (K7.out.2 _ (.tail _ (.tail _ (.head _))))
            obtain ⟨k0, k1, k2⟩ := cells3 (K7.out.2 _ (.tail _ (.tail _ (.tail _ (.tail _ (.head _))))))
            go_wp2_with (first
              | (go_at_call 17; (with_reducible refine (KW.out _ K7.out.below).mono ?_); rintro e w99 ⟨rfl, hb99⟩; have K99 := Lib.hid (K7.out.call hb99)))
            go_ret
            exact ⟨rfl, K99.out.below⟩

end Go.Proofs.YtpflbkgmgfhhnaaGreatDoor

/-
  What the rows of chapter 2 share: arguments that come in, opened; the tables that the program reads; a world for the witness.
-/
namespace Go.Proofs.YtpflbkgmgfhhnaaGreatDoor
open Go.ChangeShapes Go.WideShapes Go.ChangeAt Go.RowKit Go.Joins Go.Deep
set_option linter.unusedVariables false
set_option linter.unusedSimpArgs false
set_option maxRecDepth 100000

theorem ownKnobOff : ownKnob Tryz.prog.godebug = none := by kernel_rfl
theorem laidOut : laidOutB Tryz.prog = true := by kernel_rfl
theorem cellsVec : Tryz.prog.cellsOf 23 = 3 := by kernel_rfl

/-- A vector that comes in, opened. -/
theorem openVec {H : Type} {enc : TypeId × Value → H} {W : World} {b0 : Nat} {v : Value} {d : DataW H} {p : List MemPlace}
    (hv : Value.okWide Tryz.prog W .any b0 23 v) (h : DataW.Trod enc Tryz.prog W 0 (fun _ => true) true 23 v d p) :
    ∃ (x y z : Int), v = .agg #[.int .i64 x, .int .i64 y, .int .i64 z] := by
  obtain ⟨c0, c1, c2, y0, y1, y2, k, rfl, rfl, rfl, h0, h1, h2⟩ := open_agg3 Tryz.underlying23 (by kernel_rfl) cellsVec hv h
  obtain ⟨X, e0, rfl, wX⟩ := DataW.trod_int Tryz.underlying3 h0
  obtain ⟨Y, e1, rfl, wY⟩ := DataW.trod_int Tryz.underlying3 h1
  obtain ⟨Z, e2, rfl, wZ⟩ := DataW.trod_int Tryz.underlying3 h2
  simp at e0 e1 e2
  subst e0 e1 e2
  exact ⟨X, Y, Z, rfl⟩

theorem gTab : Tryz.prog.globalNamed "internal/strconv.uint64pow10" = some 2 := by kernel_rfl
theorem gTabType : (Tryz.prog.globals[2]?).map (·.type) = some 186 := by kernel_rfl
theorem cellsTab : Tryz.prog.cellsOf 186 = 20 := by kernel_rfl
theorem cellsU : Tryz.prog.cellsOf 180 = 1 := by kernel_rfl
theorem gAxes : Tryz.prog.globalNamed "spillage/sun.axes" = some 0 := by kernel_rfl
theorem gAxesType : (Tryz.prog.globals[0]?).map (·.type) = some 122 := by kernel_rfl
theorem cellsAxes : Tryz.prog.cellsOf 122 = 9 := by kernel_rfl
theorem cellsParts : Tryz.prog.cellsOf 73 = 3 := by kernel_rfl
theorem cellsInt1 : Tryz.prog.cellsOf 3 = 1 := by kernel_rfl
def laidSun : List (String × DataW Unit) := Rows.sunTwiceRow.laid
theorem tabAt_of {W : World} (h : laidMetH Tryz.prog laidSun W) : TabAt W := by
  have h2 := h.filter (fun x => x.1 == "internal/strconv.uint64pow10")
  have e : laidSun.filter (fun x => x.1 == "internal/strconv.uint64pow10") = [("internal/strconv.uint64pow10", Lib.tabData .u64 Lib.pow10Tab)] := by kernel_rfl
  rw [e] at h2
  exact Lib.tabIs_of_head (rest := []) gTab gTabType Tryz.underlying186 Tryz.underlying180 cellsU cellsTab h2

def litI {H : Type} (z : Int) : DataW H := .lit (.int .i64 z)
theorem axesIn_of {W : World} (h0 : laidMetH Tryz.prog laidSun W) : AxesIn W := by
  have h2 := h0.filter (fun x => x.1 == "spillage/sun.axes")
  have e : laidSun.filter (fun x => x.1 == "spillage/sun.axes") = [("spillage/sun.axes", .agg [.agg [litI 1, litI 0, litI 0], .agg [litI 0, litI 1, litI 0], .agg [litI 0, litI 0, litI 1]])] := by kernel_rfl
  rw [e] at h2
  obtain ⟨ps, ⟨g', t', cs, fuel, p, q, hg', ht', hvar, hd, _, _⟩, _⟩ := h2
  obtain rfl := Option.some.inj (gAxes.symm.trans hg')
  obtain rfl := Option.some.inj (gAxesType.symm.trans ht')
  obtain ⟨xs, m, _, hx, hlen, hl, hi⟩ := DataW.trod_array Tryz.underlying122 hd
  rw [cellsAxes] at hlen
  rw [cellsParts] at hi
  have hx1 := congrArg Prod.fst hx
  have key : ∀ (i : Nat) (a b c : Int), i < 3 → (xs.map (·.1))[i]? = some (.agg [litI a, litI b, litI c]) → cs[i * 3]? = some (.int .i64 a) ∧ cs[i * 3 + 1]? = some (.int .i64 b) ∧ cs[i * 3 + 2]? = some (.int .i64 c) := by
    intro i a b c hlt hc
    have h := hi i hlt
    obtain ⟨y, hy⟩ : ∃ y, xs[i]? = some y := ⟨_, List.getElem?_eq_getElem (by omega)⟩
    rw [hy] at h
    rw [List.getElem?_map, hy] at hc
    have hy1 : y.1 = .agg [litI a, litI b, litI c] := by simpa using hc
    obtain ⟨ys, k, _, ey, _, hl2, hj⟩ := DataW.trod_array Tryz.underlying73 h
    rw [cellsInt1] at hj
    obtain ⟨y0, y1, y2, rfl⟩ : ∃ y0 y1 y2, ys = [y0, y1, y2] := by
      match ys, hl2 with
      | [y0, y1, y2], _ => exact ⟨y0, y1, y2, rfl⟩
    have k0 := hj 0 (by omega)
    have k1 := hj 1 (by omega)
    have k2 := hj 2 (by omega)
    simp only [List.getElem?_cons_zero, List.getElem?_cons_succ] at k0 k1 k2
    obtain ⟨A, e0, f0, _⟩ := DataW.trod_int Tryz.underlying3 k0
    obtain ⟨B, e2, f1, _⟩ := DataW.trod_int Tryz.underlying3 k1
    obtain ⟨C, e3, f2, _⟩ := DataW.trod_int Tryz.underlying3 k2
    subst ey f0 f1 f2
    simp only [litI, DataW.agg.injEq, List.cons.injEq, DataW.lit.injEq, Lit.int.injEq, true_and, and_true] at hy1
    obtain ⟨rfl, rfl, rfl⟩ := hy1
    have g0 := congrArg (·[0]?) e0
    have g1 := congrArg (·[0]?) e2
    have g2 := congrArg (·[0]?) e3
    simp [List.getElem?_take, List.getElem?_drop] at g0 g1 g2
    refine ⟨?_, ?_, ?_⟩
    · simpa using g0
    · simpa using g1
    · simpa using g2
  have hx2 : xs.map (·.1) = [.agg [litI 1, litI 0, litI 0], .agg [litI 0, litI 1, litI 0], .agg [litI 0, litI 0, litI 1]] := by
    simpa using hx1.symm
  obtain ⟨a0, a1, a2⟩ := key 0 1 0 0 (by omega) (by rw [hx2]; rfl)
  obtain ⟨b0, b1, b2⟩ := key 1 0 1 0 (by omega) (by rw [hx2]; rfl)
  obtain ⟨c0, c1, c2⟩ := key 2 0 0 1 (by omega) (by rw [hx2]; rfl)
  have hc : ∀ k, k < 9 → W.cell? ⟨0, k, none⟩ = some (.int .i64 (([1, 0, 0, 0, 1, 0, 0, 0, 1] : List Int)[k]?.getD 0)) := by
    intro k hk
    rw [World.var?_cell gAxes hvar k]
    match k, hk with
    | 0, _ => simpa using a0
    | 1, _ => simpa using a1
    | 2, _ => simpa using a2
    | 3, _ => simpa using b0
    | 4, _ => simpa using b1
    | 5, _ => simpa using b2
    | 6, _ => simpa using c0
    | 7, _ => simpa using c1
    | 8, _ => simpa using c2
  exact ⟨hc, World.block_lt_of_cell? _ _ (hc 0 (by omega))⟩

/-- A world for the witness: the settled one, the listed variables holding what the list says. -/
noncomputable def laidWorld (os : Os) : World := World.laidAll Tryz.prog os laidSun
theorem laid_met (os : Os) (args : Array Value) : laidMet Tryz.prog laidSun ((laidWorld os).forCall (fun _ _ => 0) ⟨#[], args, []⟩).memory :=
  laidMet_laidAll args (by kernel_rfl) (by kernel_rfl)
end Go.Proofs.YtpflbkgmgfhhnaaGreatDoor

/-
  Closed facts of the program alone, which every card asks: each one by itself, as the kernel's memory wants.
-/
namespace Go.Proofs.YtpflbkgmgfhhnaaGreatDoor
open Go.ChangeShapes Go.WideShapes Go.ChangeAt Go.RowKit Go.Joins Go.Deep
set_option linter.unusedVariables false

theorem band {a b : Bool} (ha : a = true) (hb : b = true) : (a && b) = true := by rw [ha, hb]; rfl
theorem pLaid : laidOutB Tryz.pinned.checked.prog = true := by kernel_rfl
theorem pMaps : mapsRowed Tryz.pinned.checked.prog = true := by kernel_rfl
theorem pStops : (Tryz.pinned.checked.prog.stops == []) = true := by kernel_rfl
theorem pKnobs : (Tryz.pinned.checked.prog.stopKnobs == []) = true := by kernel_rfl
theorem pMake : (Tryz.pinned.checked.prog.make == some Rows.sunTwiceRow.make) = true := by kernel_rfl
end Go.Proofs.YtpflbkgmgfhhnaaGreatDoor

/-
  More closed facts of the program alone.
-/
namespace Go.Proofs.YtpflbkgmgfhhnaaGreatDoor
open Go.ChangeShapes Go.WideShapes Go.ChangeAt Go.RowKit Go.Joins Go.Deep
set_option linter.unusedVariables false

theorem pKeys : (Rows.sunTwiceRow.plainKeys == Tryz.pinned.checked.prog.plainKeys) = true := by kernel_rfl
theorem pHeard : Tryz.pinned.checked.prog.stopsHeard = true := by kernel_rfl
theorem pEnter : Tryz.pinned.checked.prog.mayEnter = true := by kernel_rfl
theorem pLifted : (Rows.sunTwiceRow.lifted == Tryz.pinned.checked.prog.liftsFinal) = true := by kernel_rfl
end Go.Proofs.YtpflbkgmgfhhnaaGreatDoor
