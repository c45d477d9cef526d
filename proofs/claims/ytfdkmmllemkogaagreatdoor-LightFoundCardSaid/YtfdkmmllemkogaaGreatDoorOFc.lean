/-
  Contracts of the greatest common divisor and of the checks of a ratio, of the program and of the reference.
-/
import Derived.Test.YtfdkmmllemkogaaGreatDoorOWa
import Derived.Deep.CutBlock
import Derived.Deep.DeepCutAuto
import Derived.Deep.RegionHeld3
import Derived.StillTailTactics
import Derived.LoopTactic
import Derived.Test.YtfdkmmllemkogaaGreatDoorOWf
import Derived.Laws.StructEq
import Derived.Test.YtfdkmmllemkogaaGreatDoorOWv
namespace Go.Proofs.YtfdkmmllemkogaaGreatDoor
open Go.RowKit
set_option linter.unusedVariables false
set_option linter.unusedSimpArgs false

theorem gcd_step (a b : Int) : Int.gcd b (a.tmod b) = Int.gcd a b := by
  show Nat.gcd b.natAbs (a.tmod b).natAbs = Nat.gcd a.natAbs b.natAbs
  rw [Int.natAbs_tmod, Nat.gcd_comm b.natAbs, ← Nat.gcd_rec, Nat.gcd_comm]
theorem tmod_small (a b : Int) (hb : b ≠ 0) : (a.tmod b).natAbs < b.natAbs := by
  rw [Int.natAbs_tmod]
  exact Nat.mod_lt _ (Int.natAbs_pos.2 hb)
theorem gcd_zero (a : Int) : (Int.gcd a 0 : Int) = max a (-a) := by
  have e : Int.gcd a 0 = a.natAbs := Nat.gcd_zero_right _
  rw [e]; omega

set_option maxHeartbeats 1600000 in
/-- The greatest common divisor; of 0 and 0 it is 0. -/
theorem divisor_any (a b : Int) (ha : -4611686018427387904 ≤ a ∧ a ≤ 4611686018427387904) (hb : -4611686018427387904 ≤ b ∧ b ≤ 4611686018427387904) (w : World) :
    Calls Tryz.prog 115 #[.int .i64 a, .int .i64 b] w fun e w' => e = .returned (.int .i64 (Int.gcd a b)) ∧ Below w.heap.size w w' := by
  go_enter Tryz.func115, Tryz.ntmps115
  go_wp2
  go_loopw [0, 1] (fun x y wr => ∃ a' b' : Int, x = .int .i64 a' ∧ y = .int .i64 b' ∧ (-4611686018427387904 ≤ a' ∧ a' ≤ 4611686018427387904) ∧ (-4611686018427387904 ≤ b' ∧ b' ≤ 4611686018427387904) ∧ Hid (Int.gcd a' b' = Int.gcd a b) ∧ Below w.heap.size w wr) (fun _ y _ => (intOf y).natAbs)
  case atStart => exact ⟨a, b, rfl, rfl, ha, hb, Lib.hid rfl, Below.refl _ _⟩
  case round =>
    obtain ⟨a', b', rfl, rfl, ha', hb', hg, hnx⟩ := hrel
    clear ha hb
    by_cases h0 : b' = 0
    · have HB := Lib.hid hnx
      have HG : Hid ((Int.gcd a b : Int) = max a' (-a')) := Lib.hid (by rw [← hg.out, h0, gcd_zero])
      subst h0
      have w1 : IntKind.i64.wrap (-a') = -a' := IntWalk.i64_in _ ⟨by omega, by omega⟩
      clear hnx hg
      go_wp2
      all_goals
        go_ret
        exact ⟨ret_int (by have := HG.out; omega), HB.out⟩
    · have e0 : (b' != 0) = true := by simp [h0]
      have hn := tmod_small a' b' h0
      have hb2 : -4611686018427387904 ≤ a'.tmod b' ∧ a'.tmod b' ≤ 4611686018427387904 := by omega
      have w1 : IntKind.i64.wrap (a'.tmod b') = a'.tmod b' := IntWalk.i64_in _ ⟨by omega, by omega⟩
      have hg2 := Lib.hid ((gcd_step a' b').trans hg.out)
      have HB := Lib.hid hnx
      clear hnx hg
      go_wp2_with fail
      go_quiet (fail)
      go_wp2
      go_roundw
      case rel => exact ⟨b', a'.tmod b', rfl, rfl, hb', hb2, hg2, below_drewN HB.out _⟩
      case measure => exact hn

set_option maxHeartbeats 1600000 in
theorem refDivisor_any (a b : Int) (ha : -4611686018427387904 ≤ a ∧ a ≤ 4611686018427387904) (hb : -4611686018427387904 ≤ b ∧ b ≤ 4611686018427387904) (h1 : 1 ≤ b) (w : World) :
    Calls Tryz.prog 116 #[.int .i64 a, .int .i64 b] w fun e w' => e = .returned (.int .i64 (Int.gcd a b)) ∧ w = w' := by
  have hz : Int.gcd a b ≠ 0 := fun h => by rw [Int.gcd_eq_zero_iff] at h; omega
  have HZ : Hid ((Int.gcd a b : Int) ≠ 0) := Lib.hid (by omega)
  clear hz
  obtain ⟨a1, ha1, hab, hg1⟩ : ∃ a1 : Int, (0 ≤ a1 ∧ a1 ≤ 4611686018427387904) ∧ (a1 = a ∨ (a < 0 ∧ a1 = 0 - a)) ∧ Int.gcd a1 b = Int.gcd a b := by
    by_cases h : a < 0
    · exact ⟨0 - a, by omega, .inr ⟨h, rfl⟩, by rw [Int.zero_sub]; exact Int.neg_gcd⟩
    · exact ⟨a, by omega, .inl rfl, rfl⟩
  have HG1 := Lib.hid hg1
  have HAB := Lib.hid hab
  have hbb : ¬ (b < 0) := by omega
  clear hg1 hab
  go_enter Tryz.func116, Tryz.ntmps116
  go_upto_if 7 with fail
  go_cut [0] (fun s0 wr => s0 = .int .i64 a1 ∧ w = wr)
  case first =>
    by_cases h : a < 0
    · have e : (0 : Int) - a = a1 := by have := HAB.out; omega
      go_wp2_with fail
      go_meet
      exact ⟨by rw [← e], rfl⟩
    · have e : a1 = a := by have := HAB.out; omega
      go_wp2_with fail
      go_meet
      exact ⟨by rw [e], rfl⟩
  case rest =>
    obtain ⟨rfl, rfl⟩ := hcut
    clear ha HAB
    go_wp2_with fail
    go_loop [0, 1] (fun x y => ∃ a' b' : Int, x = .int .i64 a' ∧ y = .int .i64 b' ∧ (0 ≤ a' ∧ a' ≤ 4611686018427387904) ∧ (0 ≤ b' ∧ b' ≤ 4611686018427387904) ∧ Hid (Int.gcd a' b' = Int.gcd a b)) (fun _ y => (intOf y).natAbs)
    case atStart => exact ⟨a1, b, rfl, rfl, ha1, by omega, HG1⟩
    case round =>
      obtain ⟨a', b', rfl, rfl, ha', hb', hg⟩ := hrel
      clear hb h1 hbb ha1
      by_cases h0 : b' = 0
      · have HG : Hid ((Int.gcd a b : Int) = a') := Lib.hid (by rw [← hg.out, h0, gcd_zero]; omega)
        have e0 : (a' == 0) = false := by have := HZ.out; have := HG.out; simp; omega
        subst h0
        clear hg
        go_wp2
        go_ret
        exact ⟨ret_int HG.out.symm, rfl⟩
      · have e0 : (b' != 0) = true := by simp [h0]
        have em : a'.tmod b' = a' % b' := Int.tmod_eq_emod_of_nonneg ha'.1
        have hn := tmod_small a' b' h0
        have hb2 : 0 ≤ a' % b' ∧ a' % b' ≤ 4611686018427387904 := by
          have := Int.emod_nonneg a' h0
          rw [em] at hn
          omega
        have hg2 := Lib.hid ((gcd_step a' b').trans hg.out)
        rw [em] at hg2 hn
        clear hg em
        go_wp2
        go_round
        case rel => exact ⟨b', a' % b', rfl, rfl, hb', hb2, hg2⟩
        case measure => exact hn
end Go.Proofs.YtfdkmmllemkogaaGreatDoor

/-
  Contracts of the checks of a ratio, of a vector and of a direction, of the program and of the reference: both answer the same, for all integers.
-/
namespace Go.Proofs.YtfdkmmllemkogaaGreatDoor
open Go.RowKit
set_option linter.unusedVariables false
set_option linter.unusedSimpArgs false

def ratioErr (x y : Int) : Int := if firstNZ [rangeErr x (-999999999) 999999999, rangeErr y 1 999999999] ≠ 0 then firstNZ [rangeErr x (-999999999) 999999999, rangeErr y 1 999999999] else if (Int.gcd x y : Int) = 1 then 0 else 1
def vectorErr (x y z : Int) : Int := firstNZ [rangeErr x (-1048576) 1048576, rangeErr y (-1048576) 1048576, rangeErr z (-1048576) 1048576]
def directionErr (x y z : Int) : Int := firstNZ [vectorErr x y z, if x = 0 ∧ y = 0 ∧ z = 0 then 6 else 0]

set_option maxRecDepth 100000 in
set_option maxHeartbeats 3200000 in
theorem refCheckRatio_all (x y : Int) (w : World) :
    Calls Tryz.prog 29 #[.agg #[.int .i64 x, .int .i64 y]] w fun e w' => e = .returned (.int .i64 (ratioErr x y)) ∧ Below w.heap.size w w' := by
  have hB : Below w.heap.size w ((w.alloc (.cells #[.int .i64 x, .int .i64 y] 34)).alloc (.cells #[.int .i64 (rangeErr x (-999999999) 999999999), .int .i64 (rangeErr y 1 999999999)] 3)).drew := (((Below.refl _ w).alloc (Nat.le_refl _) _).alloc (by simp) _).drew
  have HB := Lib.hid hB
  clear hB
  by_cases hne : firstNZ [rangeErr x (-999999999) 999999999, rangeErr y 1 999999999] = 0
  · obtain ⟨eX, eY⟩ := firstNZ_two hne
    have hX := rangeErr_zero eX
    have hY := rangeErr_zero eY
    have e0 : (firstNZ [rangeErr x (-999999999) 999999999, rangeErr y 1 999999999] != 0) = false := by simp [hne]
    have er : ratioErr x y = if (Int.gcd x y : Int) = 1 then 0 else 1 := by unfold ratioErr; rw [if_neg (by simp [hne])]
    rw [er]
    have KD := Lib.hid (refDivisor_any x y ⟨by omega, by omega⟩ ⟨by omega, by omega⟩ hY.1)
    have hg1 : 0 ≤ (Int.gcd x y : Int) := by omega
    have hg0 : (Int.gcd x y : Int) ≠ 0 := fun h => by
      have : Int.gcd x y = 0 := by omega
      rw [Int.gcd_eq_zero_iff] at this; omega
    obtain ⟨g, hg⟩ : ∃ g : Int, (Int.gcd x y : Int) = g := ⟨_, rfl⟩
    rw [hg] at hg1 hg0 ⊢
    have KD2 : Hid (∀ w, Calls Tryz.prog 116 #[.int .i64 x, .int .i64 y] w fun e w' => e = .returned (.int .i64 g) ∧ w = w') := Lib.hid fun w => by
      have h := KD.out w
      rwa [hg] at h
    clear hne eX eY er KD hX hY hg
    by_cases h1 : g = 1
    · rw [if_pos h1]
      have e1 : decide (1 < g) = false := by simp; omega
      clear h1 hg0
      go_enter Tryz.func29, Tryz.ntmps29
      go_wp2_with fail
      go_region_held3 (fun w' => w'.cell? ⟨w.heap.size, 0, none⟩ = some (.int .i64 x) ∧ w'.cell? ⟨w.heap.size, 1, none⟩ = some (.int .i64 y))
      (go_keep)
      (first
        | ((go_at_call_of 23 (Value.int .i64 x); refine (refCheckRange_any x (-999999999) 999999999 _).mono ?_; rintro e w' ⟨rfl, rfl⟩))
        | ((go_at_call_of 23 (Value.int .i64 y); refine (refCheckRange_any y 1 999999999 _).mono ?_; rintro e w' ⟨rfl, rfl⟩))
        | ((go_at_call 111; refine (refFirst_any _ 0 2 2 [rangeErr x (-999999999) 999999999, rangeErr y 1 999999999] rfl (by omega) _ ?_).mono ?_; rotate_left 1; rintro e w' ⟨rfl, rfl⟩; rotate_left 1; (intro j hj; match j, hj with | 0, _ => simp [go_sem] | 1, _ => simp [go_sem]))))
      all_goals
        go_wp2_with (first
          | (go_at_call 116; refine (KD2.out _).mono ?_; rintro e w9 ⟨rfl, rfl⟩)
          | (go_at_call 42; refine (when_any false 1 _).mono ?_; rintro e w8 ⟨rfl, rfl⟩))
        go_ret
        exact ⟨rfl, HB.out⟩
    · rw [if_neg h1]
      have e1 : decide (1 < g) = true := by simp; omega
      clear h1 hg0
      go_enter Tryz.func29, Tryz.ntmps29
      go_wp2_with fail
      go_region_held3 (fun w' => w'.cell? ⟨w.heap.size, 0, none⟩ = some (.int .i64 x) ∧ w'.cell? ⟨w.heap.size, 1, none⟩ = some (.int .i64 y))
      (go_keep)
      (first
        | ((go_at_call_of 23 (Value.int .i64 x); refine (refCheckRange_any x (-999999999) 999999999 _).mono ?_; rintro e w' ⟨rfl, rfl⟩))
        | ((go_at_call_of 23 (Value.int .i64 y); refine (refCheckRange_any y 1 999999999 _).mono ?_; rintro e w' ⟨rfl, rfl⟩))
        | ((go_at_call 111; refine (refFirst_any _ 0 2 2 [rangeErr x (-999999999) 999999999, rangeErr y 1 999999999] rfl (by omega) _ ?_).mono ?_; rotate_left 1; rintro e w' ⟨rfl, rfl⟩; rotate_left 1; (intro j hj; match j, hj with | 0, _ => simp [go_sem] | 1, _ => simp [go_sem]))))
      all_goals
        go_wp2_with (first
          | (go_at_call 116; refine (KD2.out _).mono ?_; rintro e w9 ⟨rfl, rfl⟩)
          | (go_at_call 42; refine (when_any true 1 _).mono ?_; rintro e w8 ⟨rfl, rfl⟩))
        go_ret
        exact ⟨rfl, HB.out⟩
  · have e0 : (firstNZ [rangeErr x (-999999999) 999999999, rangeErr y 1 999999999] != 0) = true := by simp [hne]
    have er : ratioErr x y = firstNZ [rangeErr x (-999999999) 999999999, rangeErr y 1 999999999] := by unfold ratioErr; rw [if_pos hne]
    rw [er]
    clear hne er
    go_enter Tryz.func29, Tryz.ntmps29
    go_wp2_with fail
    go_region_held3 (fun w' => w'.cell? ⟨w.heap.size, 0, none⟩ = some (.int .i64 x) ∧ w'.cell? ⟨w.heap.size, 1, none⟩ = some (.int .i64 y))
    (go_keep)
    (first
      | ((go_at_call_of 23 (Value.int .i64 x); refine (refCheckRange_any x (-999999999) 999999999 _).mono ?_; rintro e w' ⟨rfl, rfl⟩))
      | ((go_at_call_of 23 (Value.int .i64 y); refine (refCheckRange_any y 1 999999999 _).mono ?_; rintro e w' ⟨rfl, rfl⟩))
      | ((go_at_call 111; refine (refFirst_any _ 0 2 2 [rangeErr x (-999999999) 999999999, rangeErr y 1 999999999] rfl (by omega) _ ?_).mono ?_; rotate_left 1; rintro e w' ⟨rfl, rfl⟩; rotate_left 1; (intro j hj; match j, hj with | 0, _ => simp [go_sem] | 1, _ => simp [go_sem]))))
    all_goals
      go_wp2_with fail
      go_ret
      exact ⟨rfl, HB.out⟩

set_option maxRecDepth 100000 in
set_option maxHeartbeats 3200000 in
theorem checkRatio_all (x y : Int) (w : World) :
    Calls Tryz.prog 28 #[.agg #[.int .i64 x, .int .i64 y]] w fun e w' => e = .returned (.int .i64 (ratioErr x y)) ∧ Below w.heap.size w w' := by
  have hB : Below w.heap.size w ((w.alloc (.cells #[.int .i64 x, .int .i64 y] 34)).alloc (.cells #[.int .i64 (rangeErr x (-999999999) 999999999), .int .i64 (rangeErr y 1 999999999)] 26)).drew := (((Below.refl _ w).alloc (Nat.le_refl _) _).alloc (by simp) _).drew
  have HB := Lib.hid hB
  clear hB
  by_cases hne : firstNZ [rangeErr x (-999999999) 999999999, rangeErr y 1 999999999] = 0
  · obtain ⟨eX, eY⟩ := firstNZ_two hne
    have hX := rangeErr_zero eX
    have hY := rangeErr_zero eY
    have e0 : (firstNZ [rangeErr x (-999999999) 999999999, rangeErr y 1 999999999] != 0) = false := by simp [hne]
    have er : ratioErr x y = if (Int.gcd x y : Int) = 1 then 0 else 1 := by unfold ratioErr; rw [if_neg (by simp [hne])]
    rw [er]
    have KD := Lib.hid (divisor_any x y ⟨by omega, by omega⟩ ⟨by omega, by omega⟩)
    have hg1 : 0 ≤ (Int.gcd x y : Int) := by omega
    have hg0 : (Int.gcd x y : Int) ≠ 0 := fun h => by
      have : Int.gcd x y = 0 := by omega
      rw [Int.gcd_eq_zero_iff] at this; omega
    obtain ⟨g, hg⟩ : ∃ g : Int, (Int.gcd x y : Int) = g := ⟨_, rfl⟩
    rw [hg] at hg1 hg0 ⊢
    have KD2 : Hid (∀ w, Calls Tryz.prog 115 #[.int .i64 x, .int .i64 y] w fun e w' => e = .returned (.int .i64 g) ∧ Below w.heap.size w w') := Lib.hid fun w => by
      have h := KD.out w
      rwa [hg] at h
    clear hne eX eY er KD hX hY hg
    by_cases h1 : g = 1
    · rw [if_pos h1]
      have e1 : (g != 1) = false := by simp; omega
      clear h1 hg0
      go_enter Tryz.func28, Tryz.ntmps28
      go_wp2_with fail
      go_region_held3 (fun w' => w'.cell? ⟨w.heap.size, 0, none⟩ = some (.int .i64 x) ∧ w'.cell? ⟨w.heap.size, 1, none⟩ = some (.int .i64 y))
      (go_keep)
      (first
        | ((go_at_call_of 110 (Value.int .i64 x); refine (checkRange_any x (-999999999) 999999999 _).mono ?_; rintro e w' ⟨rfl, rfl⟩))
        | ((go_at_call_of 110 (Value.int .i64 y); refine (checkRange_any y 1 999999999 _).mono ?_; rintro e w' ⟨rfl, rfl⟩))
        | ((go_at_call 109; refine (first_any _ 0 2 2 [rangeErr x (-999999999) 999999999, rangeErr y 1 999999999] rfl (by omega) _ ?_).mono ?_; rotate_left 1; rintro e w' ⟨rfl, rfl⟩; rotate_left 1; (intro j hj; match j, hj with | 0, _ => simp [go_sem] | 1, _ => simp [go_sem]))))
      all_goals
        go_wp2_with (first
          | (go_at_call 115; refine (KD2.out _).mono ?_; rintro e w9 ⟨rfl, hb9⟩)
          | (go_at_call 114; refine (cwhen_any false 1 _).mono ?_; rintro e w8 ⟨rfl, rfl⟩))
        go_ret
        exact ⟨rfl, HB.out.trans (hb9.mono HB.out.size)⟩
    · rw [if_neg h1]
      have e1 : (g != 1) = true := by simp; omega
      clear h1 hg0
      go_enter Tryz.func28, Tryz.ntmps28
      go_wp2_with fail
      go_region_held3 (fun w' => w'.cell? ⟨w.heap.size, 0, none⟩ = some (.int .i64 x) ∧ w'.cell? ⟨w.heap.size, 1, none⟩ = some (.int .i64 y))
      (go_keep)
      (first
        | ((go_at_call_of 110 (Value.int .i64 x); refine (checkRange_any x (-999999999) 999999999 _).mono ?_; rintro e w' ⟨rfl, rfl⟩))
        | ((go_at_call_of 110 (Value.int .i64 y); refine (checkRange_any y 1 999999999 _).mono ?_; rintro e w' ⟨rfl, rfl⟩))
        | ((go_at_call 109; refine (first_any _ 0 2 2 [rangeErr x (-999999999) 999999999, rangeErr y 1 999999999] rfl (by omega) _ ?_).mono ?_; rotate_left 1; rintro e w' ⟨rfl, rfl⟩; rotate_left 1; (intro j hj; match j, hj with | 0, _ => simp [go_sem] | 1, _ => simp [go_sem]))))
      all_goals
        go_wp2_with (first
          | (go_at_call 115; refine (KD2.out _).mono ?_; rintro e w9 ⟨rfl, hb9⟩)
          | (go_at_call 114; refine (cwhen_any true 1 _).mono ?_; rintro e w8 ⟨rfl, rfl⟩))
        go_ret
        exact ⟨rfl, HB.out.trans (hb9.mono HB.out.size)⟩
  · have e0 : (firstNZ [rangeErr x (-999999999) 999999999, rangeErr y 1 999999999] != 0) = true := by simp [hne]
    have er : ratioErr x y = firstNZ [rangeErr x (-999999999) 999999999, rangeErr y 1 999999999] := by unfold ratioErr; rw [if_pos hne]
    rw [er]
    clear hne er
    go_enter Tryz.func28, Tryz.ntmps28
    go_wp2_with fail
    go_region_held3 (fun w' => w'.cell? ⟨w.heap.size, 0, none⟩ = some (.int .i64 x) ∧ w'.cell? ⟨w.heap.size, 1, none⟩ = some (.int .i64 y))
    (go_keep)
    (first
      | ((go_at_call_of 110 (Value.int .i64 x); refine (checkRange_any x (-999999999) 999999999 _).mono ?_; rintro e w' ⟨rfl, rfl⟩))
      | ((go_at_call_of 110 (Value.int .i64 y); refine (checkRange_any y 1 999999999 _).mono ?_; rintro e w' ⟨rfl, rfl⟩))
      | ((go_at_call 109; refine (first_any _ 0 2 2 [rangeErr x (-999999999) 999999999, rangeErr y 1 999999999] rfl (by omega) _ ?_).mono ?_; rotate_left 1; rintro e w' ⟨rfl, rfl⟩; rotate_left 1; (intro j hj; match j, hj with | 0, _ => simp [go_sem] | 1, _ => simp [go_sem]))))
    all_goals
      go_wp2_with fail
      go_ret
      exact ⟨rfl, HB.out⟩

end Go.Proofs.YtfdkmmllemkogaaGreatDoor

/-
  Contracts of the checks of a vector and of a direction, of the program and of the reference, and of a key: both answer the same, for all integers.
-/
namespace Go.Proofs.YtfdkmmllemkogaaGreatDoor
open Go.RowKit
set_option linter.unusedVariables false
set_option linter.unusedSimpArgs false

theorem firstNZ_three {a b c : Int} (h : firstNZ [a, b, c] = 0) : a = 0 ∧ b = 0 ∧ c = 0 := by
  unfold firstNZ at h
  split at h
  · rename_i ha; exact absurd h ha
  · rename_i ha
    obtain ⟨h1, h2⟩ := firstNZ_two h
    exact ⟨by omega, h1, h2⟩

set_option maxHeartbeats 400000 in
theorem refCheckKey_any (n : Int) (w : World) :
    Calls Tryz.prog 22 #[.int .i64 n] w fun e w' => e = .returned (.int .i64 (rangeErr n 1 2147483646)) ∧ w = w' := by
  go_enter Tryz.func22, Tryz.ntmps22
  go_wp2_with (go_at_call 23; refine (refCheckRange_any n 1 2147483646 _).mono ?_; rintro e w' ⟨rfl, rfl⟩)
  go_ret
  exact ⟨rfl, rfl⟩

set_option maxRecDepth 100000 in
set_option maxHeartbeats 3200000 in
theorem refCheckVector_all (x y z : Int) (w : World) :
    Calls Tryz.prog 33 #[.agg #[.int .i64 x, .int .i64 y, .int .i64 z]] w fun e w' => e = .returned (.int .i64 (vectorErr x y z)) ∧ Below w.heap.size w w' := by
  have hB : Below w.heap.size w ((w.alloc (.cells #[.int .i64 x, .int .i64 y, .int .i64 z] 36)).alloc (.cells #[.int .i64 (rangeErr x (-1048576) 1048576), .int .i64 (rangeErr y (-1048576) 1048576), .int .i64 (rangeErr z (-1048576) 1048576)] 3)).drew := (((Below.refl _ w).alloc (Nat.le_refl _) _).alloc (by simp) _).drew
  have HB := Lib.hid hB
  clear hB
  go_enter Tryz.func33, Tryz.ntmps33
  go_wp2_with fail
  go_region_held3 (fun w' => w'.cell? ⟨w.heap.size, 0, none⟩ = some (.int .i64 x) ∧ w'.cell? ⟨w.heap.size, 1, none⟩ = some (.int .i64 y) ∧ w'.cell? ⟨w.heap.size, 2, none⟩ = some (.int .i64 z))
    (go_keep)
    (first
      | ((go_at_call_of 23 (Value.int .i64 x); refine (refCheckRange_any x (-1048576) 1048576 _).mono ?_; rintro e w' ⟨rfl, rfl⟩))
      | ((go_at_call_of 23 (Value.int .i64 y); refine (refCheckRange_any y (-1048576) 1048576 _).mono ?_; rintro e w' ⟨rfl, rfl⟩))
      | ((go_at_call_of 23 (Value.int .i64 z); refine (refCheckRange_any z (-1048576) 1048576 _).mono ?_; rintro e w' ⟨rfl, rfl⟩))
      | ((go_at_call 111; refine (refFirst_any _ 0 3 3 [rangeErr x (-1048576) 1048576, rangeErr y (-1048576) 1048576, rangeErr z (-1048576) 1048576] rfl (by omega) _ ?_).mono ?_; rotate_left 1; rintro e w' ⟨rfl, rfl⟩; rotate_left 1; (intro j hj; match j, hj with | 0, _ => simp [go_sem] | 1, _ => simp [go_sem] | 2, _ => simp [go_sem]))))
  all_goals
    go_wp2_with fail
    go_ret
    exact ⟨rfl, HB.out⟩

theorem bcellN {W w1 : World} (hb : Below W.heap.size W w1) : (∀ b o, b < W.heap.size → w1.cell? ⟨b, o, none⟩ = W.cell? ⟨b, o, none⟩) ∧ (∀ b o, b < W.heap.size → w1.frozen? ⟨b, o, none⟩ = W.frozen? ⟨b, o, none⟩) :=
  ⟨fun b o h => hb.cell (p := ⟨b, o, none⟩) h, fun b o h => hb.frozen (p := ⟨b, o, none⟩) h⟩
theorem dir_zero (x y z : Int) (h : x = 0 ∧ y = 0 ∧ z = 0) : directionErr x y z = 6 := by
  obtain ⟨rfl, rfl, rfl⟩ := h
  decide +kernel
theorem dir_not (x y z : Int) (h : ¬ (x = 0 ∧ y = 0 ∧ z = 0)) : directionErr x y z = vectorErr x y z := by
  unfold directionErr
  rw [if_neg h]
  by_cases h0 : vectorErr x y z = 0
  · rw [h0]; rfl
  · unfold firstNZ; rw [if_pos h0]
theorem vec_zero : vectorErr 0 0 0 = 0 := by decide +kernel

set_option maxRecDepth 100000 in
set_option maxHeartbeats 3200000 in
theorem refCheckDirection_all (x y z : Int) (w : World) :
    Calls Tryz.prog 35 #[.agg #[.int .i64 x, .int .i64 y, .int .i64 z]] w fun e w' => e = .returned (.int .i64 (directionErr x y z)) ∧ Below w.heap.size w w' := by
  have K := Lib.hid (refCheckVector_all x y z (w.alloc (.cells #[.int .i64 x, .int .i64 y, .int .i64 z] 36)))
  have hB0 : Below w.heap.size w (w.alloc (.cells #[.int .i64 x, .int .i64 y, .int .i64 z] 36)) := (Below.refl _ w).alloc (Nat.le_refl _) _
  have HB0 := Lib.hid hB0
  clear hB0
  by_cases hv : vectorErr x y z = 0
  · have e0 : (vectorErr x y z != 0) = false := by simp [hv]
    by_cases h : x = 0 ∧ y = 0 ∧ z = 0
    · rw [dir_zero x y z h]
      obtain ⟨rfl, rfl, rfl⟩ := h
      clear hv
      go_enter Tryz.func35, Tryz.ntmps35
      go_wp2_with (first
        | (go_at_call 33; refine K.out.mono ?_; rintro e w1 ⟨rfl, hb1⟩; (obtain ⟨hc1, hf1⟩ := bcellN hb1); (have hs1 := hb1.size); (try simp at hs1))
        | (go_at_call 42; refine (when_any true 6 _).mono ?_; rintro e w8 ⟨rfl, rfl⟩))
      go_ret
      exact ⟨rfl, HB0.out.trans (hb1.mono HB0.out.size)⟩
    · rw [dir_not x y z h, hv]
      have hh : x ≠ 0 ∨ y ≠ 0 ∨ z ≠ 0 := by omega
      have e1 : (x == 0 && (y == 0 && z == 0)) = false := by
        rcases hh with h | h | h <;> simp [h]
      clear hv h
      rcases hh with h | h | h
      · have ex : (x == 0) = false := by simp [h]
        go_enter Tryz.func35, Tryz.ntmps35
        go_wp2_with (first
          | (go_at_call 33; refine K.out.mono ?_; rintro e w1 ⟨rfl, hb1⟩; (obtain ⟨hc1, hf1⟩ := bcellN hb1); (have hs1 := hb1.size); (try simp at hs1))
          | (go_at_call 42; refine (when_any false 6 _).mono ?_; rintro e w8 ⟨rfl, rfl⟩))
        go_ret
        exact ⟨rfl, HB0.out.trans (hb1.mono HB0.out.size)⟩
      · have ey : (y == 0) = false := by simp [h]
        go_enter Tryz.func35, Tryz.ntmps35
        go_wp2_with (first
          | (go_at_call 33; refine K.out.mono ?_; rintro e w1 ⟨rfl, hb1⟩; (obtain ⟨hc1, hf1⟩ := bcellN hb1); (have hs1 := hb1.size); (try simp at hs1))
          | (go_at_call 42; refine (when_any false 6 _).mono ?_; rintro e w8 ⟨rfl, rfl⟩))
        go_ret
        exact ⟨rfl, HB0.out.trans (hb1.mono HB0.out.size)⟩
      · have ez : (z == 0) = false := by simp [h]
        go_enter Tryz.func35, Tryz.ntmps35
        go_wp2_with (first
          | (go_at_call 33; refine K.out.mono ?_; rintro e w1 ⟨rfl, hb1⟩; (obtain ⟨hc1, hf1⟩ := bcellN hb1); (have hs1 := hb1.size); (try simp at hs1))
          | (go_at_call 42; refine (when_any false 6 _).mono ?_; rintro e w8 ⟨rfl, rfl⟩))
        go_ret
        exact ⟨rfl, HB0.out.trans (hb1.mono HB0.out.size)⟩
  · have e0 : (vectorErr x y z != 0) = true := by simp [hv]
    have h : ¬ (x = 0 ∧ y = 0 ∧ z = 0) := fun ⟨a, b, c⟩ => by subst a; subst b; subst c; exact hv vec_zero
    rw [dir_not x y z h]
    clear hv h
    go_enter Tryz.func35, Tryz.ntmps35
    go_wp2_with (go_at_call 33; refine K.out.mono ?_; rintro e w1 ⟨rfl, hb1⟩)
    go_ret
    exact ⟨rfl, HB0.out.trans (hb1.mono HB0.out.size)⟩

end Go.Proofs.YtfdkmmllemkogaaGreatDoor

/-
  Contract of the reference's Draw: the same permutation as the program's.
-/
namespace Go.Proofs.YtfdkmmllemkogaaGreatDoor
open Go.RowKit
set_option linter.unusedVariables false
set_option linter.unusedSimpArgs false

theorem set_swap (l : List Int) (i j : Nat) (a b : Int) (h : i = j → a = b) : (l.set i a).set j b = (l.set j b).set i a := by
  by_cases e : i = j
  · subst e; rw [h rfl]
  · exact List.set_comm _ _ e
/-- The first k indices. -/
def upTo (k : Nat) : List Int := (List.range k).map (fun i : Nat => (i : Int))
theorem upTo_succ (k : Nat) : (upTo k).map (Value.int .i64) ++ [.int .i64 (k : Int)] = (upTo (k + 1)).map (Value.int .i64) := by
  simp [upTo, List.range_succ]

set_option maxRecDepth 100000 in
set_option maxHeartbeats 6400000 in
theorem refDraw_any (key : Int) (n : Nat) (hk : 1 ≤ key ∧ key ≤ 2147483646) (hn : n ≤ 256) (w : World) :
    Calls Tryz.prog 24 #[.int .i64 key, .int .i64 n] w fun e w' =>
      ∃ v, e = .returned v ∧ w'.ownsRow w.heap.size 3 1 v n ((drawL key n).map (Value.int .i64)) ∧ Below w.heap.size w w' := by
  obtain ⟨i0, hi, hz0, hz1, hz2⟩ := info_parts Tryz.infoInt
  go_enter Tryz.func24, Tryz.ntmps24
  go_upto_block 0 with fail
  go_cut [5] (fun s5 wr => ∃ V : Value, V = s5 ∧ wr.ownsRow w.heap.size 3 1 V n ((upTo n).map (Value.int .i64)) ∧ Below w.heap.size w wr)
  case first =>
    go_wp2_with fail
    go_loopw [5, 6] (fun out i wr => ∃ k : Nat, k ≤ n ∧ i = .int .i64 k ∧ wr.ownsRow w.heap.size 3 1 out k ((upTo k).map (Value.int .i64)) ∧ Below w.heap.size w wr)
      (fun _ i _ => n - (intOf i).toNat)
    case atStart => exact ⟨0, Nat.zero_le _, rfl, World.ownsRow_nil _ _ _ _, Below.refl _ _⟩
    case round =>
      obtain ⟨k, hk', rfl, hown, hnx⟩ := hrel
      have hsz : w.heap.size ≤ wr.heap.size := hnx.size
      by_cases hlt : k < n
      · have h4 : (k : Int) < (n : Int) := by omega
        go_wp2_with (at_builtin; refine wpList_append_own _ rfl (.tmp 16) (.tmp 18) 25 rfl w.heap.size 3 i0 (.int .i64 0) 1 8 Tryz.underlying25 hi hz0 hz1 hz2 rfl (by decide) _ k _ rfl (hown.alloc _) ⟨wr.heap.size, 0, none⟩ 1 1 [.int .i64 (k : Int)] rfl rfl (cell_one_new _ _ _) (by intro u hu; simp at hu; subst hu; rfl) (by unfold maxLen; omega) (by omega) (by simp; omega) ?_; intro v' w1 hown1 hgrow1 _)
        have hlt' := hown.lt
        go_roundw
        case rel => exact ⟨k + 1, by omega, by go_num, by rw [← upTo_succ]; exact hown1, (hnx.alloc hsz _).grown hgrow1 (by simp; omega) (fun j hj => (hlt' j hj).1)⟩
        case measure => simp [intOf]; omega
      · obtain rfl : k = n := by omega
        go_wp2_with fail
        go_meet
        exact ⟨_, rfl, hown, hnx⟩
  case rest =>
    obtain ⟨V, rfl, hownR, hbR⟩ := hcut
    have hd0 : (drawS key n 0).2 = upTo n := rfl
    go_wp2_with fail
    have HOR := Lib.hid hownR
    have HBR := Lib.hid hbR
    clear hownR hbR
    go_loopw [7, 8] (fun s7 s8 wr => ∃ t : Nat, (t + 1 ≤ n ∨ t = 0) ∧ s7 = .int .i64 (drawS key n t).1 ∧ s8 = .int .i64 ((n : Int) - 1 - (t : Int)) ∧ wr.ownsRow w.heap.size 3 1 V n ((drawS key n t).2.map (Value.int .i64)) ∧ Below w.heap.size w wr)
      (fun _ i _ => (intOf i).toNat)
    case atStart => exact ⟨0, .inr rfl, rfl, by congr 1; omega, HOR.out, HBR.out⟩
    case round =>
      obtain ⟨t, ht, rfl, rfl, hown, hnx⟩ := hrel
      by_cases hlt : t + 2 ≤ n
      · obtain ⟨g, cap, hV, hgb⟩ : ∃ g cap, V = .slice (some ⟨g, 0, none⟩) n cap ∧ w.heap.size ≤ g := by
          rcases hown.2 with ⟨_, h⟩ | ⟨g, cap, cur, h1, h2, _⟩
          · omega
          · exact ⟨g, cap, h1, h2⟩
        subst hV
        have hbd := drawS_bd key n (by omega) t
        have hln := drawS_len key n t
        obtain ⟨i, hi'⟩ : ∃ i : Nat, n - 1 - t = i := ⟨_, rfl⟩
        have ei : (n : Int) - 1 - (t : Int) = (i : Int) := by omega
        have ei2 : (n : Int) - 1 - ((t + 1 : Nat) : Int) = (i : Int) - 1 := by omega
        have hi1 : 0 < (i : Int) := by omega
        have hin : i < n := by omega
        obtain ⟨x, hx⟩ : ∃ x : Int, (drawS key n t).1 = x := ⟨_, rfl⟩
        obtain ⟨l, hl⟩ : ∃ l : List Int, (drawS key n t).2 = l := ⟨_, rfl⟩
        obtain ⟨X, hX⟩ : ∃ X : Int, 950706376 * x % 2147483647 = X := ⟨_, rfl⟩
        have hX0 : 0 ≤ X ∧ X ≤ 2147483646 := by
          have h1 := Int.emod_nonneg (950706376 * x) (show (2147483647 : Int) ≠ 0 by decide)
          have h2 := Int.emod_lt_of_pos (950706376 * x) (show (0 : Int) < 2147483647 by decide)
          omega
        obtain ⟨j, hj⟩ : ∃ j : Nat, (X % ((i : Int) + 1)).toNat = j := ⟨_, rfl⟩
        have hjb : X % ((i : Int) + 1) = (j : Int) ∧ j ≤ i := by
          have h1 := Int.emod_nonneg X (show ((i : Int) + 1) ≠ 0 by omega)
          have h2 := Int.emod_lt_of_pos X (show (0 : Int) < (i : Int) + 1 by omega)
          omega
        have hS : drawS key n (t + 1) = (X, (l.set j (l[i]?.getD 0)).set i (l[j]?.getD 0)) := by
          simp only [drawS, hx, hl, hi', hX, hj]
          rw [set_swap l i j _ _ (fun h => by rw [h])]
        rw [hx] at hbd ⊢
        rw [hl] at hown hln
        rw [ei]
        have w1 : IntKind.i64.wrap (950706376 * x) = 950706376 * x := IntWalk.i64_in _ ⟨by omega, by omega⟩
        have w2 : (950706376 * x).tmod 2147483647 = X := by rw [Int.tmod_eq_emod_of_nonneg (by omega)]; exact hX
        have w3 : IntKind.i64.wrap X = X := IntWalk.i64_in _ ⟨by omega, by omega⟩
        have w4' : X.tmod ((i : Int) + 1) = (j : Int) := by rw [Int.tmod_eq_emod_of_nonneg hX0.1]; exact hjb.1
        have w5 : IntKind.i64.wrap ((i : Int) + 1) = (i : Int) + 1 := IntWalk.i64_in _ ⟨by omega, by omega⟩
        have w6 : IntKind.i64.wrap ((i : Int) - 1) = (i : Int) - 1 := IntWalk.i64_in _ ⟨by omega, by omega⟩
        have w8 : ¬ ((i : Int) + 1 = 0) := by omega
        have w9 : (i : Int) < (n : Int) := by omega
        have w10 : (j : Int) < (n : Int) := by omega
        have wX : X % ((i : Int) + 1) = (j : Int) := hjb.1
        have ci : wr.cell? ⟨g, i, none⟩ = some (.int .i64 (l[i]?.getD 0)) := owns_cell hown (by rw [List.getElem?_map, List.getElem?_eq_getElem (by omega)]; rfl)
        have cj : wr.cell? ⟨g, j, none⟩ = some (.int .i64 (l[j]?.getD 0)) := owns_cell hown (by rw [List.getElem?_map, List.getElem?_eq_getElem (by omega)]; rfl)
        have fi := hown.frozenAt i
        have fj := hown.frozenAt j
        have hst1 := (hown.stored j (.int .i64 (l[i]?.getD 0))).1
        have fi2 := hst1.frozenAt i
        have ci2 : (wr.setCell ⟨g, j, none⟩ (.int .i64 (l[i]?.getD 0))).cell? ⟨g, i, none⟩ = some (.int .i64 ((l.set j (l[i]?.getD 0))[i]?.getD 0)) := by
          have h := hst1
          rw [← List.map_set] at h
          exact owns_cell h (by rw [List.getElem?_map, List.getElem?_eq_getElem (by simp; omega)]; rfl)
        have hst2 := (hst1.stored i (.int .i64 (l[j]?.getD 0))).1
        rw [← List.map_set, ← List.map_set] at hst2
        have HST := Lib.hid hst2
        have HNX := Lib.hid hnx
        have HS1 := Lib.hid hS
        have HEI := Lib.hid ei2
        clear hst1 hst2 hown hnx hS hj hjb hx hl hi' ei ei2 hX0 hbd ht hd0 hln
        go_wp2_with fail
        go_roundw
        case rel =>
          refine ⟨t + 1, .inl (by omega), ?_⟩
          rw [HS1.out, HEI.out]
          exact ⟨rfl, rfl, HST.out, ((HNX.out.setCell (p := ⟨g, j, none⟩) (by show w.heap.size ≤ g; omega) _).setCell (p := ⟨g, i, none⟩) (by show w.heap.size ≤ g; omega) _)⟩
        case measure => simp [intOf]; omega
      · have et : t = n - 1 := by omega
        have hi3 : ¬ (0 < (n : Int) - 1 - (t : Int)) := by omega
        have HET := Lib.hid et
        have HO := Lib.hid hown
        have HX := Lib.hid hnx
        clear et hown hnx ht hd0
        go_wp2_with fail
        go_ret
        refine ⟨_, rfl, ?_, HX.out⟩
        have h := HO.out
        rw [HET.out] at h
        exact h
end Go.Proofs.YtfdkmmllemkogaaGreatDoor

/-
  Draw with an error; lists of integers in memory; listed() of the law's package.
-/
namespace Go.Proofs.YtfdkmmllemkogaaGreatDoor
open Go.RowKit
set_option linter.unusedVariables false
set_option linter.unusedSimpArgs false

/-- A slice, nil or not, of the integers. -/
def IntsV (w : World) (v : Value) (n : Nat) (zs : List Int) : Prop :=
  ∃ a c, v = .slice a n c ∧ ∀ j, j < n → ∃ b o, a = some ⟨b, o, none⟩ ∧ b < w.heap.size ∧ w.cell? ⟨b, o + j, none⟩ = some (.int .i64 (zs[j]?.getD 0))
theorem IntsV.kept {w w' : World} {v : Value} {n : Nat} {zs : List Int} (h : IntsV w v n zs) (hb : Below w.heap.size w w') : IntsV w' v n zs := by
  obtain ⟨a, c, rfl, hc⟩ := h
  refine ⟨a, c, rfl, fun j hj => ?_⟩
  obtain ⟨b, o, rfl, h1, h2⟩ := hc j hj
  exact ⟨b, o, rfl, Nat.lt_of_lt_of_le h1 hb.size, (hb.cell (p := ⟨b, o + j, none⟩) h1).trans h2⟩
theorem IntsV.nil (w : World) (zs : List Int) : IntsV w (.slice none 0 0) 0 zs := ⟨none, 0, rfl, fun j hj => absurd hj (by omega)⟩
theorem IntsV.of_row {w : World} {B : Nat} {v : Value} {n : Nat} {zs : List Int} (h : w.ownsRow B 3 1 v n (zs.map (Value.int .i64))) : IntsV w v n zs := by
  have hl : zs.length = n := by have := h.1; simpa using this
  rcases h.2 with ⟨rfl, rfl⟩ | ⟨g, cap, cur, rfl, hb, hg, _⟩
  · exact IntsV.nil w zs
  · refine ⟨_, _, rfl, fun j hj => ⟨g, 0, rfl, lt_of_blk hg, ?_⟩⟩
    rw [Nat.zero_add]
    exact owns_cell h (by rw [List.getElem?_map, List.getElem?_eq_getElem (by omega)]; rfl)

def drawErr (key n : Int) : Int := firstNZ [rangeErr key 1 2147483646, rangeErr n 0 256]

set_option maxRecDepth 100000 in
set_option maxHeartbeats 6400000 in
theorem draw_bad (key n : Int) (h : drawErr key n ≠ 0) (w : World) :
    Calls Tryz.prog 20 #[.int .i64 key, .int .i64 n] w fun e w' => e = .returned (.tuple #[.slice none 0 0, .int .i64 (drawErr key n)]) ∧ Below w.heap.size w w' := by
  have HB : Hid (Below w.heap.size w (w.alloc (.cells #[.int .i64 (rangeErr key 1 2147483646), .int .i64 (rangeErr n 0 256)] 26))) := Lib.hid ((Below.refl _ w).alloc (Nat.le_refl _) _)
  obtain ⟨r, hr⟩ : ∃ r : Int, drawErr key n = r := ⟨_, rfl⟩
  rw [hr] at h ⊢
  have e0 : (r != 0) = true := by simp [h]
  have HR : Hid (firstNZ [rangeErr key 1 2147483646, rangeErr n 0 256] = r) := Lib.hid hr
  clear h hr
  go_enter Tryz.func20, Tryz.ntmps20
  go_wp2_with (first
    | (go_at_call_of 110 (Value.int .i64 key); refine (checkRange_any key 1 2147483646 _).mono ?_; rintro e w9 ⟨rfl, rfl⟩)
    | (go_at_call_of 110 (Value.int .i64 n); refine (checkRange_any n 0 256 _).mono ?_; rintro e w9 ⟨rfl, rfl⟩)
    | ((go_at_call 109; refine (first_any _ 0 2 2 [rangeErr key 1 2147483646, rangeErr n 0 256] rfl (by omega) _ ?_).mono ?_; rotate_left 1; rintro e w' ⟨rfl, rfl⟩; rw [HR.out]; rotate_left 1; (intro j hj; match j, hj with | 0, _ => simp [go_sem] | 1, _ => simp [go_sem]))))
  go_ret2
  exact ⟨rfl, HB.out⟩

/-- How many elements Draw returns. -/
def drawN (key n : Int) : Nat := if drawErr key n = 0 then n.toNat else 0
theorem drawErr_zero {key n : Int} (h : drawErr key n = 0) : (1 ≤ key ∧ key ≤ 2147483646) ∧ 0 ≤ n ∧ n ≤ 256 := by
  obtain ⟨h1, h2⟩ := firstNZ_two h
  exact ⟨rangeErr_zero h1, rangeErr_zero h2⟩

theorem draw_all (key n : Int) (w : World) :
    Calls Tryz.prog 20 #[.int .i64 key, .int .i64 n] w fun e w' => ∃ v, e = .returned (.tuple #[v, .int .i64 (drawErr key n)]) ∧ IntsV w' v (drawN key n) (drawL key n.toNat) ∧ Below w.heap.size w w' := by
  by_cases h : drawErr key n = 0
  · obtain ⟨hk, hn⟩ := drawErr_zero h
    obtain ⟨m, rfl⟩ := Int.eq_ofNat_of_zero_le hn.1
    refine (draw_any key m hk (by omega) w).mono ?_
    rintro e w' ⟨v, rfl, ho, hb⟩
    refine ⟨v, by rw [h], ?_, hb⟩
    unfold drawN
    rw [if_pos h]
    exact IntsV.of_row ho
  · refine (draw_bad key n h w).mono ?_
    rintro e w' ⟨rfl, hb⟩
    refine ⟨_, rfl, ?_, hb⟩
    unfold drawN
    rw [if_neg h]
    exact IntsV.nil w' _

set_option maxHeartbeats 1600000 in
/-- listed() of two lists of the same integers, with the same error; none if there is one. -/
theorem listed_ok (v v' : Value) (n : Nat) (zs : List Int) (r : Int) (hn : n ≤ 4096) (h0 : r ≠ 0 → n = 0) (w : World) (h1 : IntsV w v n zs) (h2 : IntsV w v' n zs) :
    Calls Tryz.prog 27 #[v, .int .i64 r, .int .i64 r, v'] w fun e w' => e = .returned (.bool true) ∧ Below w.heap.size w w' := by
  obtain ⟨a, c, rfl, ha⟩ := h1
  obtain ⟨a', c', rfl, ha'⟩ := h2
  have e1 : (r == r) = true := by simp
  by_cases hr : r = 0
  · have e0 : (r != 0) = false := by simp [hr]
    have K := Lib.hid (sameInts_any a a' n c c' zs hn ha ha')
    clear ha ha' hr h0
    go_enter Tryz.func27, Tryz.ntmps27
    go_wp2_with (go_at_call 101; refine K.out.mono ?_; rintro e w1 ⟨rfl, hb1⟩)
    go_ret
    exact ⟨rfl, hb1⟩
  · have e0 : (r != 0) = true := by simp [hr]
    obtain rfl := h0 hr
    have K := Lib.hid (sameInts_any (w := w) a none 0 c 0 zs (by omega) (fun j hj => absurd hj (by omega)) (fun j hj => absurd hj (by omega)))
    clear ha ha' hr h0
    go_enter Tryz.func27, Tryz.ntmps27
    go_wp2_with (go_at_call 101; refine K.out.mono ?_; rintro e w1 ⟨rfl, hb1⟩)
    go_ret
    exact ⟨rfl, hb1⟩
end Go.Proofs.YtfdkmmllemkogaaGreatDoor
