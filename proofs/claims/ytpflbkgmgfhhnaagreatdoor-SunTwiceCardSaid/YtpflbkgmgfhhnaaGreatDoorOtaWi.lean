/-
  Contract of the reference's CheckMap for any map with at most 4096 samples: if it returns 0 the map is right.
-/
import Derived.Test.YtpflbkgmgfhhnaaGreatDoorRows
import Derived.WalkKit
import Derived.WalkSpells
import Derived.WalkLawsBesides
import Derived.Lib.Hide
import Derived.BigQuiet
import Derived.Deep.QuietTactic
import Derived.Laws.FloatArith
import Derived.Laws.BitsAllLaws
import Derived.Deep.RegionHeld3
import Derived.Handy
import Derived.Test.YtpflbkgmgfhhnaaGreatDoorOtaWa
import Derived.Deep.CutBlock
import Derived.Deep.DeepCutAuto
import Derived.StillTailTactics
import Derived.LoopTactic
import Derived.Laws.StructEq
namespace Go.Proofs.YtpflbkgmgfhhnaaGreatDoor
open Go.RowKit
set_option linter.unusedVariables false

theorem firstNZ_two {a b : Int} (h : firstNZ [a, b] = 0) : a = 0 ∧ b = 0 := by
  unfold firstNZ at h
  split at h
  · rename_i ha; exact absurd h ha
  · rename_i ha
    unfold firstNZ at h
    split at h
    · rename_i hb; exact absurd h hb
    · exact ⟨by omega, by omega⟩

end Go.Proofs.YtpflbkgmgfhhnaaGreatDoor

/-
  Contracts of the checks of a vector and of a direction, of the program and of the reference, and of a key: both answer the same, for all integers.
-/
namespace Go.Proofs.YtpflbkgmgfhhnaaGreatDoor
open Go.RowKit
set_option linter.unusedVariables false
set_option linter.unusedSimpArgs false

theorem firstNZ_three {a b c : Int} (h : firstNZ [a, b, c] = 0) : a = 0 ∧ b = 0 ∧ c = 0 := by
  unfold firstNZ at h
  split at h
  · rename_i ha; exact absurd h ha
  · rename_i ha
    obtain ⟨h1, h2⟩ := firstNZ_two h
    exact ⟨by omega, h1, h2⟩

set_option maxRecDepth 100000 in
set_option maxHeartbeats 3200000 in
theorem refCheckVector_all (x y z : Int) (w : World) :
    Calls Tryz.prog 74 #[.agg #[.int .i64 x, .int .i64 y, .int .i64 z]] w fun e w' => e = .returned (.int .i64 (vectorErr x y z)) ∧ Below w.heap.size w w' := by
  have hB : Below w.heap.size w ((w.alloc (.cells #[.int .i64 x, .int .i64 y, .int .i64 z] 23)).alloc (.cells #[.int .i64 (rangeErr x (-1048576) 1048576), .int .i64 (rangeErr y (-1048576) 1048576), .int .i64 (rangeErr z (-1048576) 1048576)] 3)).drew := (((Below.refl _ w).alloc (Nat.le_refl _) _).alloc (by simp) _).drew
  have HB := Lib.hid hB
  clear hB
  go_enter Tryz.func74, Tryz.ntmps74
  go_wp2_with fail
  go_region_held3 (fun w' => w'.cell? ⟨w.heap.size, 0, none⟩ = some (.int .i64 x) ∧ w'.cell? ⟨w.heap.size, 1, none⟩ = some (.int .i64 y) ∧ w'.cell? ⟨w.heap.size, 2, none⟩ = some (.int .i64 z))
    (go_keep)
    (first
      | ((go_at_call_of 42 (Value.int .i64 x); refine (refCheckRange_any x (-1048576) 1048576 _).mono ?_; rintro e w' ⟨rfl, rfl⟩))
      | ((go_at_call_of 42 (Value.int .i64 y); refine (refCheckRange_any y (-1048576) 1048576 _).mono ?_; rintro e w' ⟨rfl, rfl⟩))
      | ((go_at_call_of 42 (Value.int .i64 z); refine (refCheckRange_any z (-1048576) 1048576 _).mono ?_; rintro e w' ⟨rfl, rfl⟩))
      | ((go_at_call 41; refine (refFirst_any _ 0 3 3 [rangeErr x (-1048576) 1048576, rangeErr y (-1048576) 1048576, rangeErr z (-1048576) 1048576] rfl (by omega) _ ?_).mono ?_; rotate_left 1; rintro e w' ⟨rfl, rfl⟩; rotate_left 1; (intro j hj; match j, hj with | 0, _ => simp [go_sem] | 1, _ => simp [go_sem] | 2, _ => simp [go_sem]))))
  all_goals
    go_wp2_with fail
    go_ret
    exact ⟨rfl, HB.out⟩

theorem bcellN {W w1 : World} (hb : Below W.heap.size W w1) : (∀ b o, b < W.heap.size → w1.cell? ⟨b, o, none⟩ = W.cell? ⟨b, o, none⟩) ∧ (∀ b o, b < W.heap.size → w1.frozen? ⟨b, o, none⟩ = W.frozen? ⟨b, o, none⟩) :=
  ⟨fun b o h => hb.cell (p := ⟨b, o, none⟩) h, fun b o h => hb.frozen (p := ⟨b, o, none⟩) h⟩
theorem dir_zero (x y z : Int) (h : x = 0 ∧ y = 0 ∧ z = 0) : directionErr x y z = 6 := by
  obtain ⟨rfl, rfl, rfl⟩ := h
  decide +kernel
theorem dir_not (x y z : Int) (h : ¬ (x = 0 ∧ y = 0 ∧ z = 0)) : directionErr x y z = vectorErr x y z := by
  unfold directionErr
  rw [if_neg h]
  by_cases h0 : vectorErr x y z = 0
  · rw [h0]; rfl
  · unfold firstNZ; rw [if_pos h0]
theorem vec_zero : vectorErr 0 0 0 = 0 := by decide +kernel

set_option maxRecDepth 100000 in
set_option maxHeartbeats 3200000 in
theorem refCheckDirection_all (x y z : Int) (w : World) :
    Calls Tryz.prog 31 #[.agg #[.int .i64 x, .int .i64 y, .int .i64 z]] w fun e w' => e = .returned (.int .i64 (directionErr x y z)) ∧ Below w.heap.size w w' := by
  have K := Lib.hid (refCheckVector_all x y z (w.alloc (.cells #[.int .i64 x, .int .i64 y, .int .i64 z] 23)))
  have hB0 : Below w.heap.size w (w.alloc (.cells #[.int .i64 x, .int .i64 y, .int .i64 z] 23)) := (Below.refl _ w).alloc (Nat.le_refl _) _
  have HB0 := Lib.hid hB0
  clear hB0
  by_cases hv : vectorErr x y z = 0
  · have e0 : (vectorErr x y z != 0) = false := by simp [hv]
    by_cases h : x = 0 ∧ y = 0 ∧ z = 0
    · rw [dir_zero x y z h]
      obtain ⟨rfl, rfl, rfl⟩ := h
      clear hv
      go_enter Tryz.func31, Tryz.ntmps31
      go_wp2_with (first
        | (go_at_call 74; refine K.out.mono ?_; rintro e w1 ⟨rfl, hb1⟩; (obtain ⟨hc1, hf1⟩ := bcellN hb1); (have hs1 := hb1.size); (try simp at hs1))
        | (go_at_call 44; refine (when_any true 6 _).mono ?_; rintro e w8 ⟨rfl, rfl⟩))
      go_ret
      exact ⟨rfl, HB0.out.trans (hb1.mono HB0.out.size)⟩
    · rw [dir_not x y z h, hv]
      have hh : x ≠ 0 ∨ y ≠ 0 ∨ z ≠ 0 := by omega
      have e1 : (x == 0 && (y == 0 && z == 0)) = false := by
        rcases hh with h | h | h <;> simp [h]
      clear hv h
      rcases hh with h | h | h
      · have ex : (x == 0) = false := by simp [h]
        go_enter Tryz.func31, Tryz.ntmps31
        go_wp2_with (first
          | (go_at_call 74; refine K.out.mono ?_; rintro e w1 ⟨rfl, hb1⟩; (obtain ⟨hc1, hf1⟩ := bcellN hb1); (have hs1 := hb1.size); (try simp at hs1))
          | (go_at_call 44; refine (when_any false 6 _).mono ?_; rintro e w8 ⟨rfl, rfl⟩))
        go_ret
        exact ⟨rfl, HB0.out.trans (hb1.mono HB0.out.size)⟩
      · have ey : (y == 0) = false := by simp [h]
        go_enter Tryz.func31, Tryz.ntmps31
        go_wp2_with (first
          | (go_at_call 74; refine K.out.mono ?_; rintro e w1 ⟨rfl, hb1⟩; (obtain ⟨hc1, hf1⟩ := bcellN hb1); (have hs1 := hb1.size); (try simp at hs1))
          | (go_at_call 44; refine (when_any false 6 _).mono ?_; rintro e w8 ⟨rfl, rfl⟩))
        go_ret
        exact ⟨rfl, HB0.out.trans (hb1.mono HB0.out.size)⟩
      · have ez : (z == 0) = false := by simp [h]
        go_enter Tryz.func31, Tryz.ntmps31
        go_wp2_with (first
          | (go_at_call 74; refine K.out.mono ?_; rintro e w1 ⟨rfl, hb1⟩; (obtain ⟨hc1, hf1⟩ := bcellN hb1); (have hs1 := hb1.size); (try simp at hs1))
          | (go_at_call 44; refine (when_any false 6 _).mono ?_; rintro e w8 ⟨rfl, rfl⟩))
        go_ret
        exact ⟨rfl, HB0.out.trans (hb1.mono HB0.out.size)⟩
  · have e0 : (vectorErr x y z != 0) = true := by simp [hv]
    have h : ¬ (x = 0 ∧ y = 0 ∧ z = 0) := fun ⟨a, b, c⟩ => by subst a; subst b; subst c; exact hv vec_zero
    rw [dir_not x y z h]
    clear hv h
    go_enter Tryz.func31, Tryz.ntmps31
    go_wp2_with (go_at_call 74; refine K.out.mono ?_; rintro e w1 ⟨rfl, hb1⟩)
    go_ret
    exact ⟨rfl, HB0.out.trans (hb1.mono HB0.out.size)⟩

end Go.Proofs.YtpflbkgmgfhhnaaGreatDoor
