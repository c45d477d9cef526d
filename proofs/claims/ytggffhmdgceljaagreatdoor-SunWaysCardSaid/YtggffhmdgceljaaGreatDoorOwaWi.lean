/-
  Contract of the reference's CheckMap for any map with at most 4096 samples: if it returns 0 the map is right.
-/
import Derived.Test.YtggffhmdgceljaaGreatDoorRows
import Derived.WalkKit
import Derived.WalkSpells
import Derived.WalkLawsBesides
import Derived.Lib.Hide
import Derived.BigQuiet
import Derived.Deep.QuietTactic
import Derived.Laws.FloatArith
import Derived.Laws.BitsAllLaws
import Derived.Deep.RegionHeld3
import Derived.Handy
import Derived.Test.YtggffhmdgceljaaGreatDoorOwaWa
import Derived.Deep.CutBlock
import Derived.Deep.DeepCutAuto
import Derived.StillTailTactics
import Derived.LoopTactic
import Derived.Laws.StructEq
import Derived.Deep.RegionWith
import Derived.RangeFuncNested
import Derived.RangeFuncBound
import Derived.RangeFuncCalls
import Derived.RangeFuncLeaves
import Derived.RangeFuncBox
import Derived.Shelf.Abstract
import Derived.Shelf.RegionOpen
import Derived.OwnWalkIn
import Derived.TacticsInMore
import Derived.LoopNIn
import Derived.LoopIn
import Derived.Maps.AppendAt
import Derived.Test.YtggffhmdgceljaaGreatDoorProg
import Derived.Stop.BytesEq
import Derived.Deep.MidRow
import Derived.Laws.CopyRow
import Derived.WalkMore
import Derived.Deep.DrawnRows
import Derived.Test.YtggffhmdgceljaaGreatDoorOwaWn
import Derived.Test.YtggffhmdgceljaaGreatDoorOwaXe
import Derived.Deep.RegionLaw
namespace Go.Proofs.YtggffhmdgceljaaGreatDoor
open Go.RowKit
set_option linter.unusedVariables false

theorem firstNZ_two {a b : Int} (h : firstNZ [a, b] = 0) : a = 0 ∧ b = 0 := by
  unfold firstNZ at h
  split at h
  · rename_i ha; exact absurd h ha
  · rename_i ha
    unfold firstNZ at h
    split at h
    · rename_i hb; exact absurd h hb
    · exact ⟨by omega, by omega⟩

end Go.Proofs.YtggffhmdgceljaaGreatDoor

/-
  Contracts of the greatest common divisor and of the checks of a ratio, of the program and of the reference.
-/
namespace Go.Proofs.YtggffhmdgceljaaGreatDoor
open Go.RowKit
set_option linter.unusedVariables false
set_option linter.unusedSimpArgs false

theorem gcd_step (a b : Int) : Int.gcd b (a.tmod b) = Int.gcd a b := by
  show Nat.gcd b.natAbs (a.tmod b).natAbs = Nat.gcd a.natAbs b.natAbs
  rw [Int.natAbs_tmod, Nat.gcd_comm b.natAbs, ← Nat.gcd_rec, Nat.gcd_comm]
theorem tmod_small (a b : Int) (hb : b ≠ 0) : (a.tmod b).natAbs < b.natAbs := by
  rw [Int.natAbs_tmod]
  exact Nat.mod_lt _ (Int.natAbs_pos.2 hb)
theorem gcd_zero (a : Int) : (Int.gcd a 0 : Int) = max a (-a) := by
  have e : Int.gcd a 0 = a.natAbs := Nat.gcd_zero_right _
  rw [e]; omega

set_option maxHeartbeats 1600000 in
/-- The greatest common divisor; of 0 and 0 it is 0. -/
theorem divisor_any (a b : Int) (ha : -4611686018427387904 ≤ a ∧ a ≤ 4611686018427387904) (hb : -4611686018427387904 ≤ b ∧ b ≤ 4611686018427387904) (w : World) :
    Calls Tryz.prog 101 #[.int .i64 a, .int .i64 b] w fun e w' => e = .returned (.int .i64 (Int.gcd a b)) ∧ Below w.heap.size w w' := by
  go_enter Tryz.func101, Tryz.ntmps101
  go_wp2
  go_loopw [0, 1] (fun x y wr => ∃ a' b' : Int, x = .int .i64 a' ∧ y = .int .i64 b' ∧ (-4611686018427387904 ≤ a' ∧ a' ≤ 4611686018427387904) ∧ (-4611686018427387904 ≤ b' ∧ b' ≤ 4611686018427387904) ∧ Hid (Int.gcd a' b' = Int.gcd a b) ∧ Below w.heap.size w wr) (fun _ y _ => (intOf y).natAbs)
  case atStart => exact ⟨a, b, rfl, rfl, ha, hb, Lib.hid rfl, Below.refl _ _⟩
  case round =>
    obtain ⟨a', b', rfl, rfl, ha', hb', hg, hnx⟩ := hrel
    clear ha hb
    by_cases h0 : b' = 0
    · have HB := Lib.hid hnx
      have HG : Hid ((Int.gcd a b : Int) = max a' (-a')) := Lib.hid (by rw [← hg.out, h0, gcd_zero])
      subst h0
      have w1 : IntKind.i64.wrap (-a') = -a' := IntWalk.i64_in _ ⟨by omega, by omega⟩
      clear hnx hg
      go_wp2
      all_goals
        go_ret
        exact ⟨ret_int (by have := HG.out; omega), HB.out⟩
    · have e0 : (b' != 0) = true := by simp [h0]
      have hn := tmod_small a' b' h0
      have hb2 : -4611686018427387904 ≤ a'.tmod b' ∧ a'.tmod b' ≤ 4611686018427387904 := by omega
      have w1 : IntKind.i64.wrap (a'.tmod b') = a'.tmod b' := IntWalk.i64_in _ ⟨by omega, by omega⟩
      have hg2 := Lib.hid ((gcd_step a' b').trans hg.out)
      have HB := Lib.hid hnx
      clear hnx hg
      go_wp2_with fail
      go_quiet (fail)
      go_wp2
      go_roundw
      case rel => exact ⟨b', a'.tmod b', rfl, rfl, hb', hb2, hg2, below_drewN HB.out _⟩
      case measure => exact hn

end Go.Proofs.YtggffhmdgceljaaGreatDoor

/-
  Contracts of the checks of a vector and of a direction, of the program and of the reference, and of a key: both answer the same, for all integers.
-/
namespace Go.Proofs.YtggffhmdgceljaaGreatDoor
open Go.RowKit
set_option linter.unusedVariables false
set_option linter.unusedSimpArgs false

theorem firstNZ_three {a b c : Int} (h : firstNZ [a, b, c] = 0) : a = 0 ∧ b = 0 ∧ c = 0 := by
  unfold firstNZ at h
  split at h
  · rename_i ha; exact absurd h ha
  · rename_i ha
    obtain ⟨h1, h2⟩ := firstNZ_two h
    exact ⟨by omega, h1, h2⟩

set_option maxRecDepth 100000 in
set_option maxHeartbeats 3200000 in
theorem refCheckVector_all (x y z : Int) (w : World) :
    Calls Tryz.prog 79 #[.agg #[.int .i64 x, .int .i64 y, .int .i64 z]] w fun e w' => e = .returned (.int .i64 (vectorErr x y z)) ∧ Below w.heap.size w w' := by
  have hB : Below w.heap.size w ((w.alloc (.cells #[.int .i64 x, .int .i64 y, .int .i64 z] 23)).alloc (.cells #[.int .i64 (rangeErr x (-1048576) 1048576), .int .i64 (rangeErr y (-1048576) 1048576), .int .i64 (rangeErr z (-1048576) 1048576)] 3)).drew := (((Below.refl _ w).alloc (Nat.le_refl _) _).alloc (by simp) _).drew
  have HB := Lib.hid hB
  clear hB
  go_enter Tryz.func79, Tryz.ntmps79
  go_wp2_with fail
  go_region_held3 (fun w' => w'.cell? ⟨w.heap.size, 0, none⟩ = some (.int .i64 x) ∧ w'.cell? ⟨w.heap.size, 1, none⟩ = some (.int .i64 y) ∧ w'.cell? ⟨w.heap.size, 2, none⟩ = some (.int .i64 z))
    (go_keep)
    (first
      | ((go_at_call_of 50 (Value.int .i64 x); refine (refCheckRange_any x (-1048576) 1048576 _).mono ?_; rintro e w' ⟨rfl, rfl⟩))
      | ((go_at_call_of 50 (Value.int .i64 y); refine (refCheckRange_any y (-1048576) 1048576 _).mono ?_; rintro e w' ⟨rfl, rfl⟩))
      | ((go_at_call_of 50 (Value.int .i64 z); refine (refCheckRange_any z (-1048576) 1048576 _).mono ?_; rintro e w' ⟨rfl, rfl⟩))
      | ((go_at_call 49; refine (refFirst_any _ 0 3 3 [rangeErr x (-1048576) 1048576, rangeErr y (-1048576) 1048576, rangeErr z (-1048576) 1048576] rfl (by omega) _ ?_).mono ?_; rotate_left 1; rintro e w' ⟨rfl, rfl⟩; rotate_left 1; (intro j hj; match j, hj with | 0, _ => simp [go_sem] | 1, _ => simp [go_sem] | 2, _ => simp [go_sem]))))
  all_goals
    go_wp2_with fail
    go_ret
    exact ⟨rfl, HB.out⟩

theorem bcellN {W w1 : World} (hb : Below W.heap.size W w1) : (∀ b o, b < W.heap.size → w1.cell? ⟨b, o, none⟩ = W.cell? ⟨b, o, none⟩) ∧ (∀ b o, b < W.heap.size → w1.frozen? ⟨b, o, none⟩ = W.frozen? ⟨b, o, none⟩) :=
  ⟨fun b o h => hb.cell (p := ⟨b, o, none⟩) h, fun b o h => hb.frozen (p := ⟨b, o, none⟩) h⟩
theorem dir_zero (x y z : Int) (h : x = 0 ∧ y = 0 ∧ z = 0) : directionErr x y z = 6 := by
  obtain ⟨rfl, rfl, rfl⟩ := h
  decide +kernel
theorem dir_not (x y z : Int) (h : ¬ (x = 0 ∧ y = 0 ∧ z = 0)) : directionErr x y z = vectorErr x y z := by
  unfold directionErr
  rw [if_neg h]
  by_cases h0 : vectorErr x y z = 0
  · rw [h0]; rfl
  · unfold firstNZ; rw [if_pos h0]
theorem vec_zero : vectorErr 0 0 0 = 0 := by decide +kernel

set_option maxRecDepth 100000 in
set_option maxHeartbeats 3200000 in
theorem refCheckDirection_all (x y z : Int) (w : World) :
    Calls Tryz.prog 28 #[.agg #[.int .i64 x, .int .i64 y, .int .i64 z]] w fun e w' => e = .returned (.int .i64 (directionErr x y z)) ∧ Below w.heap.size w w' := by
  have K := Lib.hid (refCheckVector_all x y z (w.alloc (.cells #[.int .i64 x, .int .i64 y, .int .i64 z] 23)))
  have hB0 : Below w.heap.size w (w.alloc (.cells #[.int .i64 x, .int .i64 y, .int .i64 z] 23)) := (Below.refl _ w).alloc (Nat.le_refl _) _
  have HB0 := Lib.hid hB0
  clear hB0
  by_cases hv : vectorErr x y z = 0
  · have e0 : (vectorErr x y z != 0) = false := by simp [hv]
    by_cases h : x = 0 ∧ y = 0 ∧ z = 0
    · rw [dir_zero x y z h]
      obtain ⟨rfl, rfl, rfl⟩ := h
      clear hv
      go_enter Tryz.func28, Tryz.ntmps28
      go_wp2_with (first
        | (go_at_call 79; refine K.out.mono ?_; rintro e w1 ⟨rfl, hb1⟩; (obtain ⟨hc1, hf1⟩ := bcellN hb1); (have hs1 := hb1.size); (try simp at hs1))
        | (go_at_call 52; refine (when_any true 6 _).mono ?_; rintro e w8 ⟨rfl, rfl⟩))
      go_ret
      exact ⟨rfl, HB0.out.trans (hb1.mono HB0.out.size)⟩
    · rw [dir_not x y z h, hv]
      have hh : x ≠ 0 ∨ y ≠ 0 ∨ z ≠ 0 := by omega
      have e1 : (x == 0 && (y == 0 && z == 0)) = false := by
        rcases hh with h | h | h <;> simp [h]
      clear hv h
      rcases hh with h | h | h
      · have ex : (x == 0) = false := by simp [h]
        go_enter Tryz.func28, Tryz.ntmps28
        go_wp2_with (first
          | (go_at_call 79; refine K.out.mono ?_; rintro e w1 ⟨rfl, hb1⟩; (obtain ⟨hc1, hf1⟩ := bcellN hb1); (have hs1 := hb1.size); (try simp at hs1))
          | (go_at_call 52; refine (when_any false 6 _).mono ?_; rintro e w8 ⟨rfl, rfl⟩))
        go_ret
        exact ⟨rfl, HB0.out.trans (hb1.mono HB0.out.size)⟩
      · have ey : (y == 0) = false := by simp [h]
        go_enter Tryz.func28, Tryz.ntmps28
        go_wp2_with (first
          | (go_at_call 79; refine K.out.mono ?_; rintro e w1 ⟨rfl, hb1⟩; (obtain ⟨hc1, hf1⟩ := bcellN hb1); (have hs1 := hb1.size); (try simp at hs1))
          | (go_at_call 52; refine (when_any false 6 _).mono ?_; rintro e w8 ⟨rfl, rfl⟩))
        go_ret
        exact ⟨rfl, HB0.out.trans (hb1.mono HB0.out.size)⟩
      · have ez : (z == 0) = false := by simp [h]
        go_enter Tryz.func28, Tryz.ntmps28
        go_wp2_with (first
          | (go_at_call 79; refine K.out.mono ?_; rintro e w1 ⟨rfl, hb1⟩; (obtain ⟨hc1, hf1⟩ := bcellN hb1); (have hs1 := hb1.size); (try simp at hs1))
          | (go_at_call 52; refine (when_any false 6 _).mono ?_; rintro e w8 ⟨rfl, rfl⟩))
        go_ret
        exact ⟨rfl, HB0.out.trans (hb1.mono HB0.out.size)⟩
  · have e0 : (vectorErr x y z != 0) = true := by simp [hv]
    have h : ¬ (x = 0 ∧ y = 0 ∧ z = 0) := fun ⟨a, b, c⟩ => by subst a; subst b; subst c; exact hv vec_zero
    rw [dir_not x y z h]
    clear hv h
    go_enter Tryz.func28, Tryz.ntmps28
    go_wp2_with (go_at_call 79; refine K.out.mono ?_; rintro e w1 ⟨rfl, hb1⟩)
    go_ret
    exact ⟨rfl, HB0.out.trans (hb1.mono HB0.out.size)⟩

end Go.Proofs.YtggffhmdgceljaaGreatDoor

/-
  Contracts of the program's check of a direction, for all integers.
-/
namespace Go.Proofs.YtggffhmdgceljaaGreatDoor
open Go.RowKit
set_option linter.unusedVariables false
set_option linter.unusedSimpArgs false

set_option maxRecDepth 100000 in
set_option maxHeartbeats 6400000 in
theorem checkDirectionC_all (x y z : Int) (w : World) :
    Calls Tryz.prog 100 #[.agg #[.int .i64 x, .int .i64 y, .int .i64 z], .int .i64 1048576] w fun e w' => e = .returned (.int .i64 (directionErr x y z)) ∧ Below w.heap.size w w' := by
  obtain ⟨W0, hW0⟩ : ∃ W0, w.alloc (.cells #[.int .i64 x, .int .i64 y, .int .i64 z] 23) = W0 := ⟨_, rfl⟩
  have HB0 : Hid (Below w.heap.size w W0) := Lib.hid (by rw [← hW0]; exact (Below.refl _ w).alloc (Nat.le_refl _) _)
  have hS0 : w.heap.size < W0.heap.size := by rw [← hW0]; simp
  have a0 : W0.cell? ⟨w.heap.size, 0, none⟩ = some (.int .i64 x) := by rw [← hW0]; simp [go_sem]
  have a1 : W0.cell? ⟨w.heap.size, 1, none⟩ = some (.int .i64 y) := by rw [← hW0]; simp [go_sem]
  have a2 : W0.cell? ⟨w.heap.size, 2, none⟩ = some (.int .i64 z) := by rw [← hW0]; simp [go_sem]
  have hR : Blw W0.heap.size W0 W0.drew := show Below _ _ _ from (Below.refl W0.heap.size W0).drew
  obtain ⟨v, hv⟩ : ∃ v : Int, vectorErr x y z = v := ⟨_, rfl⟩
  have KV : Hid (∀ w1 : World, Blw W0.heap.size W0 w1 → Calls Tryz.prog 46 #[.agg #[.int .i64 x, .int .i64 y, .int .i64 z], .int .i64 1048576] w1 fun e w' => e = .returned (.int .i64 v) ∧ Below W0.heap.size W0 w') :=
    Lib.hid fun w1 (h : Below W0.heap.size W0 w1) => by
      have hh := (checkVectorC_all x y z w1).mono fun e w' ⟨he, hb⟩ => (⟨he, h.trans (hb.mono h.size)⟩ : e = Ending.returned (.int .i64 (vectorErr x y z)) ∧ Below W0.heap.size W0 w')
      rwa [hv] at hh
  by_cases h : x = 0 ∧ y = 0 ∧ z = 0
  · rw [dir_zero x y z h]
    obtain ⟨rfl, rfl, rfl⟩ := h
    have hv0 : v = 0 := by rw [← hv, vec_zero]
    subst hv0
    clear hv
    have KW : Hid (∀ (w9 : World), Calls Tryz.prog 86 #[.bool true, .int .i64 6] w9 fun e w' => e = .returned (.int .i64 6) ∧ w9 = w') := Lib.hid fun w9 => cwhen_any true 6 w9
    have KF : Hid (firstNZ [0, 6] = 6) := Lib.hid (by rfl)
    go_enter Tryz.func100, Tryz.ntmps100
    go_upto_region 1 with fail
    try rw [hW0]
    clear hW0
    go_region_held3 (fun w' => w'.cell? ⟨w.heap.size, 0, none⟩ = some (.int .i64 0) ∧ w'.cell? ⟨w.heap.size, 1, none⟩ = some (.int .i64 0) ∧ w'.cell? ⟨w.heap.size, 2, none⟩ = some (.int .i64 0) ∧ Blw W0.heap.size W0 w')
      (first | (go_split_ands; refine ⟨?_, ?_, ?_, ?_⟩ <;> first | (with_reducible assumption) | exact hb2 | ((rw [hb2.cell (by show _ < W0.heap.size; omega)]; assumption))) | (go_split_ands; refine ⟨?_, ?_, ?_, ?_⟩ <;> first | ((rw [(hb2.alloc hb2.size _).cell (by show _ < W0.heap.size; omega)]; assumption)) | exact (hb2.alloc hb2.size _ : Below _ _ _)) | go_keep)
      (first
        | (go_at_call 46; refine (KV.out _ ?_).mono ?_; rotate_left 1; rintro e w2 ⟨rfl, hb2⟩; rotate_left 1; (simp [*]))
        | (go_at_call 86; refine (KW.out _).mono ?_; rintro e w8 ⟨rfl, rfl⟩)
        | ((go_at_call 42; refine (first_any _ 0 2 2 [0, 6] rfl (by omega) _ ?_).mono ?_; rotate_left 1; rintro e w' ⟨rfl, rfl⟩; rw [KF.out]; rotate_left 1; (intro j hj; match j, hj with | 0, _ => simp [go_sem] | 1, _ => simp [go_sem]))))
    all_goals
      go_wp2_with fail
      go_ret
      exact ⟨rfl, HB0.out.trans ((hb2.alloc hb2.size _).mono HB0.out.size)⟩
  · rw [dir_not x y z h, hv]
    have hh : x ≠ 0 ∨ y ≠ 0 ∨ z ≠ 0 := by omega
    clear h hv
    rcases hh with h | h | h
    · have eq : (x == 0) = false := by simp [h]
      have KW : Hid (∀ (w9 : World), Calls Tryz.prog 86 #[.bool false, .int .i64 6] w9 fun e w' => e = .returned (.int .i64 0) ∧ w9 = w') := Lib.hid fun w9 => cwhen_any false 6 w9
      have KF : Hid (firstNZ [v, 0] = v) := Lib.hid (by unfold firstNZ; split <;> simp_all [firstNZ])
      clear h
      go_enter Tryz.func100, Tryz.ntmps100
      go_upto_region 1 with fail
      try rw [hW0]
      clear hW0
      go_region_held3 (fun w' => w'.cell? ⟨w.heap.size, 0, none⟩ = some (.int .i64 x) ∧ w'.cell? ⟨w.heap.size, 1, none⟩ = some (.int .i64 y) ∧ w'.cell? ⟨w.heap.size, 2, none⟩ = some (.int .i64 z) ∧ Blw W0.heap.size W0 w')
        (first | (go_split_ands; refine ⟨?_, ?_, ?_, ?_⟩ <;> first | (with_reducible assumption) | exact hb2 | ((rw [hb2.cell (by show _ < W0.heap.size; omega)]; assumption))) | (go_split_ands; refine ⟨?_, ?_, ?_, ?_⟩ <;> first | ((rw [(hb2.alloc hb2.size _).cell (by show _ < W0.heap.size; omega)]; assumption)) | exact (hb2.alloc hb2.size _ : Below _ _ _)) | go_keep)
        (first
          | (go_at_call 46; refine (KV.out _ ?_).mono ?_; rotate_left 1; rintro e w2 ⟨rfl, hb2⟩; rotate_left 1; (simp [*]))
          | (go_at_call 86; refine (KW.out _).mono ?_; rintro e w8 ⟨rfl, rfl⟩)
          | ((go_at_call 42; refine (first_any _ 0 2 2 [v, 0] rfl (by omega) _ ?_).mono ?_; rotate_left 1; rintro e w' ⟨rfl, rfl⟩; rw [KF.out]; rotate_left 1; (intro j hj; match j, hj with | 0, _ => simp [go_sem] | 1, _ => simp [go_sem]))))
      all_goals
        go_wp2_with fail
        go_ret
        exact ⟨rfl, HB0.out.trans ((hb2.alloc hb2.size _).mono HB0.out.size)⟩
    · have eq : (y == 0) = false := by simp [h]
      have KW : Hid (∀ (w9 : World), Calls Tryz.prog 86 #[.bool false, .int .i64 6] w9 fun e w' => e = .returned (.int .i64 0) ∧ w9 = w') := Lib.hid fun w9 => cwhen_any false 6 w9
      have KF : Hid (firstNZ [v, 0] = v) := Lib.hid (by unfold firstNZ; split <;> simp_all [firstNZ])
      clear h
      go_enter Tryz.func100, Tryz.ntmps100
      go_upto_region 1 with fail
      try rw [hW0]
      clear hW0
      go_region_held3 (fun w' => w'.cell? ⟨w.heap.size, 0, none⟩ = some (.int .i64 x) ∧ w'.cell? ⟨w.heap.size, 1, none⟩ = some (.int .i64 y) ∧ w'.cell? ⟨w.heap.size, 2, none⟩ = some (.int .i64 z) ∧ Blw W0.heap.size W0 w')
        (first | (go_split_ands; refine ⟨?_, ?_, ?_, ?_⟩ <;> first | (with_reducible assumption) | exact hb2 | ((rw [hb2.cell (by show _ < W0.heap.size; omega)]; assumption))) | (go_split_ands; refine ⟨?_, ?_, ?_, ?_⟩ <;> first | ((rw [(hb2.alloc hb2.size _).cell (by show _ < W0.heap.size; omega)]; assumption)) | exact (hb2.alloc hb2.size _ : Below _ _ _)) | go_keep)
        (first
          | (go_at_call 46; refine (KV.out _ ?_).mono ?_; rotate_left 1; rintro e w2 ⟨rfl, hb2⟩; rotate_left 1; (simp [*]))
          | (go_at_call 86; refine (KW.out _).mono ?_; rintro e w8 ⟨rfl, rfl⟩)
          | ((go_at_call 42; refine (first_any _ 0 2 2 [v, 0] rfl (by omega) _ ?_).mono ?_; rotate_left 1; rintro e w' ⟨rfl, rfl⟩; rw [KF.out]; rotate_left 1; (intro j hj; match j, hj with | 0, _ => simp [go_sem] | 1, _ => simp [go_sem]))))
      all_goals
        go_wp2_with fail
        go_ret
        exact ⟨rfl, HB0.out.trans ((hb2.alloc hb2.size _).mono HB0.out.size)⟩
    · have eq : (z == 0) = false := by simp [h]
      have KW : Hid (∀ (w9 : World), Calls Tryz.prog 86 #[.bool false, .int .i64 6] w9 fun e w' => e = .returned (.int .i64 0) ∧ w9 = w') := Lib.hid fun w9 => cwhen_any false 6 w9
      have KF : Hid (firstNZ [v, 0] = v) := Lib.hid (by unfold firstNZ; split <;> simp_all [firstNZ])
      clear h
      go_enter Tryz.func100, Tryz.ntmps100
      go_upto_region 1 with fail
      try rw [hW0]
      clear hW0
      go_region_held3 (fun w' => w'.cell? ⟨w.heap.size, 0, none⟩ = some (.int .i64 x) ∧ w'.cell? ⟨w.heap.size, 1, none⟩ = some (.int .i64 y) ∧ w'.cell? ⟨w.heap.size, 2, none⟩ = some (.int .i64 z) ∧ Blw W0.heap.size W0 w')
        (first | (go_split_ands; refine ⟨?_, ?_, ?_, ?_⟩ <;> first | (with_reducible assumption) | exact hb2 | ((rw [hb2.cell (by show _ < W0.heap.size; omega)]; assumption))) | (go_split_ands; refine ⟨?_, ?_, ?_, ?_⟩ <;> first | ((rw [(hb2.alloc hb2.size _).cell (by show _ < W0.heap.size; omega)]; assumption)) | exact (hb2.alloc hb2.size _ : Below _ _ _)) | go_keep)
        (first
          | (go_at_call 46; refine (KV.out _ ?_).mono ?_; rotate_left 1; rintro e w2 ⟨rfl, hb2⟩; rotate_left 1; (simp [*]))
          | (go_at_call 86; refine (KW.out _).mono ?_; rintro e w8 ⟨rfl, rfl⟩)
          | ((go_at_call 42; refine (first_any _ 0 2 2 [v, 0] rfl (by omega) _ ?_).mono ?_; rotate_left 1; rintro e w' ⟨rfl, rfl⟩; rw [KF.out]; rotate_left 1; (intro j hj; match j, hj with | 0, _ => simp [go_sem] | 1, _ => simp [go_sem]))))
      all_goals
        go_wp2_with fail
        go_ret
        exact ⟨rfl, HB0.out.trans ((hb2.alloc hb2.size _).mono HB0.out.size)⟩

set_option maxHeartbeats 800000 in
theorem lightCheckVector_all (x y z : Int) (w : World) :
    Calls Tryz.prog 87 #[.agg #[.int .i64 x, .int .i64 y, .int .i64 z]] w fun e w' => e = .returned (.int .i64 (vectorErr x y z)) ∧ Below w.heap.size w w' := by
  have K := Lib.hid (checkVectorC_all x y z (w.alloc (.cells #[.int .i64 x, .int .i64 y, .int .i64 z] 23)))
  have HB0 : Hid (Below w.heap.size w (w.alloc (.cells #[.int .i64 x, .int .i64 y, .int .i64 z] 23))) := Lib.hid ((Below.refl _ w).alloc (Nat.le_refl _) _)
  go_enter Tryz.func87, Tryz.ntmps87
  go_wp2_with (go_at_call 46; refine K.out.mono ?_; rintro e w1 ⟨rfl, hb1⟩)
  go_ret
  exact ⟨rfl, HB0.out.trans (hb1.mono HB0.out.size)⟩

set_option maxHeartbeats 800000 in
theorem lightCheckDirection_all (x y z : Int) (w : World) :
    Calls Tryz.prog 71 #[.agg #[.int .i64 x, .int .i64 y, .int .i64 z]] w fun e w' => e = .returned (.int .i64 (directionErr x y z)) ∧ Below w.heap.size w w' := by
  have K := Lib.hid (checkDirectionC_all x y z (w.alloc (.cells #[.int .i64 x, .int .i64 y, .int .i64 z] 23)))
  have HB0 : Hid (Below w.heap.size w (w.alloc (.cells #[.int .i64 x, .int .i64 y, .int .i64 z] 23))) := Lib.hid ((Below.refl _ w).alloc (Nat.le_refl _) _)
  go_enter Tryz.func71, Tryz.ntmps71
  go_wp2_with (go_at_call 100; refine K.out.mono ?_; rintro e w1 ⟨rfl, hb1⟩)
  go_ret
  exact ⟨rfl, HB0.out.trans (hb1.mono HB0.out.size)⟩
end Go.Proofs.YtggffhmdgceljaaGreatDoor

/-
  Plain mathematics of whole vectors: the greatest common divisor of three integers, reduced vectors, and that they are known by their direction alone.
-/
namespace Go.Proofs.YtggffhmdgceljaaGreatDoor
set_option linter.unusedVariables false
set_option linter.unusedSimpArgs false

/-- The greatest common divisor of three integers. -/
def g3 (x y z : Int) : Int := (Int.gcd (Int.gcd x y : Int) z : Int)
theorem g3_nonneg (x y z : Int) : 0 ≤ g3 x y z := by unfold g3; omega
theorem g3_dvd (x y z : Int) : g3 x y z ∣ x ∧ g3 x y z ∣ y ∧ g3 x y z ∣ z := by
  unfold g3
  have h1 : (Int.gcd (Int.gcd x y : Int) z : Int) ∣ (Int.gcd x y : Int) := Int.gcd_dvd_left ..
  exact ⟨Int.dvd_trans h1 (Int.gcd_dvd_left ..), Int.dvd_trans h1 (Int.gcd_dvd_right ..), Int.gcd_dvd_right ..⟩
theorem dvd_g3 {k x y z : Int} (h1 : k ∣ x) (h2 : k ∣ y) (h3 : k ∣ z) : k ∣ g3 x y z := by
  unfold g3
  exact Int.dvd_coe_gcd (Int.dvd_coe_gcd h1 h2) h3
theorem g3_zero {x y z : Int} : g3 x y z = 0 ↔ x = 0 ∧ y = 0 ∧ z = 0 := by
  constructor
  · intro h
    obtain ⟨h1, h2, h3⟩ := g3_dvd x y z
    rw [h] at h1 h2 h3
    exact ⟨Int.zero_dvd.1 h1, Int.zero_dvd.1 h2, Int.zero_dvd.1 h3⟩
  · rintro ⟨rfl, rfl, rfl⟩
    rfl
theorem g3_pos {x y z : Int} (h : ¬ (x = 0 ∧ y = 0 ∧ z = 0)) : 0 < g3 x y z := by
  have h0 := g3_nonneg x y z
  have h1 : g3 x y z ≠ 0 := fun e => h (g3_zero.1 e)
  omega
theorem tdiv_le (x g : Int) : (x.tdiv g).natAbs ≤ x.natAbs := by
  rw [Int.natAbs_tdiv]
  exact Nat.div_le_self ..
theorem g3_mul (x y z : Int) : g3 x y z * (x.tdiv (g3 x y z)) = x ∧ g3 x y z * (y.tdiv (g3 x y z)) = y ∧ g3 x y z * (z.tdiv (g3 x y z)) = z := by
  obtain ⟨h1, h2, h3⟩ := g3_dvd x y z
  exact ⟨Int.mul_tdiv_cancel' h1, Int.mul_tdiv_cancel' h2, Int.mul_tdiv_cancel' h3⟩
/-- What three parts are reduced to. -/
structure Red (x y z r1 r2 r3 : Int) : Prop where
  ex : ∃ g, 0 < g ∧ x = g * r1 ∧ y = g * r2 ∧ z = g * r3
  one : g3 r1 r2 r3 = 1
theorem red_of {x y z : Int} (h : ¬ (x = 0 ∧ y = 0 ∧ z = 0)) : Red x y z (x.tdiv (g3 x y z)) (y.tdiv (g3 x y z)) (z.tdiv (g3 x y z)) := by
  have hg := g3_pos h
  obtain ⟨h1, h2, h3⟩ := g3_mul x y z
  refine ⟨⟨g3 x y z, hg, h1.symm, h2.symm, h3.symm⟩, ?_⟩
  obtain ⟨k1, k2, k3⟩ := g3_dvd (x.tdiv (g3 x y z)) (y.tdiv (g3 x y z)) (z.tdiv (g3 x y z))
  have hk0 := g3_nonneg (x.tdiv (g3 x y z)) (y.tdiv (g3 x y z)) (z.tdiv (g3 x y z))
  generalize hG : g3 x y z = G at *
  generalize g3 (x.tdiv G) (y.tdiv G) (z.tdiv G) = k at *
  have hd : G * k ∣ g3 x y z := by
    refine dvd_g3 ?_ ?_ ?_
    · obtain ⟨c, hc⟩ := k1; exact ⟨c, by rw [Int.mul_assoc, ← hc, h1]⟩
    · obtain ⟨c, hc⟩ := k2; exact ⟨c, by rw [Int.mul_assoc, ← hc, h2]⟩
    · obtain ⟨c, hc⟩ := k3; exact ⟨c, by rw [Int.mul_assoc, ← hc, h3]⟩
  rw [hG] at hd
  obtain ⟨c, hc⟩ := hd
  have h4 : G * (k * c) = G * 1 := by rw [← Int.mul_assoc, ← hc, Int.mul_one]
  have h5 := Int.eq_of_mul_eq_mul_left (by omega) h4
  exact Int.eq_one_of_mul_eq_one_right hk0 h5
theorem g3_scale {k : Int} (hk : 0 ≤ k) (x y z : Int) : g3 (k * x) (k * y) (k * z) = k * g3 x y z := by
  unfold g3
  rw [Int.gcd_mul_left]
  have e : ((k.natAbs * Int.gcd x y : Nat) : Int) = k * (Int.gcd x y : Int) := by push_cast; rw [Int.natAbs_of_nonneg hk]
  rw [e, Int.gcd_mul_left]
  push_cast
  rw [Int.natAbs_of_nonneg hk]
/-- A reduced vector is known by its direction. -/
theorem Red.unique {x y z r1 r2 r3 x' y' z' s1 s2 s3 : Int} (h : Red x y z r1 r2 r3) (h' : Red x' y' z' s1 s2 s3) {a b : Int} (ha : 0 < a) (hb : 0 < b)
    (e1 : a * x = b * x') (e2 : a * y = b * y') (e3 : a * z = b * z') : r1 = s1 ∧ r2 = s2 ∧ r3 = s3 := by
  obtain ⟨⟨g, hg, g1, g2, g4⟩, o⟩ := h
  obtain ⟨⟨k, hk, k1, k2, k4⟩, o'⟩ := h'
  rw [g1, k1, ← Int.mul_assoc, ← Int.mul_assoc] at e1
  rw [g2, k2, ← Int.mul_assoc, ← Int.mul_assoc] at e2
  rw [g4, k4, ← Int.mul_assoc, ← Int.mul_assoc] at e3
  have hA : 0 < a * g := Int.mul_pos ha hg
  have hB : 0 < b * k := Int.mul_pos hb hk
  have hAB : a * g = b * k := by
    have := g3_scale (Int.le_of_lt hA) r1 r2 r3
    rw [e1, e2, e3, g3_scale (Int.le_of_lt hB), o, o'] at this
    omega
  rw [hAB] at e1 e2 e3
  have hB0 : b * k ≠ 0 := by omega
  exact ⟨Int.eq_of_mul_eq_mul_left hB0 e1, Int.eq_of_mul_eq_mul_left hB0 e2, Int.eq_of_mul_eq_mul_left hB0 e3⟩
theorem g3_neg (x y z : Int) : g3 (-x) (-y) (-z) = g3 x y z := by
  unfold g3
  rw [Int.neg_gcd, Int.gcd_neg, Int.gcd_neg]
theorem Red.neg {x y z r1 r2 r3 : Int} (h : Red x y z r1 r2 r3) : Red (-x) (-y) (-z) (-r1) (-r2) (-r3) := by
  obtain ⟨⟨g, hg, g1, g2, g4⟩, o⟩ := h
  exact ⟨⟨g, hg, by rw [g1, Int.mul_neg], by rw [g2, Int.mul_neg], by rw [g4, Int.mul_neg]⟩, by rw [g3_neg, o]⟩
theorem Red.nonzero {x y z r1 r2 r3 : Int} (h : Red x y z r1 r2 r3) : ¬ (r1 = 0 ∧ r2 = 0 ∧ r3 = 0) := by
  intro h0
  have := g3_zero.2 h0
  rw [h.one] at this
  omega
theorem Red.small {x y z r1 r2 r3 : Int} (h : Red x y z r1 r2 r3) : r1.natAbs ≤ x.natAbs ∧ r2.natAbs ≤ y.natAbs ∧ r3.natAbs ≤ z.natAbs := by
  obtain ⟨⟨g, hg, g1, g2, g4⟩, o⟩ := h
  have k : ∀ r : Int, r.natAbs ≤ (g * r).natAbs := fun r => by
    rw [Int.natAbs_mul]
    exact Nat.le_mul_of_pos_left _ (by omega)
  rw [g1, g2, g4]
  exact ⟨k _, k _, k _⟩
end Go.Proofs.YtggffhmdgceljaaGreatDoor

/-
  Equality of arrays of integers.
-/
namespace Go.Proofs.YtggffhmdgceljaaGreatDoor
open Go.RowKit
set_option linter.unusedVariables false
set_option linter.unusedSimpArgs false

section
variable {P : Program} (w : World)
theorem run_equalIn_ints (d : Nat) (t e : TypeId) (n : Nat) (ht : P.underlying t = some (.array n e)) (he : P.underlying e = some (.int .i64)) (hsz : ∀ w, (sizeOf e).run P w = .ok 1 w) (xs ys : List Int) (hx : xs.length = n) (hy : ys.length = n) :
    (Op.equalIn (d + 2) t (.agg (xs.map (Value.int .i64)).toArray) (.agg (ys.map (Value.int .i64)).toArray)).run P w = .ok (decide (xs = ys)) w := by
  rw [Op.equalIn]
  simp only [Sem.run_bind, run_underlying ht, Result.andThen_ok, hsz, Std.Legacy.Range.forIn_eq_forIn_range', Std.Legacy.Range.size, Nat.sub_zero, Nat.add_sub_cancel, Nat.div_one]
  have hl : ∀ i ∈ List.range' 0 n 1, i < n := fun i hi => by simpa using (List.mem_range'_1.1 hi).2
  have hd : decide (xs = ys) = decide (∀ i ∈ List.range' 0 n 1, xs[i]?.getD 0 = ys[i]?.getD 0) := by
    refine decide_eq_decide.2 ⟨fun h i _ => by rw [h], fun h => ?_⟩
    refine List.ext_getElem (by omega) fun i h1 h2 => ?_
    have := h i (by rw [List.mem_range'_1]; omega)
    rw [List.getElem?_eq_getElem h1, List.getElem?_eq_getElem h2] at this
    exact this
  rw [hd]
  clear hd
  generalize List.range' 0 n 1 = l at hl ⊢
  induction l with
  | nil => simp
  | cons i l ih =>
    have hi : i < n := hl i (by simp)
    have px : (part e (xs.map (Value.int .i64)).toArray (i * 1)).run P w = .ok (Value.int .i64 (xs[i]?.getD 0)) w := by
      simp [part, isAgg, run_underlying he, List.getElem?_eq_getElem (show i < xs.length by omega)]
    have py : (part e (ys.map (Value.int .i64)).toArray (i * 1)).run P w = .ok (Value.int .i64 (ys[i]?.getD 0)) w := by
      simp [part, isAgg, run_underlying he, List.getElem?_eq_getElem (show i < ys.length by omega)]
    have pe : (Op.equalIn (d + 1) e (Value.int .i64 (xs[i]?.getD 0)) (Value.int .i64 (ys[i]?.getD 0))).run P w = .ok (xs[i]?.getD 0 == ys[i]?.getD 0) w := by
      rw [run_equalIn_int w d e .i64 .i64 _ _ he]
    simp only [List.forIn_cons, Sem.run_bind, px, py, pe, Result.andThen_ok]
    by_cases h : xs[i]?.getD 0 = ys[i]?.getD 0
    · have h2 : (xs[i]?.getD 0 == ys[i]?.getD 0) = true := by simp [h]
      simp only [h2, Bool.not_true, Bool.false_eq_true, if_false, Sem.run_pure, Result.andThen_ok]
      have e2 : (decide (∀ j ∈ i :: l, xs[j]?.getD 0 = ys[j]?.getD 0)) = decide (∀ j ∈ l, xs[j]?.getD 0 = ys[j]?.getD 0) := by
        refine decide_eq_decide.2 ⟨fun hh j hj => hh j (by simp [hj]), fun hh j hj => ?_⟩
        rcases List.mem_cons.1 hj with rfl | hj
        · exact h
        · exact hh j hj
      rw [e2]
      exact ih fun j hj => hl j (by simp [hj])
    · have h2 : (xs[i]?.getD 0 == ys[i]?.getD 0) = false := by simp [h]
      have e2 : (decide (∀ j ∈ i :: l, xs[j]?.getD 0 = ys[j]?.getD 0)) = false := decide_eq_false fun hh => h (hh i (by simp))
      rw [e2]
      simp [h2]
end
theorem eq_parts (x y z a b c : Int) (w : World) : (Op.equalIn 10000 94 (.agg #[.int .i64 x, .int .i64 y, .int .i64 z]) (.agg #[.int .i64 a, .int .i64 b, .int .i64 c])).run Tryz.prog w = .ok (decide ([x, y, z] = [a, b, c])) w :=
  run_equalIn_ints w 9998 94 3 3 Tryz.underlying94 Tryz.underlying3 (fun w => by first | kernel_rfl | rfl) [x, y, z] [a, b, c] rfl rfl
end Go.Proofs.YtggffhmdgceljaaGreatDoor
