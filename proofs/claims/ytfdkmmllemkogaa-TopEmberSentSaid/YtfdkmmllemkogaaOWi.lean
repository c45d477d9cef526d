/-
  Contract of the reference's CheckMap for any map with at most 4096 samples: if it returns 0 the map is right.
-/
import Derived.Test.YtfdkmmllemkogaaOFlr
namespace Go.Proofs.Ytfdkmmllemkogaa
open Go.RowKit
set_option linter.unusedVariables false

theorem firstNZ_two {a b : Int} (h : firstNZ [a, b] = 0) : a = 0 ∧ b = 0 := by
  unfold firstNZ at h
  split at h
  · rename_i ha; exact absurd h ha
  · rename_i ha
    unfold firstNZ at h
    split at h
    · rename_i hb; exact absurd h hb
    · exact ⟨by omega, by omega⟩

def RightSays (W H : Int) (n : Nat) (xs : List Nat) : Prop := 1 ≤ W ∧ W ≤ 64 ∧ 1 ≤ H ∧ H ≤ 64 ∧ W * H = n ∧ AllSmp n xs

set_option maxRecDepth 100000 in
set_option maxHeartbeats 6400000 in
theorem refCheckMap_any (W H : Int) (a : Option Addr) (n c : Nat) (xs : List Nat) (hm : n ≤ 4096) (w : World)
    (hs : ∀ j, j < n → ∃ b o, a = some ⟨b, o, none⟩ ∧ b < w.heap.size ∧ ∀ j, j < n → w.cell? ⟨b, o + j, none⟩ = some (.float .f32 (xs[j]?.getD 0))) :
    Calls Try.prog 17 #[.agg #[.int .i64 W, .int .i64 H, .slice a n c]] w fun e w' => ∃ r, e = .returned (.int .i64 r) ∧ Hid (r = 0 → RightSays W H n xs) ∧ Below w.heap.size w w' := by
  have Hs := Lib.hid hs
  clear hs
  by_cases hne : firstNZ [rangeErr W 1 64, rangeErr H 1 64] = 0
  · obtain ⟨eW, eH⟩ := firstNZ_two hne
    have hW := rangeErr_zero eW
    have hH := rangeErr_zero eH
    have e0 : (firstNZ [rangeErr W 1 64, rangeErr H 1 64] != 0) = false := by simp [hne]
    have hmul0 : 1 ≤ W * H := by
      have := Int.mul_le_mul hW.1 hH.1 (by omega) (by omega)
      omega
    have hmul1 : W * H ≤ 4096 := by
      have := Int.mul_le_mul hW.2 hH.2 (by omega) (by omega)
      omega
    clear hne eW eH
    by_cases hA : W * H = n
    · have e1 : ((n : Int) != W * H) = false := by rw [hA]; simp
      obtain ⟨b, o, ha, hb, hc⟩ := Hs.out 0 (by omega)
      subst ha
      have HA := Lib.hid hA
      have Hc := Lib.hid hc
      clear hA hc Hs
      go_enter Try.func17, Try.ntmps17
      go_wp2_with fail
      go_region_held3 (fun w' => w'.cell? ⟨w.heap.size, 0, none⟩ = some (.int .i64 W) ∧ w'.cell? ⟨w.heap.size, 1, none⟩ = some (.int .i64 H))
        (go_keep)
        (first
          | ((go_at_call 38; refine (refCheckSide_any _ _).mono ?_; rintro e w' ⟨rfl, rfl⟩))
          | ((go_at_call 37; refine (refFirst_any _ 0 2 2 [rangeErr W 1 64, rangeErr H 1 64] rfl (by omega) _ ?_).mono ?_; rotate_left 1; rintro e w' ⟨rfl, rfl⟩; rotate_left 1; (intro j hj; match j, hj with | 0, _ => simp [go_sem] | 1, _ => simp [go_sem]))))
      all_goals
        go_wp2_with ((go_at_call 39; refine (checkSamples_any b o n c xs (by omega) _ (fun j hj => ?_)).mono ?_; rotate_left 1; rintro e w' ⟨r, rfl, hr, rfl⟩; rotate_left 1; exact ((((Below.refl _ w).alloc (Nat.le_refl _) _).alloc (by simp) _).drew.cell (by exact hb)).trans (Hc.out j hj)))
        go_ret
        exact ⟨r, rfl, fun h => ⟨hW.1, hW.2, hH.1, hH.2, HA.out, hr.out h⟩, (((Below.refl _ w).alloc (Nat.le_refl _) _).alloc (by simp) _).drew⟩
    · have e1 : ((n : Int) != W * H) = true := by simp; omega
      clear hA
      go_enter Try.func17, Try.ntmps17
      go_wp2_with fail
      go_region_held3 (fun w' => w'.cell? ⟨w.heap.size, 0, none⟩ = some (.int .i64 W) ∧ w'.cell? ⟨w.heap.size, 1, none⟩ = some (.int .i64 H))
        (go_keep)
        (first
          | ((go_at_call 38; refine (refCheckSide_any _ _).mono ?_; rintro e w' ⟨rfl, rfl⟩))
          | ((go_at_call 37; refine (refFirst_any _ 0 2 2 [rangeErr W 1 64, rangeErr H 1 64] rfl (by omega) _ ?_).mono ?_; rotate_left 1; rintro e w' ⟨rfl, rfl⟩; rotate_left 1; (intro j hj; match j, hj with | 0, _ => simp [go_sem] | 1, _ => simp [go_sem]))))
      all_goals
        go_wp2
        go_ret
        exact ⟨2, rfl, fun h => (by cases h), (((Below.refl _ w).alloc (Nat.le_refl _) _).alloc (by simp) _).drew⟩
  · have e0 : (firstNZ [rangeErr W 1 64, rangeErr H 1 64] != 0) = true := by simp [hne]
    have HNE := Lib.hid hne
    clear hne Hs
    go_enter Try.func17, Try.ntmps17
    go_wp2_with fail
    go_region_held3 (fun w' => w'.cell? ⟨w.heap.size, 0, none⟩ = some (.int .i64 W) ∧ w'.cell? ⟨w.heap.size, 1, none⟩ = some (.int .i64 H))
      (go_keep)
      (first
        | ((go_at_call 38; refine (refCheckSide_any _ _).mono ?_; rintro e w' ⟨rfl, rfl⟩))
        | ((go_at_call 37; refine (refFirst_any _ 0 2 2 [rangeErr W 1 64, rangeErr H 1 64] rfl (by omega) _ ?_).mono ?_; rotate_left 1; rintro e w' ⟨rfl, rfl⟩; rotate_left 1; (intro j hj; match j, hj with | 0, _ => simp [go_sem] | 1, _ => simp [go_sem]))))
    all_goals
      go_wp2
      go_ret
      exact ⟨_, rfl, fun h => absurd h HNE.out, (((Below.refl _ w).alloc (Nat.le_refl _) _).alloc (by simp) _).drew⟩
end Go.Proofs.Ytfdkmmllemkogaa
