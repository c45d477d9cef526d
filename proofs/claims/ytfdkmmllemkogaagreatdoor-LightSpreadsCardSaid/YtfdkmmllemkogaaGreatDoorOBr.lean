/-
  Contract of grid.toMap where an integer is that of no sample: the error.
-/
import Derived.Test.YtfdkmmllemkogaaGreatDoorOBn
namespace Go.Proofs.YtfdkmmllemkogaaGreatDoor
open Go.RowKit
set_option linter.unusedVariables false
set_option linter.unusedSimpArgs false

set_option maxRecDepth 100000 in
set_option maxHeartbeats 3200000 in
theorem toMap_large (W H : Int) (g o n c : Nat) (ks : List Int) (hk : ks.length = n) (hn : n ≤ 4096) (w : World) (hg : g < w.heap.size) (hc : ∀ j, j < n → w.cell? ⟨g, o + j, none⟩ = some (.int .i64 (ks[j]?.getD 0))) (hs : ¬ ∀ j, j < n → (ks[j]?.getD 0).natAbs ≤ 16384) :
    Calls Tryz.prog 147 #[.agg #[.int .i64 W, .int .i64 H, .slice (some ⟨g, o, none⟩) n c]] w fun e w' =>
      e = .returned (.tuple #[.agg #[.int .i64 0, .int .i64 0, .slice none 0 0], .int .i64 4]) ∧ Below w.heap.size w w' := by
  obtain ⟨j0, hj0, hlg, hbf⟩ := first_large hs
  have HC := Lib.hid hc
  have HS := Lib.hid hbf
  clear hc hs hbf hk
  go_enter Tryz.func147, Tryz.ntmps147
  go_wp2_with fail
  obtain ⟨W0, hW0⟩ : ∃ W0, ((w.alloc (.cells #[.int .i64 W, .int .i64 H, .slice (some ⟨g, o, none⟩) n c] 188)).alloc (.cells #[.int .i64 0, .int .i64 0, .slice none 0 0] 54)) = W0 := ⟨_, rfl⟩
  have hB0 : Below w.heap.size w W0 := by rw [← hW0]; exact ((Below.refl _ w).alloc (Nat.le_refl _) _).alloc (by simp) _
  have hz0 : W0.heap.size = w.heap.size + 2 := by rw [← hW0]; simp
  have c0 : W0.cell? ⟨w.heap.size, 0, none⟩ = some (.int .i64 W) := by rw [← hW0]; simp [go_sem]
  have c1 : W0.cell? ⟨w.heap.size, 1, none⟩ = some (.int .i64 H) := by rw [← hW0]; simp [go_sem]
  have c2 : W0.cell? ⟨w.heap.size, 2, none⟩ = some (.slice (some ⟨g, o, none⟩) n c) := by rw [← hW0]; simp [go_sem]
  have t0 : W0.cell? ⟨w.heap.size + 1, 0, none⟩ = some (.int .i64 0) := by rw [← hW0]; simp [go_sem]
  have t1 : W0.cell? ⟨w.heap.size + 1, 1, none⟩ = some (.int .i64 0) := by rw [← hW0]; simp [go_sem]
  have t2 : W0.cell? ⟨w.heap.size + 1, 2, none⟩ = some (.slice none 0 0) := by rw [← hW0]; simp [go_sem]
  have fz : ∀ j, W0.frozen? ⟨w.heap.size + 1, j, none⟩ = false := fun j => by rw [← hW0]; simp [go_sem]
  have bP0 : W0.heap[w.heap.size + 1]? = some (.cells #[.int .i64 0, .int .i64 0, .slice none 0 0] 54 (0, 0)) := by rw [← hW0]; exact blk_alloc_new1 _ _ _
  have f0 := fz 0
  have f1 := fz 1
  have f2 := fz 2
  rw [hW0]
  have HB0 := Lib.hid hB0
  have HZ0 := Lib.hid hz0
  have HBP := Lib.hid bP0
  clear hW0 hB0 hz0 bP0
  go_loop [9] (fun i => ∃ k : Nat, k ≤ j0 ∧ i = .int .i64 k) (fun i => n - (intOf i).toNat)
  case atStart => exact ⟨0, Nat.zero_le _, rfl⟩
  case round =>
    obtain ⟨k, hkn, rfl⟩ := hrel
    have hkl : k < n := by omega
    have hcell : W0.cell? ⟨g, o + k, none⟩ = some (.int .i64 (ks[k]?.getD 0)) := (HB0.out.cell (by exact hg)).trans (HC.out k hkl)
    by_cases hlt : k < j0
    · have hs := HS.out k hlt
      obtain ⟨v, hv⟩ : ∃ v, ks[k]?.getD 0 = v := ⟨_, rfl⟩
      rw [hv] at hcell hs
      have h1 : ¬ (v < -16384) := by omega
      have h2 : ¬ (16384 < v) := by omega
      clear hs hv
      go_wp2
      go_round
      case rel => exact ⟨k + 1, by omega, by go_num⟩
      case measure => simp [intOf]; omega
    · obtain rfl : k = j0 := by omega
      obtain ⟨v, hv⟩ : ∃ v, ks[k]?.getD 0 = v := ⟨_, rfl⟩
      rw [hv] at hcell hlg
      clear hv
      by_cases h1 : v < -16384
      · go_wp2
        obtain ⟨WF, hWF⟩ : ∃ WF, (((W0.setCell ⟨w.heap.size + 1, 0, none⟩ (.int .i64 0)).setCell ⟨w.heap.size + 1, 1, none⟩ (.int .i64 0)).setCell ⟨w.heap.size + 1, 2, none⟩ (.slice none 0 0)) = WF := ⟨_, rfl⟩
        have rF : WF.heap[w.heap.size + 1]? = some (.cells #[.int .i64 0, .int .i64 0, .slice none 0 0] 54 (0, 0)) := by rw [← hWF]; exact blk_set3 HBP.out _ _ _
        have bF : Below w.heap.size w WF := by
          rw [← hWF]
          exact ((HB0.out.setCell (p := ⟨w.heap.size + 1, 0, none⟩) (by show w.heap.size ≤ w.heap.size + 1; omega) _).setCell (p := ⟨w.heap.size + 1, 1, none⟩) (by show w.heap.size ≤ w.heap.size + 1; omega) _).setCell (p := ⟨w.heap.size + 1, 2, none⟩) (by show w.heap.size ≤ w.heap.size + 1; omega) _
        rw [hWF]
        exact bodyPost_ret (v := .tuple #[.agg #[.int .i64 0, .int .i64 0, .slice none 0 0], .int .i64 4]) (results_row_tmp Tryz.results147 _ _ (w.heap.size + 1) 54 _ (0, 0) _ rfl rF Tryz.underlying54 rfl (by kernel_rfl)) rfl ⟨rfl, bF⟩
      · have h2 : 16384 < v := by omega
        go_wp2
        obtain ⟨WF, hWF⟩ : ∃ WF, (((W0.setCell ⟨w.heap.size + 1, 0, none⟩ (.int .i64 0)).setCell ⟨w.heap.size + 1, 1, none⟩ (.int .i64 0)).setCell ⟨w.heap.size + 1, 2, none⟩ (.slice none 0 0)) = WF := ⟨_, rfl⟩
        have rF : WF.heap[w.heap.size + 1]? = some (.cells #[.int .i64 0, .int .i64 0, .slice none 0 0] 54 (0, 0)) := by rw [← hWF]; exact blk_set3 HBP.out _ _ _
        have bF : Below w.heap.size w WF := by
          rw [← hWF]
          exact ((HB0.out.setCell (p := ⟨w.heap.size + 1, 0, none⟩) (by show w.heap.size ≤ w.heap.size + 1; omega) _).setCell (p := ⟨w.heap.size + 1, 1, none⟩) (by show w.heap.size ≤ w.heap.size + 1; omega) _).setCell (p := ⟨w.heap.size + 1, 2, none⟩) (by show w.heap.size ≤ w.heap.size + 1; omega) _
        rw [hWF]
        exact bodyPost_ret (v := .tuple #[.agg #[.int .i64 0, .int .i64 0, .slice none 0 0], .int .i64 4]) (results_row_tmp Tryz.results147 _ _ (w.heap.size + 1) 54 _ (0, 0) _ rfl rF Tryz.underlying54 rfl (by kernel_rfl)) rfl ⟨rfl, bF⟩
end Go.Proofs.YtfdkmmllemkogaaGreatDoor
