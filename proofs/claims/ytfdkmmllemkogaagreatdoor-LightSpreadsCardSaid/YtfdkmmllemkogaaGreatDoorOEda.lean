/-
  Binned where the shape does not fit.
-/
import Derived.Test.YtfdkmmllemkogaaGreatDoorOBx
import Derived.Test.YtfdkmmllemkogaaGreatDoorOBd
import Derived.Test.YtfdkmmllemkogaaGreatDoorOWk
import Derived.Test.YtfdkmmllemkogaaGreatDoorOZd
namespace Go.Proofs.YtfdkmmllemkogaaGreatDoor
open Go.RowKit
set_option linter.unusedVariables false
set_option linter.unusedSimpArgs false

theorem emod_in (x s : Int) (hx : 1 ≤ x ∧ x ≤ 64) (hs : 1 ≤ s ∧ s ≤ 64) : IntKind.i64.wrap (x % s) = x % s := by
  have h1 := Int.emod_nonneg x (show s ≠ 0 by omega)
  have h2 := Int.emod_lt_of_pos x (show 0 < s by omega)
  exact IntWalk.i64_in _ ⟨by omega, by omega⟩
set_option maxRecDepth 100000 in
set_option maxHeartbeats 6400000 in
theorem binned_shape (W H : Int) (a : Option Addr) (n c : Nat) (step : Int) (r1 r : Int) (hr : firstNZ [r1, rangeErr step 1 64] = r) (hr0 : r = 0) (hww : 1 ≤ W ∧ W ≤ 64) (hhh : 1 ≤ H ∧ H ≤ 64) (hss : 1 ≤ step ∧ step ≤ 64) (hne : ¬ (W % step = 0 ∧ H % step = 0)) (w : World)
    (hC : ∀ w1 : World, Below w.heap.size w w1 → Calls Tryz.prog 47 #[.agg #[.int .i64 W, .int .i64 H, .slice a n c]] w1 fun e w' => e = .returned (.int .i64 r1) ∧ Below w1.heap.size w1 w') :
    Calls Tryz.prog 64 #[.agg #[.int .i64 W, .int .i64 H, .slice a n c], .int .i64 step] w fun e w' =>
      e = .returned (.tuple #[.agg #[.int .i64 0, .int .i64 0, .slice none 0 0], .int .i64 2]) ∧ Below w.heap.size w w' := by
  obtain ⟨W0, hW0⟩ : ∃ W0, (((w.alloc (.cells #[.int .i64 W, .int .i64 H, .slice a n c] 54)).alloc (.cells #[.int .i64 step] 3)).alloc (.cells #[.int .i64 0, .int .i64 0, .slice none 0 0] 54)) = W0 := ⟨_, rfl⟩
  have hB0 : Below w.heap.size w W0 := by rw [← hW0]; exact ((((Below.refl _ w).alloc (Nat.le_refl _) _).alloc (by simp) _).alloc (by simp <;> omega) _)
  have hS0 : W0.heap.size = w.heap.size + 3 := by rw [← hW0]; simp
  have b0c0 : W0.cell? ⟨w.heap.size, 0, none⟩ = some (.int .i64 W) := by rw [← hW0]; simp [go_sem]
  have b0c1 : W0.cell? ⟨w.heap.size, 1, none⟩ = some (.int .i64 H) := by rw [← hW0]; simp [go_sem]
  have b0c2 : W0.cell? ⟨w.heap.size, 2, none⟩ = some (.slice a n c) := by rw [← hW0]; simp [go_sem]
  have b1c0 : W0.cell? ⟨w.heap.size + 1, 0, none⟩ = some (.int .i64 step) := by rw [← hW0]; simp [go_sem]
  have bz0 : W0.heap[w.heap.size + 1 + 1]? = some (.cells #[.int .i64 0, .int .i64 0, .slice none 0 0] 54 (0, 0)) := by rw [← hW0]; have h := blk_alloc_new ((w.alloc (.cells #[.int .i64 W, .int .i64 H, .slice a n c] 54)).alloc (.cells #[.int .i64 step] 3)) (.cells #[.int .i64 0, .int .i64 0, .slice none 0 0] 54); simpa using h
  have HB0 := Lib.hid hB0
  have HS0 := Lib.hid hS0
  have HZB := Lib.hid bz0
  have HR := Lib.hid hr
  have HKA : Hid (∀ w1 : World, Blw (w.heap.size + 3) W0 w1 → Calls Tryz.prog 47 #[.agg #[.int .i64 W, .int .i64 H, .slice a n c]] w1 fun e w' => e = .returned (.int .i64 r1) ∧ Below (w.heap.size + 3) W0 w') := Lib.hid fun w1 (h : Below (w.heap.size + 3) W0 w1) => by
    have h1 := h.size
    exact (hC w1 (hB0.trans (h.mono (by omega)))).mono fun e w' ⟨he, hw⟩ => ⟨he, h.trans (hw.mono (by omega))⟩
  have hR : Blw (w.heap.size + 3) W0 W0.drew := show Below _ _ _ from (Below.refl (w.heap.size + 3) W0).drew
  clear hr hC hB0 bz0
  go_enter Tryz.func64, Tryz.ntmps64
  go_upto_region 1 with fail
  try rw [hW0]
  clear hW0
  go_region_held3 (fun w' => w'.cell? ⟨w.heap.size, 0, none⟩ = some (.int .i64 W) ∧ w'.cell? ⟨w.heap.size, 1, none⟩ = some (.int .i64 H) ∧ w'.cell? ⟨w.heap.size, 2, none⟩ = some (.slice a n c) ∧ w'.cell? ⟨w.heap.size + 1, 0, none⟩ = some (.int .i64 step) ∧ Blw (w.heap.size + 3) W0 w')
    (first
      | (go_split_ands; refine ⟨?_, ?_, ?_, ?_, ?_⟩ <;> first | assumption | exact hb1 | ((rw [hb1.cell (by simp; try omega)]; assumption)))
      | (go_split_ands; refine ⟨?_, ?_, ?_, ?_, ?_⟩ <;> first | ((rw [(hb1.alloc (by have := hb1.size; have := HS0.out; omega) _).cell (by simp; try omega)]; assumption)) | exact (hb1.alloc (by have := hb1.size; have := HS0.out; omega) _ : Below _ _ _))
      | go_keep)
    (first
      | (go_at_call 47; refine (HKA.out _ ?_).mono ?_; rotate_left 1; rintro e w' ⟨rfl, hb1⟩; rotate_left 1; (simp [*]))
      | (go_at_call 129; refine (checkSide_any _ _).mono ?_; rintro e w9 ⟨rfl, rfl⟩)
      | ((go_at_call 109; refine (first_any _ 0 2 2 [r1, rangeErr step 1 64] rfl (by omega) _ ?_).mono ?_; rotate_left 1; rintro e w' ⟨rfl, rfl⟩; rw [HR.out]; rotate_left 1; (intro j hj; match j, hj with | 0, _ => simp [go_sem] | 1, _ => simp [go_sem]))))
  obtain ⟨W1, hW1⟩ : ∃ W1, w'.alloc (.cells #[.int .i64 r1, .int .i64 (rangeErr step 1 64)] 26) = W1 := ⟨_, rfl⟩
  have hb3 : Below (w.heap.size + 3) W0 W1 := by rw [← hW1]; exact hb1.alloc (by have := hb1.size; have := HS0.out; omega) _
  rw [hW1]
  clear hW1 hb1
  have hHS := HS0.out
  have u0 := (hb3.cell (p := ⟨w.heap.size, 0, none⟩) (by show w.heap.size < _; omega)).trans b0c0
  have u1 := (hb3.cell (p := ⟨w.heap.size, 1, none⟩) (by show w.heap.size < _; omega)).trans b0c1
  have u2 := (hb3.cell (p := ⟨w.heap.size + 1, 0, none⟩) (by show w.heap.size + 1 < _; omega)).trans b1c0
  have bP := (hb3.block (w.heap.size + 1 + 1) (by omega)).trans HZB.out
  have q0 : W1.frozen? ⟨w.heap.size + 1 + 1, 0, none⟩ = false := by simp [World.frozen?, bP]
  have q1 : W1.frozen? ⟨w.heap.size + 1 + 1, 1, none⟩ = false := by simp [World.frozen?, bP]
  have q2 : W1.frozen? ⟨w.heap.size + 1 + 1, 2, none⟩ = false := by simp [World.frozen?, bP]
  have p0 : W1.cell? ⟨w.heap.size + 1 + 1, 0, none⟩ = some (.int .i64 0) := by rw [cell_of_row W1 _ 0 _ _ (0, 0) bP]; rfl
  have p1 : W1.cell? ⟨w.heap.size + 1 + 1, 1, none⟩ = some (.int .i64 0) := by rw [cell_of_row W1 _ 1 _ _ (0, 0) bP]; rfl
  have p2 : W1.cell? ⟨w.heap.size + 1 + 1, 2, none⟩ = some (.slice none 0 0) := by rw [cell_of_row W1 _ 2 _ _ (0, 0) bP]; rfl
  have HBP := Lib.hid bP
  clear bP
  subst hr0
  have hz : ¬ (step = 0) := by omega
  have hz1 : (step == 0) = false := by simp [hz]
  by_cases h1 : W % step = 0
  · have h2 : H % step ≠ 0 := fun h => hne ⟨h1, h⟩
    have e0 : (W % step != 0) = false := by simp [h1]
    have e1 : (H % step != 0) = true := by simp [h2]
    have w1 : IntKind.i64.wrap (W % step) = W % step := by rw [h1]; rfl
    have w2 : IntKind.i64.wrap (H % step) = H % step := emod_in _ _ hhh (by omega)
    clear h1 h2 hne
    go_wp2_with fail
    obtain ⟨WF, hWF⟩ : ∃ WF, (((W1.setCell ⟨w.heap.size + 1 + 1, 0, none⟩ (.int .i64 0)).setCell ⟨w.heap.size + 1 + 1, 1, none⟩ (.int .i64 0)).setCell ⟨w.heap.size + 1 + 1, 2, none⟩ (.slice none 0 0)) = WF := ⟨_, rfl⟩
    have rF : WF.heap[w.heap.size + 1 + 1]? = some (.cells #[.int .i64 0, .int .i64 0, .slice none 0 0] 54 (0, 0)) := by rw [← hWF]; exact blk_set3 HBP.out _ _ _
    have bF : Below w.heap.size w WF := by rw [← hWF]; exact below_set3 (HB0.out.trans (hb3.mono (by omega))) (by omega) _ _ _
    rw [hWF]
    exact bodyPost_ret (v := .tuple #[.agg #[.int .i64 0, .int .i64 0, .slice none 0 0], .int .i64 2]) (results_row_tmp Tryz.results64 _ _ (w.heap.size + 1 + 1) 54 _ (0, 0) _ rfl rF Tryz.underlying54 rfl (by kernel_rfl)) rfl ⟨rfl, bF⟩
  · have e0 : (W % step != 0) = true := by simp [h1]
    have w1 : IntKind.i64.wrap (W % step) = W % step := emod_in _ _ hww (by omega)
    clear h1 hne
    go_wp2_with fail
    obtain ⟨WF, hWF⟩ : ∃ WF, (((W1.setCell ⟨w.heap.size + 1 + 1, 0, none⟩ (.int .i64 0)).setCell ⟨w.heap.size + 1 + 1, 1, none⟩ (.int .i64 0)).setCell ⟨w.heap.size + 1 + 1, 2, none⟩ (.slice none 0 0)) = WF := ⟨_, rfl⟩
    have rF : WF.heap[w.heap.size + 1 + 1]? = some (.cells #[.int .i64 0, .int .i64 0, .slice none 0 0] 54 (0, 0)) := by rw [← hWF]; exact blk_set3 HBP.out _ _ _
    have bF : Below w.heap.size w WF := by rw [← hWF]; exact below_set3 (HB0.out.trans (hb3.mono (by omega))) (by omega) _ _ _
    rw [hWF]
    exact bodyPost_ret (v := .tuple #[.agg #[.int .i64 0, .int .i64 0, .slice none 0 0], .int .i64 2]) (results_row_tmp Tryz.results64 _ _ (w.heap.size + 1 + 1) 54 _ (0, 0) _ rfl rF Tryz.underlying54 rfl (by kernel_rfl)) rfl ⟨rfl, bF⟩
end Go.Proofs.YtfdkmmllemkogaaGreatDoor

/-
  What Scaled, Spread and Binned answer for a map, numbers, a share or a step with an error.
-/
namespace Go.Proofs.YtfdkmmllemkogaaGreatDoor
open Go.RowKit
set_option linter.unusedVariables false
set_option linter.unusedSimpArgs false

set_option maxRecDepth 100000 in
set_option maxHeartbeats 6400000 in
theorem scaled_bad (W H : Int) (a : Option Addr) (n c : Nat) (num den : Int) (r1 r : Int) (hr : firstNZ [r1, rangeErr num (-1000) 1000, rangeErr den 1 1000] = r) (hr0 : r ≠ 0) (w : World)
    (hC : ∀ w1 : World, Below w.heap.size w w1 → Calls Tryz.prog 47 #[.agg #[.int .i64 W, .int .i64 H, .slice a n c]] w1 fun e w' => e = .returned (.int .i64 r1) ∧ Below w1.heap.size w1 w') :
    Calls Tryz.prog 62 #[.agg #[.int .i64 W, .int .i64 H, .slice a n c], .int .i64 num, .int .i64 den] w fun e w' =>
      e = .returned (.tuple #[.agg #[.int .i64 0, .int .i64 0, .slice none 0 0], .int .i64 r]) ∧ Below w.heap.size w w' := by
  obtain ⟨W0, hW0⟩ : ∃ W0, ((((w.alloc (.cells #[.int .i64 W, .int .i64 H, .slice a n c] 54)).alloc (.cells #[.int .i64 num] 3)).alloc (.cells #[.int .i64 den] 3)).alloc (.cells #[.int .i64 0, .int .i64 0, .slice none 0 0] 54)) = W0 := ⟨_, rfl⟩
  have hB0 : Below w.heap.size w W0 := by rw [← hW0]; exact (((((Below.refl _ w).alloc (Nat.le_refl _) _).alloc (by simp) _).alloc (by simp <;> omega) _).alloc (by simp <;> omega) _)
  have hS0 : W0.heap.size = w.heap.size + 4 := by rw [← hW0]; simp
  have b0c0 : W0.cell? ⟨w.heap.size, 0, none⟩ = some (.int .i64 W) := by rw [← hW0]; simp [go_sem]
  have b0c1 : W0.cell? ⟨w.heap.size, 1, none⟩ = some (.int .i64 H) := by rw [← hW0]; simp [go_sem]
  have b0c2 : W0.cell? ⟨w.heap.size, 2, none⟩ = some (.slice a n c) := by rw [← hW0]; simp [go_sem]
  have b1c0 : W0.cell? ⟨w.heap.size + 1, 0, none⟩ = some (.int .i64 num) := by rw [← hW0]; simp [go_sem]
  have b2c0 : W0.cell? ⟨w.heap.size + 1 + 1, 0, none⟩ = some (.int .i64 den) := by rw [← hW0]; simp [go_sem]
  have bz0 : W0.heap[w.heap.size + 1 + 1 + 1]? = some (.cells #[.int .i64 0, .int .i64 0, .slice none 0 0] 54 (0, 0)) := by rw [← hW0]; have h := blk_alloc_new (((w.alloc (.cells #[.int .i64 W, .int .i64 H, .slice a n c] 54)).alloc (.cells #[.int .i64 num] 3)).alloc (.cells #[.int .i64 den] 3)) (.cells #[.int .i64 0, .int .i64 0, .slice none 0 0] 54); simpa using h
  have HB0 := Lib.hid hB0
  have HS0 := Lib.hid hS0
  have HZB := Lib.hid bz0
  have HR := Lib.hid hr
  have HKA : Hid (∀ w1 : World, Blw (w.heap.size + 4) W0 w1 → Calls Tryz.prog 47 #[.agg #[.int .i64 W, .int .i64 H, .slice a n c]] w1 fun e w' => e = .returned (.int .i64 r1) ∧ Below (w.heap.size + 4) W0 w') := Lib.hid fun w1 (h : Below (w.heap.size + 4) W0 w1) => by
    have h1 := h.size
    exact (hC w1 (hB0.trans (h.mono (by omega)))).mono fun e w' ⟨he, hw⟩ => ⟨he, h.trans (hw.mono (by omega))⟩
  have hR : Blw (w.heap.size + 4) W0 W0.drew := show Below _ _ _ from (Below.refl (w.heap.size + 4) W0).drew
  clear hr hC hB0 bz0
  go_enter Tryz.func62, Tryz.ntmps62
  go_upto_region 1 with fail
  try rw [hW0]
  clear hW0
  go_region_held3 (fun w' => w'.cell? ⟨w.heap.size, 0, none⟩ = some (.int .i64 W) ∧ w'.cell? ⟨w.heap.size, 1, none⟩ = some (.int .i64 H) ∧ w'.cell? ⟨w.heap.size, 2, none⟩ = some (.slice a n c) ∧ w'.cell? ⟨w.heap.size + 1, 0, none⟩ = some (.int .i64 num) ∧ w'.cell? ⟨w.heap.size + 1 + 1, 0, none⟩ = some (.int .i64 den) ∧ Blw (w.heap.size + 4) W0 w')
    (first
      | (go_split_ands; refine ⟨?_, ?_, ?_, ?_, ?_, ?_⟩ <;> first | assumption | exact hb1 | ((rw [hb1.cell (by simp; try omega)]; assumption)))
      | (go_split_ands; refine ⟨?_, ?_, ?_, ?_, ?_, ?_⟩ <;> first | ((rw [(hb1.alloc (by have := hb1.size; have := HS0.out; omega) _).cell (by simp; try omega)]; assumption)) | exact (hb1.alloc (by have := hb1.size; have := HS0.out; omega) _ : Below _ _ _))
      | go_keep)
    (first
      | (go_at_call 47; refine (HKA.out _ ?_).mono ?_; rotate_left 1; rintro e w' ⟨rfl, hb1⟩; rotate_left 1; (simp [*]))
      | (go_at_call_of 110 (Value.int .i64 num); refine (checkRange_any num (-1000) 1000 _).mono ?_; rintro e w9 ⟨rfl, rfl⟩)
      | (go_at_call_of 110 (Value.int .i64 den); refine (checkRange_any den 1 1000 _).mono ?_; rintro e w9 ⟨rfl, rfl⟩)
      | ((go_at_call 109; refine (first_any _ 0 3 3 [r1, rangeErr num (-1000) 1000, rangeErr den 1 1000] rfl (by omega) _ ?_).mono ?_; rotate_left 1; rintro e w' ⟨rfl, rfl⟩; rw [HR.out]; rotate_left 1; (intro j hj; match j, hj with | 0, _ => simp [go_sem] | 1, _ => simp [go_sem] | 2, _ => simp [go_sem]))))
  obtain ⟨W1, hW1⟩ : ∃ W1, w'.alloc (.cells #[.int .i64 r1, .int .i64 (rangeErr num (-1000) 1000), .int .i64 (rangeErr den 1 1000)] 26) = W1 := ⟨_, rfl⟩
  have hb3 : Below (w.heap.size + 4) W0 W1 := by rw [← hW1]; exact hb1.alloc (by have := hb1.size; have := HS0.out; omega) _
  rw [hW1]
  clear hW1 hb1
  have hHS := HS0.out
  have u0 := (hb3.cell (p := ⟨w.heap.size, 0, none⟩) (by show w.heap.size < _; omega)).trans b0c0
  have u1 := (hb3.cell (p := ⟨w.heap.size, 1, none⟩) (by show w.heap.size < _; omega)).trans b0c1
  have u2 := (hb3.cell (p := ⟨w.heap.size + 1, 0, none⟩) (by show w.heap.size + 1 < _; omega)).trans b1c0
  have u3 := (hb3.cell (p := ⟨w.heap.size + 1 + 1, 0, none⟩) (by show w.heap.size + 1 + 1 < _; omega)).trans b2c0
  have bP := (hb3.block (w.heap.size + 1 + 1 + 1) (by omega)).trans HZB.out
  have q0 : W1.frozen? ⟨w.heap.size + 1 + 1 + 1, 0, none⟩ = false := by simp [World.frozen?, bP]
  have q1 : W1.frozen? ⟨w.heap.size + 1 + 1 + 1, 1, none⟩ = false := by simp [World.frozen?, bP]
  have q2 : W1.frozen? ⟨w.heap.size + 1 + 1 + 1, 2, none⟩ = false := by simp [World.frozen?, bP]
  have p0 : W1.cell? ⟨w.heap.size + 1 + 1 + 1, 0, none⟩ = some (.int .i64 0) := by rw [cell_of_row W1 _ 0 _ _ (0, 0) bP]; rfl
  have p1 : W1.cell? ⟨w.heap.size + 1 + 1 + 1, 1, none⟩ = some (.int .i64 0) := by rw [cell_of_row W1 _ 1 _ _ (0, 0) bP]; rfl
  have p2 : W1.cell? ⟨w.heap.size + 1 + 1 + 1, 2, none⟩ = some (.slice none 0 0) := by rw [cell_of_row W1 _ 2 _ _ (0, 0) bP]; rfl
  have HBP := Lib.hid bP
  clear bP
  have e0 : (r != 0) = true := by simp [hr0]
  clear hr0
  go_wp2_with fail
  obtain ⟨WF, hWF⟩ : ∃ WF, (((W1.setCell ⟨w.heap.size + 1 + 1 + 1, 0, none⟩ (.int .i64 0)).setCell ⟨w.heap.size + 1 + 1 + 1, 1, none⟩ (.int .i64 0)).setCell ⟨w.heap.size + 1 + 1 + 1, 2, none⟩ (.slice none 0 0)) = WF := ⟨_, rfl⟩
  have rF : WF.heap[w.heap.size + 1 + 1 + 1]? = some (.cells #[.int .i64 0, .int .i64 0, .slice none 0 0] 54 (0, 0)) := by rw [← hWF]; exact blk_set3 HBP.out _ _ _
  have bF : Below w.heap.size w WF := by rw [← hWF]; exact below_set3 (HB0.out.trans (hb3.mono (by omega))) (by omega) _ _ _
  rw [hWF]
  exact bodyPost_ret (v := .tuple #[.agg #[.int .i64 0, .int .i64 0, .slice none 0 0], .int .i64 r]) (results_row_tmp Tryz.results62 _ _ (w.heap.size + 1 + 1 + 1) 54 _ (0, 0) _ rfl rF Tryz.underlying54 rfl (by kernel_rfl)) rfl ⟨rfl, bF⟩

set_option maxRecDepth 100000 in
set_option maxHeartbeats 6400000 in
theorem spread_bad (W H : Int) (a : Option Addr) (n c : Nat) (share : Int) (r1 r : Int) (hr : firstNZ [r1, rangeErr share 0 4] = r) (hr0 : r ≠ 0) (w : World)
    (hC : ∀ w1 : World, Below w.heap.size w w1 → Calls Tryz.prog 47 #[.agg #[.int .i64 W, .int .i64 H, .slice a n c]] w1 fun e w' => e = .returned (.int .i64 r1) ∧ Below w1.heap.size w1 w') :
    Calls Tryz.prog 63 #[.agg #[.int .i64 W, .int .i64 H, .slice a n c], .int .i64 share] w fun e w' =>
      e = .returned (.tuple #[.agg #[.int .i64 0, .int .i64 0, .slice none 0 0], .int .i64 r]) ∧ Below w.heap.size w w' := by
  obtain ⟨W0, hW0⟩ : ∃ W0, (((w.alloc (.cells #[.int .i64 W, .int .i64 H, .slice a n c] 54)).alloc (.cells #[.int .i64 share] 3)).alloc (.cells #[.int .i64 0, .int .i64 0, .slice none 0 0] 54)) = W0 := ⟨_, rfl⟩
  have hB0 : Below w.heap.size w W0 := by rw [← hW0]; exact ((((Below.refl _ w).alloc (Nat.le_refl _) _).alloc (by simp) _).alloc (by simp <;> omega) _)
  have hS0 : W0.heap.size = w.heap.size + 3 := by rw [← hW0]; simp
  have b0c0 : W0.cell? ⟨w.heap.size, 0, none⟩ = some (.int .i64 W) := by rw [← hW0]; simp [go_sem]
  have b0c1 : W0.cell? ⟨w.heap.size, 1, none⟩ = some (.int .i64 H) := by rw [← hW0]; simp [go_sem]
  have b0c2 : W0.cell? ⟨w.heap.size, 2, none⟩ = some (.slice a n c) := by rw [← hW0]; simp [go_sem]
  have b1c0 : W0.cell? ⟨w.heap.size + 1, 0, none⟩ = some (.int .i64 share) := by rw [← hW0]; simp [go_sem]
  have bz0 : W0.heap[w.heap.size + 1 + 1]? = some (.cells #[.int .i64 0, .int .i64 0, .slice none 0 0] 54 (0, 0)) := by rw [← hW0]; have h := blk_alloc_new ((w.alloc (.cells #[.int .i64 W, .int .i64 H, .slice a n c] 54)).alloc (.cells #[.int .i64 share] 3)) (.cells #[.int .i64 0, .int .i64 0, .slice none 0 0] 54); simpa using h
  have HB0 := Lib.hid hB0
  have HS0 := Lib.hid hS0
  have HZB := Lib.hid bz0
  have HR := Lib.hid hr
  have HKA : Hid (∀ w1 : World, Blw (w.heap.size + 3) W0 w1 → Calls Tryz.prog 47 #[.agg #[.int .i64 W, .int .i64 H, .slice a n c]] w1 fun e w' => e = .returned (.int .i64 r1) ∧ Below (w.heap.size + 3) W0 w') := Lib.hid fun w1 (h : Below (w.heap.size + 3) W0 w1) => by
    have h1 := h.size
    exact (hC w1 (hB0.trans (h.mono (by omega)))).mono fun e w' ⟨he, hw⟩ => ⟨he, h.trans (hw.mono (by omega))⟩
  have hR : Blw (w.heap.size + 3) W0 W0.drew := show Below _ _ _ from (Below.refl (w.heap.size + 3) W0).drew
  clear hr hC hB0 bz0
  go_enter Tryz.func63, Tryz.ntmps63
  go_upto_region 1 with fail
  try rw [hW0]
  clear hW0
  go_region_held3 (fun w' => w'.cell? ⟨w.heap.size, 0, none⟩ = some (.int .i64 W) ∧ w'.cell? ⟨w.heap.size, 1, none⟩ = some (.int .i64 H) ∧ w'.cell? ⟨w.heap.size, 2, none⟩ = some (.slice a n c) ∧ w'.cell? ⟨w.heap.size + 1, 0, none⟩ = some (.int .i64 share) ∧ Blw (w.heap.size + 3) W0 w')
    (first
      | (go_split_ands; refine ⟨?_, ?_, ?_, ?_, ?_⟩ <;> first | assumption | exact hb1 | ((rw [hb1.cell (by simp; try omega)]; assumption)))
      | (go_split_ands; refine ⟨?_, ?_, ?_, ?_, ?_⟩ <;> first | ((rw [(hb1.alloc (by have := hb1.size; have := HS0.out; omega) _).cell (by simp; try omega)]; assumption)) | exact (hb1.alloc (by have := hb1.size; have := HS0.out; omega) _ : Below _ _ _))
      | go_keep)
    (first
      | (go_at_call 47; refine (HKA.out _ ?_).mono ?_; rotate_left 1; rintro e w' ⟨rfl, hb1⟩; rotate_left 1; (simp [*]))
      | (go_at_call_of 110 (Value.int .i64 share); refine (checkRange_any share 0 4 _).mono ?_; rintro e w9 ⟨rfl, rfl⟩)
      | ((go_at_call 109; refine (first_any _ 0 2 2 [r1, rangeErr share 0 4] rfl (by omega) _ ?_).mono ?_; rotate_left 1; rintro e w' ⟨rfl, rfl⟩; rw [HR.out]; rotate_left 1; (intro j hj; match j, hj with | 0, _ => simp [go_sem] | 1, _ => simp [go_sem]))))
  obtain ⟨W1, hW1⟩ : ∃ W1, w'.alloc (.cells #[.int .i64 r1, .int .i64 (rangeErr share 0 4)] 26) = W1 := ⟨_, rfl⟩
  have hb3 : Below (w.heap.size + 3) W0 W1 := by rw [← hW1]; exact hb1.alloc (by have := hb1.size; have := HS0.out; omega) _
  rw [hW1]
  clear hW1 hb1
  have hHS := HS0.out
  have u0 := (hb3.cell (p := ⟨w.heap.size, 0, none⟩) (by show w.heap.size < _; omega)).trans b0c0
  have u1 := (hb3.cell (p := ⟨w.heap.size, 1, none⟩) (by show w.heap.size < _; omega)).trans b0c1
  have u2 := (hb3.cell (p := ⟨w.heap.size + 1, 0, none⟩) (by show w.heap.size + 1 < _; omega)).trans b1c0
  have bP := (hb3.block (w.heap.size + 1 + 1) (by omega)).trans HZB.out
  have q0 : W1.frozen? ⟨w.heap.size + 1 + 1, 0, none⟩ = false := by simp [World.frozen?, bP]
  have q1 : W1.frozen? ⟨w.heap.size + 1 + 1, 1, none⟩ = false := by simp [World.frozen?, bP]
  have q2 : W1.frozen? ⟨w.heap.size + 1 + 1, 2, none⟩ = false := by simp [World.frozen?, bP]
  have p0 : W1.cell? ⟨w.heap.size + 1 + 1, 0, none⟩ = some (.int .i64 0) := by rw [cell_of_row W1 _ 0 _ _ (0, 0) bP]; rfl
  have p1 : W1.cell? ⟨w.heap.size + 1 + 1, 1, none⟩ = some (.int .i64 0) := by rw [cell_of_row W1 _ 1 _ _ (0, 0) bP]; rfl
  have p2 : W1.cell? ⟨w.heap.size + 1 + 1, 2, none⟩ = some (.slice none 0 0) := by rw [cell_of_row W1 _ 2 _ _ (0, 0) bP]; rfl
  have HBP := Lib.hid bP
  clear bP
  have e0 : (r != 0) = true := by simp [hr0]
  clear hr0
  go_wp2_with fail
  obtain ⟨WF, hWF⟩ : ∃ WF, (((W1.setCell ⟨w.heap.size + 1 + 1, 0, none⟩ (.int .i64 0)).setCell ⟨w.heap.size + 1 + 1, 1, none⟩ (.int .i64 0)).setCell ⟨w.heap.size + 1 + 1, 2, none⟩ (.slice none 0 0)) = WF := ⟨_, rfl⟩
  have rF : WF.heap[w.heap.size + 1 + 1]? = some (.cells #[.int .i64 0, .int .i64 0, .slice none 0 0] 54 (0, 0)) := by rw [← hWF]; exact blk_set3 HBP.out _ _ _
  have bF : Below w.heap.size w WF := by rw [← hWF]; exact below_set3 (HB0.out.trans (hb3.mono (by omega))) (by omega) _ _ _
  rw [hWF]
  exact bodyPost_ret (v := .tuple #[.agg #[.int .i64 0, .int .i64 0, .slice none 0 0], .int .i64 r]) (results_row_tmp Tryz.results63 _ _ (w.heap.size + 1 + 1) 54 _ (0, 0) _ rfl rF Tryz.underlying54 rfl (by kernel_rfl)) rfl ⟨rfl, bF⟩

set_option maxRecDepth 100000 in
set_option maxHeartbeats 6400000 in
theorem binned_bad (W H : Int) (a : Option Addr) (n c : Nat) (step : Int) (r1 r : Int) (hr : firstNZ [r1, rangeErr step 1 64] = r) (hr0 : r ≠ 0) (w : World)
    (hC : ∀ w1 : World, Below w.heap.size w w1 → Calls Tryz.prog 47 #[.agg #[.int .i64 W, .int .i64 H, .slice a n c]] w1 fun e w' => e = .returned (.int .i64 r1) ∧ Below w1.heap.size w1 w') :
    Calls Tryz.prog 64 #[.agg #[.int .i64 W, .int .i64 H, .slice a n c], .int .i64 step] w fun e w' =>
      e = .returned (.tuple #[.agg #[.int .i64 0, .int .i64 0, .slice none 0 0], .int .i64 r]) ∧ Below w.heap.size w w' := by
  obtain ⟨W0, hW0⟩ : ∃ W0, (((w.alloc (.cells #[.int .i64 W, .int .i64 H, .slice a n c] 54)).alloc (.cells #[.int .i64 step] 3)).alloc (.cells #[.int .i64 0, .int .i64 0, .slice none 0 0] 54)) = W0 := ⟨_, rfl⟩
  have hB0 : Below w.heap.size w W0 := by rw [← hW0]; exact ((((Below.refl _ w).alloc (Nat.le_refl _) _).alloc (by simp) _).alloc (by simp <;> omega) _)
  have hS0 : W0.heap.size = w.heap.size + 3 := by rw [← hW0]; simp
  have b0c0 : W0.cell? ⟨w.heap.size, 0, none⟩ = some (.int .i64 W) := by rw [← hW0]; simp [go_sem]
  have b0c1 : W0.cell? ⟨w.heap.size, 1, none⟩ = some (.int .i64 H) := by rw [← hW0]; simp [go_sem]
  have b0c2 : W0.cell? ⟨w.heap.size, 2, none⟩ = some (.slice a n c) := by rw [← hW0]; simp [go_sem]
  have b1c0 : W0.cell? ⟨w.heap.size + 1, 0, none⟩ = some (.int .i64 step) := by rw [← hW0]; simp [go_sem]
  have bz0 : W0.heap[w.heap.size + 1 + 1]? = some (.cells #[.int .i64 0, .int .i64 0, .slice none 0 0] 54 (0, 0)) := by rw [← hW0]; have h := blk_alloc_new ((w.alloc (.cells #[.int .i64 W, .int .i64 H, .slice a n c] 54)).alloc (.cells #[.int .i64 step] 3)) (.cells #[.int .i64 0, .int .i64 0, .slice none 0 0] 54); simpa using h
  have HB0 := Lib.hid hB0
  have HS0 := Lib.hid hS0
  have HZB := Lib.hid bz0
  have HR := Lib.hid hr
  have HKA : Hid (∀ w1 : World, Blw (w.heap.size + 3) W0 w1 → Calls Tryz.prog 47 #[.agg #[.int .i64 W, .int .i64 H, .slice a n c]] w1 fun e w' => e = .returned (.int .i64 r1) ∧ Below (w.heap.size + 3) W0 w') := Lib.hid fun w1 (h : Below (w.heap.size + 3) W0 w1) => by
    have h1 := h.size
    exact (hC w1 (hB0.trans (h.mono (by omega)))).mono fun e w' ⟨he, hw⟩ => ⟨he, h.trans (hw.mono (by omega))⟩
  have hR : Blw (w.heap.size + 3) W0 W0.drew := show Below _ _ _ from (Below.refl (w.heap.size + 3) W0).drew
  clear hr hC hB0 bz0
  go_enter Tryz.func64, Tryz.ntmps64
  go_upto_region 1 with fail
  try rw [hW0]
  clear hW0
  go_region_held3 (fun w' => w'.cell? ⟨w.heap.size, 0, none⟩ = some (.int .i64 W) ∧ w'.cell? ⟨w.heap.size, 1, none⟩ = some (.int .i64 H) ∧ w'.cell? ⟨w.heap.size, 2, none⟩ = some (.slice a n c) ∧ w'.cell? ⟨w.heap.size + 1, 0, none⟩ = some (.int .i64 step) ∧ Blw (w.heap.size + 3) W0 w')
    (first
      | (go_split_ands; refine ⟨?_, ?_, ?_, ?_, ?_⟩ <;> first | assumption | exact hb1 | ((rw [hb1.cell (by simp; try omega)]; assumption)))
      | (go_split_ands; refine ⟨?_, ?_, ?_, ?_, ?_⟩ <;> first | ((rw [(hb1.alloc (by have := hb1.size; have := HS0.out; omega) _).cell (by simp; try omega)]; assumption)) | exact (hb1.alloc (by have := hb1.size; have := HS0.out; omega) _ : Below _ _ _))
      | go_keep)
    (first
      | (go_at_call 47; refine (HKA.out _ ?_).mono ?_; rotate_left 1; rintro e w' ⟨rfl, hb1⟩; rotate_left 1; (simp [*]))
      | (go_at_call 129; refine (checkSide_any _ _).mono ?_; rintro e w9 ⟨rfl, rfl⟩)
      | ((go_at_call 109; refine (first_any _ 0 2 2 [r1, rangeErr step 1 64] rfl (by omega) _ ?_).mono ?_; rotate_left 1; rintro e w' ⟨rfl, rfl⟩; rw [HR.out]; rotate_left 1; (intro j hj; match j, hj with | 0, _ => simp [go_sem] | 1, _ => simp [go_sem]))))
  obtain ⟨W1, hW1⟩ : ∃ W1, w'.alloc (.cells #[.int .i64 r1, .int .i64 (rangeErr step 1 64)] 26) = W1 := ⟨_, rfl⟩
  have hb3 : Below (w.heap.size + 3) W0 W1 := by rw [← hW1]; exact hb1.alloc (by have := hb1.size; have := HS0.out; omega) _
  rw [hW1]
  clear hW1 hb1
  have hHS := HS0.out
  have u0 := (hb3.cell (p := ⟨w.heap.size, 0, none⟩) (by show w.heap.size < _; omega)).trans b0c0
  have u1 := (hb3.cell (p := ⟨w.heap.size, 1, none⟩) (by show w.heap.size < _; omega)).trans b0c1
  have u2 := (hb3.cell (p := ⟨w.heap.size + 1, 0, none⟩) (by show w.heap.size + 1 < _; omega)).trans b1c0
  have bP := (hb3.block (w.heap.size + 1 + 1) (by omega)).trans HZB.out
  have q0 : W1.frozen? ⟨w.heap.size + 1 + 1, 0, none⟩ = false := by simp [World.frozen?, bP]
  have q1 : W1.frozen? ⟨w.heap.size + 1 + 1, 1, none⟩ = false := by simp [World.frozen?, bP]
  have q2 : W1.frozen? ⟨w.heap.size + 1 + 1, 2, none⟩ = false := by simp [World.frozen?, bP]
  have p0 : W1.cell? ⟨w.heap.size + 1 + 1, 0, none⟩ = some (.int .i64 0) := by rw [cell_of_row W1 _ 0 _ _ (0, 0) bP]; rfl
  have p1 : W1.cell? ⟨w.heap.size + 1 + 1, 1, none⟩ = some (.int .i64 0) := by rw [cell_of_row W1 _ 1 _ _ (0, 0) bP]; rfl
  have p2 : W1.cell? ⟨w.heap.size + 1 + 1, 2, none⟩ = some (.slice none 0 0) := by rw [cell_of_row W1 _ 2 _ _ (0, 0) bP]; rfl
  have HBP := Lib.hid bP
  clear bP
  have e0 : (r != 0) = true := by simp [hr0]
  clear hr0
  go_wp2_with fail
  obtain ⟨WF, hWF⟩ : ∃ WF, (((W1.setCell ⟨w.heap.size + 1 + 1, 0, none⟩ (.int .i64 0)).setCell ⟨w.heap.size + 1 + 1, 1, none⟩ (.int .i64 0)).setCell ⟨w.heap.size + 1 + 1, 2, none⟩ (.slice none 0 0)) = WF := ⟨_, rfl⟩
  have rF : WF.heap[w.heap.size + 1 + 1]? = some (.cells #[.int .i64 0, .int .i64 0, .slice none 0 0] 54 (0, 0)) := by rw [← hWF]; exact blk_set3 HBP.out _ _ _
  have bF : Below w.heap.size w WF := by rw [← hWF]; exact below_set3 (HB0.out.trans (hb3.mono (by omega))) (by omega) _ _ _
  rw [hWF]
  exact bodyPost_ret (v := .tuple #[.agg #[.int .i64 0, .int .i64 0, .slice none 0 0], .int .i64 r]) (results_row_tmp Tryz.results64 _ _ (w.heap.size + 1 + 1) 54 _ (0, 0) _ rfl rF Tryz.underlying54 rfl (by kernel_rfl)) rfl ⟨rfl, bF⟩

end Go.Proofs.YtfdkmmllemkogaaGreatDoor

/-
  Contracts of the reference's Floor, Round, Power and Scaled.
-/
namespace Go.Proofs.YtfdkmmllemkogaaGreatDoor
open Go.RowKit
set_option linter.unusedVariables false
set_option linter.unusedSimpArgs false

set_option maxHeartbeats 1600000 in
theorem floor_any (a b : Int) (h0 : -1099511627776 ≤ a) (h1 : a ≤ 1099511627776) (h2 : 1 ≤ b) (h3 : b ≤ 1099511627776) (w : World) :
    Calls Tryz.prog 154 #[.int .i64 a, .int .i64 b] w fun e w' => e = .returned (.int .i64 (a / b)) ∧ w = w' := by
  by_cases hn : 0 ≤ a
  · have k1 := Int.emod_add_mul_ediv a b
    have k2 := Int.emod_nonneg a (show b ≠ 0 by omega)
    have k3 : 0 ≤ a / b := Int.ediv_nonneg hn (by omega)
    have k4 : b * (a / b) = a / b * b := Int.mul_comm _ _
    have k5 : a / b ≤ a := Int.ediv_le_self _ hn
    have k6 : 0 ≤ a / b * b := Int.mul_nonneg k3 (by omega)
    have hm : ¬ (a < a / b * b) := by omega
    have w2 : IntKind.i64.wrap (a / b * b) = a / b * b := IntWalk.i64_in _ ⟨by omega, by omega⟩
    clear k1 k2 k4
    go_enter Tryz.func154, Tryz.ntmps154
    go_wp2
    go_ret
    exact ⟨rfl, rfl⟩
  · obtain ⟨f1, f2, f3, f4⟩ := tdiv_neg_floor (show a < 0 by omega) h2
    have k1 := Int.tmod_add_mul_tdiv a b
    have k4 : b * a.tdiv b = a.tdiv b * b := Int.mul_comm _ _
    have k5 : -b < a.tmod b := by
      have := Int.lt_tmod_of_pos a (show 0 < b by omega); omega
    have k6 : a.tmod b ≤ 0 := by
      have h := Int.tmod_nonneg b (show 0 ≤ -a by omega)
      rw [Int.neg_tmod] at h; omega
    have w2 : IntKind.i64.wrap (a.tdiv b * b) = a.tdiv b * b := IntWalk.i64_in _ ⟨by omega, by omega⟩
    by_cases hm : a.tmod b < 0
    · have hc : a < a.tdiv b * b := by omega
      have E := Lib.hid (f1 hm)
      clear f1 f2 k1 k4 k5 k6 hm
      go_enter Tryz.func154, Tryz.ntmps154
      go_wp2
      go_ret
      exact ⟨ret_int E.out, rfl⟩
    · have hc : ¬ (a < a.tdiv b * b) := by omega
      have E := Lib.hid (f2 hm)
      clear f1 f2 k1 k4 k5 k6 hm
      go_enter Tryz.func154, Tryz.ntmps154
      go_wp2
      go_ret
      exact ⟨ret_int E.out, rfl⟩

set_option maxHeartbeats 1600000 in
theorem round_any (a b : Int) (h0 : -1073741824 ≤ a) (h1 : a ≤ 1073741824) (h2 : 1 ≤ b) (h3 : b ≤ 1073741824) (w : World) :
    Calls Tryz.prog 153 #[.int .i64 a, .int .i64 b] w fun e w' => e = .returned (.int .i64 (roundK a b)) ∧ w = w' := by
  have K : Hid (∀ w1 : World, Calls Tryz.prog 154 #[.int .i64 (2 * a + b), .int .i64 (2 * b)] w1 fun e w' => e = .returned (.int .i64 (roundK a b)) ∧ w1 = w') := Lib.hid fun w1 =>
    floor_any (2 * a + b) (2 * b) (by omega) (by omega) (by omega) (by omega) w1
  have i1 : IntKind.i64.wrap (2 * a) = 2 * a := IntWalk.i64_in _ ⟨by omega, by omega⟩
  have i2 : IntKind.i64.wrap (2 * a + b) = 2 * a + b := IntWalk.i64_in _ ⟨by omega, by omega⟩
  have i3 : IntKind.i64.wrap (2 * b) = 2 * b := IntWalk.i64_in _ ⟨by omega, by omega⟩
  go_enter Tryz.func153, Tryz.ntmps153
  go_wp2_with (go_at_call 154; refine (K.out _).mono ?_; rintro e w1 ⟨rfl, rfl⟩)
  go_ret
  exact ⟨rfl, rfl⟩

/-- The first k of a list's integers, changed. -/
def mixF (n : Nat) (ks : List Int) (f : Nat → Int) (k : Nat) : List Int := (List.range n).map (fun j => if j < k then f j else ks[j]?.getD 0)
theorem mixF_zero {n : Nat} {ks : List Int} {f : Nat → Int} (h : ks.length = n) : mixF n ks f 0 = ks := by
  apply List.ext_getElem
  · simp [mixF, h]
  · intro i h1 h2
    simp [mixF, List.getElem?_eq_getElem h2]
theorem mixF_all (n : Nat) (ks : List Int) (f : Nat → Int) : mixF n ks f n = (List.range n).map f := by
  unfold mixF
  refine List.map_congr_left (fun j hj => ?_)
  rw [if_pos (List.mem_range.1 hj)]
theorem mixF_at (n : Nat) (ks : List Int) (f : Nat → Int) (k : Nat) (hk : k < n) : (mixF n ks f k)[k]? = some (ks[k]?.getD 0) := by
  unfold mixF
  rw [List.getElem?_map, List.getElem?_range hk]
  simp
theorem mixF_succ (n : Nat) (ks : List Int) (f : Nat → Int) (k : Nat) (hk : k < n) : ((mixF n ks f k).map (Value.int .i64)).set k (.int .i64 (f k)) = (mixF n ks f (k + 1)).map (Value.int .i64) := by
  apply List.ext_getElem
  · simp [mixF]
  · intro i h1 h2
    have hi : i < n := by simpa [mixF] using h2
    rw [List.getElem_set]
    by_cases h : k = i
    · subst h
      simp [mixF]
    · rw [if_neg h]
      simp only [mixF, List.getElem_map, List.getElem_range]
      by_cases h3 : i < k
      · rw [if_pos h3, if_pos (by omega)]
      · rw [if_neg h3, if_neg (by omega)]

/-- The integers of a scaled map. -/
def scaleL (n : Nat) (ks : List Int) (num den : Int) : List Int := (List.range n).map (fun j => roundK (ks[j]?.getD 0 * num) den)
theorem mul_in {k num : Int} (hk : k.natAbs ≤ 16384) (hn : -1000 ≤ num ∧ num ≤ 1000) : -16384000 ≤ k * num ∧ k * num ≤ 16384000 := by
  have h : (k * num).natAbs ≤ 16384 * 1000 := by
    rw [Int.natAbs_mul]
    exact Nat.mul_le_mul hk (by omega)
  omega

set_option maxRecDepth 100000 in
set_option maxHeartbeats 6400000 in
theorem refScaled_ok (W H : Nat) (b o c n : Nat) (xs : List Nat) (ks : List Int) (num den : Int) (hnum : -1000 ≤ num ∧ num ≤ 1000) (hden : 1 ≤ den ∧ den ≤ 1000) (w : World) (hA : RightMap w W H b o n xs ks) (hb : b < w.heap.size) :
    Calls Tryz.prog 65 #[.agg #[.int .i64 W, .int .i64 H, .slice (some ⟨b, o, none⟩) n c], .int .i64 num, .int .i64 den] w fun e w' =>
      ∃ X Y a2 n2 c2, e = .returned (.tuple #[.agg #[.int .i64 X, .int .i64 Y, .slice a2 n2 c2], .int .i64 (largeErr n (scaleL n ks num den))]) ∧ ResV w' (largeErr n (scaleL n ks num den)) W H (scaleL n ks num den) X Y a2 n2 c2 ∧ Below w.heap.size w w' := by
  have hW : 1 ≤ W ∧ W ≤ 64 := by have := hA.wid; omega
  have hH : 1 ≤ H ∧ H ≤ 64 := by have := hA.hei; omega
  have hN : W * H = n := by have := hA.area; exact_mod_cast this
  have hn1 : 1 ≤ n := by rw [← hN]; exact Nat.mul_pos (by omega) (by omega)
  have hsm : n ≤ 4096 := hA.small
  obtain ⟨W0, hW0⟩ : ∃ W0, (w.alloc (.cells #[.int .i64 W, .int .i64 H, .slice (some ⟨b, o, none⟩) n c] 48)).alloc (.cells #[.int .i64 0, .int .i64 0, .slice none 0 0] 48) = W0 := ⟨_, rfl⟩
  have hB0 : Below w.heap.size w W0 := by rw [← hW0]; exact ((Below.refl _ w).alloc (Nat.le_refl _) _).alloc (by simp) _
  have hS0 : W0.heap.size = w.heap.size + 2 := by rw [← hW0]; simp
  have a0 : W0.cell? ⟨w.heap.size, 0, none⟩ = some (.int .i64 W) := by rw [← hW0]; simp [go_sem]
  have a1 : W0.cell? ⟨w.heap.size, 1, none⟩ = some (.int .i64 H) := by rw [← hW0]; simp [go_sem]
  have a2 : W0.cell? ⟨w.heap.size, 2, none⟩ = some (.slice (some ⟨b, o, none⟩) n c) := by rw [← hW0]; simp [go_sem]
  have bz0 : W0.heap[w.heap.size + 1]? = some (.cells #[.int .i64 0, .int .i64 0, .slice none 0 0] 48 (0, 0)) := by rw [← hW0]; exact blk_alloc_new1 _ _ _
  have KA : Hid (∀ w1 : World, Blw (w.heap.size + 2) W0 w1 → Calls Tryz.prog 143 #[.agg #[.int .i64 W, .int .i64 H, .slice (some ⟨b, o, none⟩) n c]] w1 fun e w' =>
      ∃ v, e = .returned v ∧ w'.ownsRow w1.heap.size 3 1 v n (ks.map (Value.int .i64)) ∧ Blw w1.heap.size w1 w' ∧ Below (w.heap.size + 2) W0 w') := Lib.hid fun w1 (h : Below (w.heap.size + 2) W0 w1) => by
    have h1 := h.size
    have h2 := hB0.trans (h.mono (by omega))
    exact (levels_any W H b o n c xs ks (hA.below h2 hb).toWords hn1 (by omega)).mono fun e w' ⟨v, he, ho, hw⟩ => ⟨v, he, ho, hw, h.trans (hw.mono (by omega))⟩
  have HSA := Lib.hid hA.sizes
  have HLA := Lib.hid hA.lenk
  have HB0 := Lib.hid hB0
  have HS0 := Lib.hid hS0
  have HZB := Lib.hid bz0
  have HN := Lib.hid hN
  clear hA hB0 bz0 hN
  go_enter Tryz.func65, Tryz.ntmps65
  go_upto_region 1 with fail
  try rw [hW0]
  clear hW0
  go_upto_region 2 with (go_at_call 143; refine (KA.out _ (show Below _ _ _ from Below.refl _ _)).mono ?_; rintro e w1 ⟨vA, rfl, hoA, hbA, hb0⟩)
  obtain ⟨ga, ca, rfl, hga1, hga2⟩ := owns_someB hoA hn1
  have hbw : Below (w.heap.size + 2) W0 w1 := hb0
  replace hoA := owns_base hoA (show w.heap.size + 2 ≤ W0.heap.size by omega)
  rw [← mixF_zero (f := fun j => roundK (ks[j]?.getD 0 * num) den) HLA.out] at hoA
  have HOA := Lib.hid hoA
  have HBW := Lib.hid hbw
  clear hoA hbw
  go_wp2_with fail
  go_loopw [9] (fun i wr => ∃ k : Nat, k ≤ n ∧ i = .int .i64 k ∧ wr.ownsRow (w.heap.size + 2) 3 1 (.slice (some ⟨ga, 0, none⟩) n ca) n ((mixF n ks (fun j => roundK (ks[j]?.getD 0 * num) den) k).map (Value.int .i64)) ∧ Below (w.heap.size + 2) W0 wr)
    (fun i _ => n - (intOf i).toNat)
  case atStart => exact ⟨0, Nat.zero_le _, rfl, HOA.out, HBW.out⟩
  case round =>
    obtain ⟨k, hk, rfl, hoA, hbr⟩ := hrel
    by_cases hlt : k < n
    · have x1 : wr.cell? ⟨ga, k, none⟩ = some (.int .i64 (ks[k]?.getD 0)) := owns_cell hoA (by rw [List.getElem?_map, mixF_at n ks _ k hlt]; rfl)
      have x3 := owns_free hoA k
      have hga := (owns_room' hoA)
      have s1 := HSA.out k hlt
      have sm := mul_in s1 hnum
      have hset := owns_set hoA hlt (.int .i64 (roundK (ks[k]?.getD 0 * num) den))
      rw [mixF_succ n ks (fun j => roundK (ks[j]?.getD 0 * num) den) k hlt] at hset
      have hbs := hbr.setCell (p := ⟨ga, k, none⟩) hga.1 (.int .i64 (roundK (ks[k]?.getD 0 * num) den))
      have HSET := Lib.hid hset
      have HBS := Lib.hid hbs
      have KR := Lib.hid (round_any (ks[k]?.getD 0 * num) den (by omega) (by omega) (by omega) (by omega))
      have h4 : (k : Int) < (n : Int) := by omega
      have h5 : (0 : Int) ≤ (k : Int) := by omega
      clear hset hbs hoA hbr
      obtain ⟨u, hu⟩ : ∃ u, ks[k]?.getD 0 = u := ⟨_, rfl⟩
      rw [hu] at x1 s1 sm HSET HBS KR
      have i1 : IntKind.i64.wrap (u * num) = u * num := IntWalk.i64_in _ ⟨by omega, by omega⟩
      clear hu
      go_wp2_with (go_at_call 153; refine (KR.out _).mono ?_; rintro e w9 ⟨rfl, rfl⟩)
      go_roundw
      case rel => exact ⟨k + 1, by omega, by go_num, HSET.out, HBS.out⟩
      case measure => simp [intOf]; omega
    · obtain rfl : n = k := by omega
      rw [mixF_all] at hoA
      replace hoA : _ := (show wr.ownsRow (w.heap.size + 2) 3 1 (.slice (some ⟨ga, 0, none⟩) n ca) n ((scaleL n ks num den).map (Value.int .i64)) from hoA)
      have hb3 := HB0.out.trans (hbr.mono (by omega))
      have hz2 := hbr.size
      have x0 := (hbr.cell (p := ⟨w.heap.size, 0, none⟩) (by show w.heap.size < _; omega)).trans a0
      have x1 := (hbr.cell (p := ⟨w.heap.size, 1, none⟩) (by show w.heap.size < _; omega)).trans a1
      have KM := Lib.hid (made_all W H (some ⟨ga, 0, none⟩) n ca _ (scaleL n ks num den) (by simp [scaleL]) hn1 hsm wr hoA)
      have bR1 := (hbr.block (w.heap.size + 1) (by omega)).trans HZB.out
      have HB3 := Lib.hid hb3
      have HBR1 := Lib.hid bR1
      clear hoA hbr hb3 bR1
      generalize hle : largeErr n (scaleL n ks num den) = r at *
      go_wp2_with ((go_at_call 141; refine KM.out.mono ?_; rintro e w2 ⟨X, Y, a', n', c2', rfl, hres, hb4⟩
                    have bR2 := (hb4.block (w.heap.size + 1) (by omega)).trans HBR1.out
                    have q0 : w2.frozen? ⟨w.heap.size + 1, 0, none⟩ = false := by simp [World.frozen?, bR2]
                    have q1 : w2.frozen? ⟨w.heap.size + 1, 1, none⟩ = false := by simp [World.frozen?, bR2]
                    have q2 : w2.frozen? ⟨w.heap.size + 1, 2, none⟩ = false := by simp [World.frozen?, bR2]
                    have p0 : w2.cell? ⟨w.heap.size + 1, 0, none⟩ = some (.int .i64 0) := by rw [cell_of_row w2 _ 0 _ _ (0, 0) bR2]; rfl
                    have p1 : w2.cell? ⟨w.heap.size + 1, 1, none⟩ = some (.int .i64 0) := by rw [cell_of_row w2 _ 1 _ _ (0, 0) bR2]; rfl
                    have p2 : w2.cell? ⟨w.heap.size + 1, 2, none⟩ = some (.slice none 0 0) := by rw [cell_of_row w2 _ 2 _ _ (0, 0) bR2]; rfl
                    have HR2 := Lib.hid bR2
                    have HRES := Lib.hid hres
                    have HB4 := Lib.hid (HB3.out.trans (hb4.mono (by omega)))
                    clear bR2 hres hb4))
      obtain ⟨WF, hWF⟩ : ∃ WF, (((w2.setCell ⟨w.heap.size + 1, 0, none⟩ (.int .i64 X)).setCell ⟨w.heap.size + 1, 1, none⟩ (.int .i64 Y)).setCell ⟨w.heap.size + 1, 2, none⟩ (.slice a' n' c2')) = WF := ⟨_, rfl⟩
      have rF : WF.heap[w.heap.size + 1]? = some (.cells #[.int .i64 X, .int .i64 Y, .slice a' n' c2'] 48 (0, 0)) := by rw [← hWF]; exact blk_set3 HR2.out _ _ _
      have bF : Below w.heap.size w WF := by rw [← hWF]; exact below_set3 HB4.out (by omega) _ _ _
      have vF : ResV WF r W H (scaleL n ks num den) X Y a' n' c2' := by rw [← hWF]; exact HRES.out.stored HR2.out (OneBlk.set3 _ _ _ _ _)
      rw [hWF]
      subst hle
      exact bodyPost_ret (v := .tuple #[.agg #[.int .i64 X, .int .i64 Y, .slice a' n' c2'], .int .i64 (largeErr n (scaleL n ks num den))]) (results_row_tmp Tryz.results65 _ _ (w.heap.size + 1) 48 _ (0, 0) _ rfl rF Tryz.underlying48 rfl (by kernel_rfl)) rfl ⟨_, _, _, _, _, rfl, vF, bF⟩

end Go.Proofs.YtfdkmmllemkogaaGreatDoor
