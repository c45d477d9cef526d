/-
  What Added answers for maps with an error, and for maps of two sizes.
-/
import Derived.Test.YtfdkmmllemkogaaGreatDoorOBn
import Derived.Test.YtfdkmmllemkogaaGreatDoorOXo
import Derived.Test.YtfdkmmllemkogaaGreatDoorOBy
import Derived.Test.YtfdkmmllemkogaaGreatDoorOBx
import Derived.Test.YtfdkmmllemkogaaGreatDoorOBt
import Derived.Test.YtfdkmmllemkogaaGreatDoorOZd
import Derived.Test.YtfdkmmllemkogaaGreatDoorOXi
namespace Go.Proofs.YtfdkmmllemkogaaGreatDoor
open Go.RowKit
set_option linter.unusedVariables false
set_option linter.unusedSimpArgs false

set_option maxRecDepth 100000 in
set_option maxHeartbeats 6400000 in
theorem added_bad (W H : Int) (a : Option Addr) (n c : Nat) (W2 H2 : Int) (a2 : Option Addr) (n2 c2 : Nat) (r1 r2 r : Int) (hr : firstNZ [r1, r2] = r) (hr0 : r ≠ 0) (w : World)
    (hCa : ∀ w1 : World, Below w.heap.size w w1 → Calls Tryz.prog 47 #[.agg #[.int .i64 W, .int .i64 H, .slice a n c]] w1 fun e w' => e = .returned (.int .i64 r1) ∧ Below w1.heap.size w1 w')
    (hCb : ∀ w1 : World, Below w.heap.size w w1 → Calls Tryz.prog 47 #[.agg #[.int .i64 W2, .int .i64 H2, .slice a2 n2 c2]] w1 fun e w' => e = .returned (.int .i64 r2) ∧ Below w1.heap.size w1 w') :
    Calls Tryz.prog 58 #[.agg #[.int .i64 W, .int .i64 H, .slice a n c], .agg #[.int .i64 W2, .int .i64 H2, .slice a2 n2 c2]] w fun e w' =>
      e = .returned (.tuple #[.agg #[.int .i64 0, .int .i64 0, .slice none 0 0], .int .i64 r]) ∧ Below w.heap.size w w' := by
  obtain ⟨W0, hW0⟩ : ∃ W0, ((w.alloc (.cells #[.int .i64 W, .int .i64 H, .slice a n c] 54)).alloc (.cells #[.int .i64 W2, .int .i64 H2, .slice a2 n2 c2] 54)).alloc (.cells #[.int .i64 0, .int .i64 0, .slice none 0 0] 54) = W0 := ⟨_, rfl⟩
  have hB0 : Below w.heap.size w W0 := by rw [← hW0]; exact (((Below.refl _ w).alloc (Nat.le_refl _) _).alloc (by simp) _).alloc (by simp; omega) _
  have hS0 : W0.heap.size = w.heap.size + 3 := by rw [← hW0]; simp
  have a0 : W0.cell? ⟨w.heap.size, 0, none⟩ = some (.int .i64 W) := by rw [← hW0]; simp [go_sem]
  have a1 : W0.cell? ⟨w.heap.size, 1, none⟩ = some (.int .i64 H) := by rw [← hW0]; simp [go_sem]
  have a2' : W0.cell? ⟨w.heap.size, 2, none⟩ = some (.slice a n c) := by rw [← hW0]; simp [go_sem]
  have c0 : W0.cell? ⟨w.heap.size + 1, 0, none⟩ = some (.int .i64 W2) := by rw [← hW0]; simp [go_sem]
  have c1 : W0.cell? ⟨w.heap.size + 1, 1, none⟩ = some (.int .i64 H2) := by rw [← hW0]; simp [go_sem]
  have c2' : W0.cell? ⟨w.heap.size + 1, 2, none⟩ = some (.slice a2 n2 c2) := by rw [← hW0]; simp [go_sem]
  have bz0 : W0.heap[w.heap.size + 1 + 1]? = some (.cells #[.int .i64 0, .int .i64 0, .slice none 0 0] 54 (0, 0)) := by rw [← hW0]; have h := blk_alloc_new ((w.alloc (.cells #[.int .i64 W, .int .i64 H, .slice a n c] 54)).alloc (.cells #[.int .i64 W2, .int .i64 H2, .slice a2 n2 c2] 54)) (.cells #[.int .i64 0, .int .i64 0, .slice none 0 0] 54); simpa using h
  have HKA : Hid (∀ w1 : World, Blw (w.heap.size + 3) W0 w1 → Calls Tryz.prog 47 #[.agg #[.int .i64 W, .int .i64 H, .slice a n c]] w1 fun e w' => e = .returned (.int .i64 r1) ∧ Below (w.heap.size + 3) W0 w') := Lib.hid fun w1 (h : Below (w.heap.size + 3) W0 w1) => by
    have h1 := h.size
    exact (hCa w1 (hB0.trans (h.mono (by omega)))).mono fun e w' ⟨he, hw⟩ => ⟨he, h.trans (hw.mono (by omega))⟩
  have HKB : Hid (∀ w1 : World, Blw (w.heap.size + 3) W0 w1 → Calls Tryz.prog 47 #[.agg #[.int .i64 W2, .int .i64 H2, .slice a2 n2 c2]] w1 fun e w' => e = .returned (.int .i64 r2) ∧ Below (w.heap.size + 3) W0 w') := Lib.hid fun w1 (h : Below (w.heap.size + 3) W0 w1) => by
    have h1 := h.size
    exact (hCb w1 (hB0.trans (h.mono (by omega)))).mono fun e w' ⟨he, hw⟩ => ⟨he, h.trans (hw.mono (by omega))⟩
  have HB0 := Lib.hid hB0
  have HS0 := Lib.hid hS0
  have HZB := Lib.hid bz0
  have HR := Lib.hid hr
  have hR : Blw (w.heap.size + 3) W0 W0.drew := show Below _ _ _ from (Below.refl (w.heap.size + 3) W0).drew
  clear hCa hCb hB0 hS0 bz0 hr
  go_enter Tryz.func58, Tryz.ntmps58
  go_wp2_with fail
  try rw [hW0]
  clear hW0
  go_region_held3 (fun w' => w'.cell? ⟨w.heap.size, 0, none⟩ = some (.int .i64 W) ∧ w'.cell? ⟨w.heap.size, 1, none⟩ = some (.int .i64 H) ∧ w'.cell? ⟨w.heap.size, 2, none⟩ = some (.slice a n c) ∧
      w'.cell? ⟨w.heap.size + 1, 0, none⟩ = some (.int .i64 W2) ∧ w'.cell? ⟨w.heap.size + 1, 1, none⟩ = some (.int .i64 H2) ∧ w'.cell? ⟨w.heap.size + 1, 2, none⟩ = some (.slice a2 n2 c2) ∧ Blw (w.heap.size + 3) W0 w')
    (first
      | (go_split_ands; refine ⟨?_, ?_, ?_, ?_, ?_, ?_, ?_⟩ <;> first | assumption | exact hb1 | ((rw [hb1.cell (by simp; try omega)]; assumption)))
      | (go_split_ands; refine ⟨?_, ?_, ?_, ?_, ?_, ?_, ?_⟩ <;> first | ((rw [(hb1.alloc (by have := hb1.size; have := HS0.out; omega) _).cell (by simp; try omega)]; assumption)) | exact (hb1.alloc (by have := hb1.size; have := HS0.out; omega) _ : Below _ _ _))
      | go_keep)
    (first
      | (go_at_call_of 47 (Value.agg #[.int .i64 W, .int .i64 H, .slice a n c]); refine (HKA.out _ ?_).mono ?_; rotate_left 1; rintro e w' ⟨rfl, hb1⟩; rotate_left 1; (simp [*]))
      | (go_at_call_of 47 (Value.agg #[.int .i64 W2, .int .i64 H2, .slice a2 n2 c2]); refine (HKB.out _ ?_).mono ?_; rotate_left 1; rintro e w' ⟨rfl, hb1⟩; rotate_left 1; (simp [*]))
      | ((go_at_call 109; refine (first_any _ 0 2 2 [r1, r2] rfl (by omega) _ ?_).mono ?_; rotate_left 1; rintro e w' ⟨rfl, rfl⟩; rw [HR.out]; rotate_left 1; (intro j hj; match j, hj with | 0, _ => simp [go_sem] | 1, _ => simp [go_sem]))))
  have hb2 : Below (w.heap.size + 3) W0 (w'.alloc (.cells #[.int .i64 r1, .int .i64 r2] 26)) := hb1.alloc (by have := hb1.size; have := HS0.out; omega) _
  obtain ⟨W1, hW1⟩ : ∃ W1, w'.alloc (.cells #[.int .i64 r1, .int .i64 r2] 26) = W1 := ⟨_, rfl⟩
  rw [hW1] at hb2 ⊢
  clear hW1
  have hHS := HS0.out
  have a0' := (hb2.cell (p := ⟨w.heap.size, 0, none⟩) (by show w.heap.size < _; omega)).trans a0
  have a1' := (hb2.cell (p := ⟨w.heap.size, 1, none⟩) (by show w.heap.size < _; omega)).trans a1
  have c0' := (hb2.cell (p := ⟨w.heap.size + 1, 0, none⟩) (by show w.heap.size + 1 < _; omega)).trans c0
  have c1' := (hb2.cell (p := ⟨w.heap.size + 1, 1, none⟩) (by show w.heap.size + 1 < _; omega)).trans c1
  have bP := (hb2.block (w.heap.size + 1 + 1) (by omega)).trans HZB.out
  have q0 : W1.frozen? ⟨w.heap.size + 1 + 1, 0, none⟩ = false := by simp [World.frozen?, bP]
  have q1 : W1.frozen? ⟨w.heap.size + 1 + 1, 1, none⟩ = false := by simp [World.frozen?, bP]
  have q2 : W1.frozen? ⟨w.heap.size + 1 + 1, 2, none⟩ = false := by simp [World.frozen?, bP]
  have p0 : W1.cell? ⟨w.heap.size + 1 + 1, 0, none⟩ = some (.int .i64 0) := by rw [cell_of_row W1 _ 0 _ _ (0, 0) bP]; rfl
  have p1 : W1.cell? ⟨w.heap.size + 1 + 1, 1, none⟩ = some (.int .i64 0) := by rw [cell_of_row W1 _ 1 _ _ (0, 0) bP]; rfl
  have p2 : W1.cell? ⟨w.heap.size + 1 + 1, 2, none⟩ = some (.slice none 0 0) := by rw [cell_of_row W1 _ 2 _ _ (0, 0) bP]; rfl
  have HBP := Lib.hid bP
  have HB2 := Lib.hid hb2
  clear bP hb2 hb1 a0 a1 c0 c1
  have e0 : (r != 0) = true := by simp [hr0]
  clear hr0
  go_wp2_with fail
  obtain ⟨WF, hWF⟩ : ∃ WF, (((W1.setCell ⟨w.heap.size + 1 + 1, 0, none⟩ (.int .i64 0)).setCell ⟨w.heap.size + 1 + 1, 1, none⟩ (.int .i64 0)).setCell ⟨w.heap.size + 1 + 1, 2, none⟩ (.slice none 0 0)) = WF := ⟨_, rfl⟩
  have rF : WF.heap[w.heap.size + 1 + 1]? = some (.cells #[.int .i64 0, .int .i64 0, .slice none 0 0] 54 (0, 0)) := by rw [← hWF]; exact blk_set3 HBP.out _ _ _
  have bF : Below w.heap.size w WF := by
    rw [← hWF]
    exact (((HB0.out.trans (HB2.out.mono (by omega))).setCell (p := ⟨w.heap.size + 1 + 1, 0, none⟩) (by dsimp only; omega) _).setCell (p := ⟨w.heap.size + 1 + 1, 1, none⟩) (by dsimp only; omega) _).setCell (p := ⟨w.heap.size + 1 + 1, 2, none⟩) (by dsimp only; omega) _
  rw [hWF]
  exact bodyPost_ret (v := .tuple #[.agg #[.int .i64 0, .int .i64 0, .slice none 0 0], .int .i64 r]) (results_row_tmp Tryz.results58 _ _ (w.heap.size + 1 + 1) 54 _ (0, 0) _ rfl rF Tryz.underlying54 rfl (by kernel_rfl)) rfl ⟨rfl, bF⟩

set_option maxRecDepth 100000 in
set_option maxHeartbeats 6400000 in
theorem added_shape (W H : Int) (a : Option Addr) (n c : Nat) (W2 H2 : Int) (a2 : Option Addr) (n2 c2 : Nat) (r1 r2 r : Int) (hr : firstNZ [r1, r2] = r) (hr0 : r = 0) (hne : ¬ (W = W2 ∧ H = H2)) (w : World)
    (hCa : ∀ w1 : World, Below w.heap.size w w1 → Calls Tryz.prog 47 #[.agg #[.int .i64 W, .int .i64 H, .slice a n c]] w1 fun e w' => e = .returned (.int .i64 r1) ∧ Below w1.heap.size w1 w')
    (hCb : ∀ w1 : World, Below w.heap.size w w1 → Calls Tryz.prog 47 #[.agg #[.int .i64 W2, .int .i64 H2, .slice a2 n2 c2]] w1 fun e w' => e = .returned (.int .i64 r2) ∧ Below w1.heap.size w1 w') :
    Calls Tryz.prog 58 #[.agg #[.int .i64 W, .int .i64 H, .slice a n c], .agg #[.int .i64 W2, .int .i64 H2, .slice a2 n2 c2]] w fun e w' =>
      e = .returned (.tuple #[.agg #[.int .i64 0, .int .i64 0, .slice none 0 0], .int .i64 2]) ∧ Below w.heap.size w w' := by
  obtain ⟨W0, hW0⟩ : ∃ W0, ((w.alloc (.cells #[.int .i64 W, .int .i64 H, .slice a n c] 54)).alloc (.cells #[.int .i64 W2, .int .i64 H2, .slice a2 n2 c2] 54)).alloc (.cells #[.int .i64 0, .int .i64 0, .slice none 0 0] 54) = W0 := ⟨_, rfl⟩
  have hB0 : Below w.heap.size w W0 := by rw [← hW0]; exact (((Below.refl _ w).alloc (Nat.le_refl _) _).alloc (by simp) _).alloc (by simp; omega) _
  have hS0 : W0.heap.size = w.heap.size + 3 := by rw [← hW0]; simp
  have a0 : W0.cell? ⟨w.heap.size, 0, none⟩ = some (.int .i64 W) := by rw [← hW0]; simp [go_sem]
  have a1 : W0.cell? ⟨w.heap.size, 1, none⟩ = some (.int .i64 H) := by rw [← hW0]; simp [go_sem]
  have a2' : W0.cell? ⟨w.heap.size, 2, none⟩ = some (.slice a n c) := by rw [← hW0]; simp [go_sem]
  have c0 : W0.cell? ⟨w.heap.size + 1, 0, none⟩ = some (.int .i64 W2) := by rw [← hW0]; simp [go_sem]
  have c1 : W0.cell? ⟨w.heap.size + 1, 1, none⟩ = some (.int .i64 H2) := by rw [← hW0]; simp [go_sem]
  have c2' : W0.cell? ⟨w.heap.size + 1, 2, none⟩ = some (.slice a2 n2 c2) := by rw [← hW0]; simp [go_sem]
  have bz0 : W0.heap[w.heap.size + 1 + 1]? = some (.cells #[.int .i64 0, .int .i64 0, .slice none 0 0] 54 (0, 0)) := by rw [← hW0]; have h := blk_alloc_new ((w.alloc (.cells #[.int .i64 W, .int .i64 H, .slice a n c] 54)).alloc (.cells #[.int .i64 W2, .int .i64 H2, .slice a2 n2 c2] 54)) (.cells #[.int .i64 0, .int .i64 0, .slice none 0 0] 54); simpa using h
  have HKA : Hid (∀ w1 : World, Blw (w.heap.size + 3) W0 w1 → Calls Tryz.prog 47 #[.agg #[.int .i64 W, .int .i64 H, .slice a n c]] w1 fun e w' => e = .returned (.int .i64 r1) ∧ Below (w.heap.size + 3) W0 w') := Lib.hid fun w1 (h : Below (w.heap.size + 3) W0 w1) => by
    have h1 := h.size
    exact (hCa w1 (hB0.trans (h.mono (by omega)))).mono fun e w' ⟨he, hw⟩ => ⟨he, h.trans (hw.mono (by omega))⟩
  have HKB : Hid (∀ w1 : World, Blw (w.heap.size + 3) W0 w1 → Calls Tryz.prog 47 #[.agg #[.int .i64 W2, .int .i64 H2, .slice a2 n2 c2]] w1 fun e w' => e = .returned (.int .i64 r2) ∧ Below (w.heap.size + 3) W0 w') := Lib.hid fun w1 (h : Below (w.heap.size + 3) W0 w1) => by
    have h1 := h.size
    exact (hCb w1 (hB0.trans (h.mono (by omega)))).mono fun e w' ⟨he, hw⟩ => ⟨he, h.trans (hw.mono (by omega))⟩
  have HB0 := Lib.hid hB0
  have HS0 := Lib.hid hS0
  have HZB := Lib.hid bz0
  have HR := Lib.hid hr
  have hR : Blw (w.heap.size + 3) W0 W0.drew := show Below _ _ _ from (Below.refl (w.heap.size + 3) W0).drew
  clear hCa hCb hB0 hS0 bz0 hr
  go_enter Tryz.func58, Tryz.ntmps58
  go_wp2_with fail
  try rw [hW0]
  clear hW0
  go_region_held3 (fun w' => w'.cell? ⟨w.heap.size, 0, none⟩ = some (.int .i64 W) ∧ w'.cell? ⟨w.heap.size, 1, none⟩ = some (.int .i64 H) ∧ w'.cell? ⟨w.heap.size, 2, none⟩ = some (.slice a n c) ∧
      w'.cell? ⟨w.heap.size + 1, 0, none⟩ = some (.int .i64 W2) ∧ w'.cell? ⟨w.heap.size + 1, 1, none⟩ = some (.int .i64 H2) ∧ w'.cell? ⟨w.heap.size + 1, 2, none⟩ = some (.slice a2 n2 c2) ∧ Blw (w.heap.size + 3) W0 w')
    (first
      | (go_split_ands; refine ⟨?_, ?_, ?_, ?_, ?_, ?_, ?_⟩ <;> first | assumption | exact hb1 | ((rw [hb1.cell (by simp; try omega)]; assumption)))
      | (go_split_ands; refine ⟨?_, ?_, ?_, ?_, ?_, ?_, ?_⟩ <;> first | ((rw [(hb1.alloc (by have := hb1.size; have := HS0.out; omega) _).cell (by simp; try omega)]; assumption)) | exact (hb1.alloc (by have := hb1.size; have := HS0.out; omega) _ : Below _ _ _))
      | go_keep)
    (first
      | (go_at_call_of 47 (Value.agg #[.int .i64 W, .int .i64 H, .slice a n c]); refine (HKA.out _ ?_).mono ?_; rotate_left 1; rintro e w' ⟨rfl, hb1⟩; rotate_left 1; (simp [*]))
      | (go_at_call_of 47 (Value.agg #[.int .i64 W2, .int .i64 H2, .slice a2 n2 c2]); refine (HKB.out _ ?_).mono ?_; rotate_left 1; rintro e w' ⟨rfl, hb1⟩; rotate_left 1; (simp [*]))
      | ((go_at_call 109; refine (first_any _ 0 2 2 [r1, r2] rfl (by omega) _ ?_).mono ?_; rotate_left 1; rintro e w' ⟨rfl, rfl⟩; rw [HR.out]; rotate_left 1; (intro j hj; match j, hj with | 0, _ => simp [go_sem] | 1, _ => simp [go_sem]))))
  have hb2 : Below (w.heap.size + 3) W0 (w'.alloc (.cells #[.int .i64 r1, .int .i64 r2] 26)) := hb1.alloc (by have := hb1.size; have := HS0.out; omega) _
  obtain ⟨W1, hW1⟩ : ∃ W1, w'.alloc (.cells #[.int .i64 r1, .int .i64 r2] 26) = W1 := ⟨_, rfl⟩
  rw [hW1] at hb2 ⊢
  clear hW1
  have hHS := HS0.out
  have a0' := (hb2.cell (p := ⟨w.heap.size, 0, none⟩) (by show w.heap.size < _; omega)).trans a0
  have a1' := (hb2.cell (p := ⟨w.heap.size, 1, none⟩) (by show w.heap.size < _; omega)).trans a1
  have c0' := (hb2.cell (p := ⟨w.heap.size + 1, 0, none⟩) (by show w.heap.size + 1 < _; omega)).trans c0
  have c1' := (hb2.cell (p := ⟨w.heap.size + 1, 1, none⟩) (by show w.heap.size + 1 < _; omega)).trans c1
  have bP := (hb2.block (w.heap.size + 1 + 1) (by omega)).trans HZB.out
  have q0 : W1.frozen? ⟨w.heap.size + 1 + 1, 0, none⟩ = false := by simp [World.frozen?, bP]
  have q1 : W1.frozen? ⟨w.heap.size + 1 + 1, 1, none⟩ = false := by simp [World.frozen?, bP]
  have q2 : W1.frozen? ⟨w.heap.size + 1 + 1, 2, none⟩ = false := by simp [World.frozen?, bP]
  have p0 : W1.cell? ⟨w.heap.size + 1 + 1, 0, none⟩ = some (.int .i64 0) := by rw [cell_of_row W1 _ 0 _ _ (0, 0) bP]; rfl
  have p1 : W1.cell? ⟨w.heap.size + 1 + 1, 1, none⟩ = some (.int .i64 0) := by rw [cell_of_row W1 _ 1 _ _ (0, 0) bP]; rfl
  have p2 : W1.cell? ⟨w.heap.size + 1 + 1, 2, none⟩ = some (.slice none 0 0) := by rw [cell_of_row W1 _ 2 _ _ (0, 0) bP]; rfl
  have HBP := Lib.hid bP
  have HB2 := Lib.hid hb2
  clear bP hb2 hb1 a0 a1 c0 c1
  subst hr0
  by_cases h1 : W = W2
  · subst h1
    have h2 : H ≠ H2 := fun h => hne ⟨rfl, h⟩
    have e0 : (W != W) = false := by simp
    have e1 : (H != H2) = true := by simp [h2]
    clear h2 hne
    go_wp2_with fail
    obtain ⟨WF, hWF⟩ : ∃ WF, (((W1.setCell ⟨w.heap.size + 1 + 1, 0, none⟩ (.int .i64 0)).setCell ⟨w.heap.size + 1 + 1, 1, none⟩ (.int .i64 0)).setCell ⟨w.heap.size + 1 + 1, 2, none⟩ (.slice none 0 0)) = WF := ⟨_, rfl⟩
    have rF : WF.heap[w.heap.size + 1 + 1]? = some (.cells #[.int .i64 0, .int .i64 0, .slice none 0 0] 54 (0, 0)) := by rw [← hWF]; exact blk_set3 HBP.out _ _ _
    have bF : Below w.heap.size w WF := by
      rw [← hWF]
      exact (((HB0.out.trans (HB2.out.mono (by omega))).setCell (p := ⟨w.heap.size + 1 + 1, 0, none⟩) (by dsimp only; omega) _).setCell (p := ⟨w.heap.size + 1 + 1, 1, none⟩) (by dsimp only; omega) _).setCell (p := ⟨w.heap.size + 1 + 1, 2, none⟩) (by dsimp only; omega) _
    rw [hWF]
    exact bodyPost_ret (v := .tuple #[.agg #[.int .i64 0, .int .i64 0, .slice none 0 0], .int .i64 2]) (results_row_tmp Tryz.results58 _ _ (w.heap.size + 1 + 1) 54 _ (0, 0) _ rfl rF Tryz.underlying54 rfl (by kernel_rfl)) rfl ⟨rfl, bF⟩
  · have e0 : (W != W2) = true := by simp [h1]
    clear h1 hne
    go_wp2_with fail
    obtain ⟨WF, hWF⟩ : ∃ WF, (((W1.setCell ⟨w.heap.size + 1 + 1, 0, none⟩ (.int .i64 0)).setCell ⟨w.heap.size + 1 + 1, 1, none⟩ (.int .i64 0)).setCell ⟨w.heap.size + 1 + 1, 2, none⟩ (.slice none 0 0)) = WF := ⟨_, rfl⟩
    have rF : WF.heap[w.heap.size + 1 + 1]? = some (.cells #[.int .i64 0, .int .i64 0, .slice none 0 0] 54 (0, 0)) := by rw [← hWF]; exact blk_set3 HBP.out _ _ _
    have bF : Below w.heap.size w WF := by
      rw [← hWF]
      exact (((HB0.out.trans (HB2.out.mono (by omega))).setCell (p := ⟨w.heap.size + 1 + 1, 0, none⟩) (by dsimp only; omega) _).setCell (p := ⟨w.heap.size + 1 + 1, 1, none⟩) (by dsimp only; omega) _).setCell (p := ⟨w.heap.size + 1 + 1, 2, none⟩) (by dsimp only; omega) _
    rw [hWF]
    exact bodyPost_ret (v := .tuple #[.agg #[.int .i64 0, .int .i64 0, .slice none 0 0], .int .i64 2]) (results_row_tmp Tryz.results58 _ _ (w.heap.size + 1 + 1) 54 _ (0, 0) _ rfl rF Tryz.underlying54 rfl (by kernel_rfl)) rfl ⟨rfl, bF⟩
end Go.Proofs.YtfdkmmllemkogaaGreatDoor

/-
  Contracts of Flipped, Turned and Added for every map: the result, or the error.
-/
namespace Go.Proofs.YtfdkmmllemkogaaGreatDoor
open Go.RowKit
set_option linter.unusedVariables false
set_option linter.unusedSimpArgs false

theorem flipped_res (W H : Int) (a : Option Addr) (n c : Nat) (xs : List Nat) (w : World) (hM : AnyMap w a n c xs) :
    Answers 56 #[.agg #[.int .i64 W, .int .i64 H, .slice a n c]] w (mapErr W H n xs) W H (flipL W.toNat n (xs.map kOf)) := by
  by_cases h0 : mapErr W H n xs = 0
  · obtain ⟨b, o, rfl, hb, hR⟩ := hM.rightK h0
    obtain ⟨Wn, rfl⟩ := Int.eq_ofNat_of_zero_le (show 0 ≤ W by have := hR.wid; omega)
    obtain ⟨Hn, rfl⟩ := Int.eq_ofNat_of_zero_le (show 0 ≤ H by have := hR.hei; omega)
    rw [h0]
    refine (flipped_any Wn Hn b o n c xs _ w hR hb).mono ?_
    rintro e w' ⟨g, rfl, hg, hc, hb'⟩
    refine ⟨_, _, _, _, _, rfl, ResV.some (by simp [flipL]) hR.small (fun j hj => ?_) hg (fun j hj => ?_), hb'⟩
    · unfold flipL; rw [range_get _ _ j hj]; exact ks_at hR.lenk hR.sizes _
    · unfold flipL; rw [range_get _ _ j hj]; exact hc j hj
  · refine (flipped_bad W H a n c _ h0 w (check_of W H a n c xs w hM)).mono ?_
    rintro e w' ⟨rfl, hb'⟩
    exact ⟨_, _, _, _, _, rfl, ResV.none _ _ _ _ _ h0, hb'⟩

theorem turned_res (W H : Int) (a : Option Addr) (n c : Nat) (xs : List Nat) (w : World) (hM : AnyMap w a n c xs) :
    Answers 57 #[.agg #[.int .i64 W, .int .i64 H, .slice a n c]] w (mapErr W H n xs) H W (turnL W.toNat H.toNat n (xs.map kOf)) := by
  by_cases h0 : mapErr W H n xs = 0
  · obtain ⟨b, o, rfl, hb, hR⟩ := hM.rightK h0
    obtain ⟨Wn, rfl⟩ := Int.eq_ofNat_of_zero_le (show 0 ≤ W by have := hR.wid; omega)
    obtain ⟨Hn, rfl⟩ := Int.eq_ofNat_of_zero_le (show 0 ≤ H by have := hR.hei; omega)
    rw [h0]
    refine (turned_any Wn Hn b o n c xs _ w hR hb).mono ?_
    rintro e w' ⟨g, rfl, hg, hc, hb'⟩
    refine ⟨_, _, _, _, _, rfl, ResV.some (by simp [turnL]) hR.small (fun j hj => ?_) hg (fun j hj => ?_), hb'⟩
    · unfold turnL; rw [range_get _ _ j hj]; exact ks_at hR.lenk hR.sizes _
    · unfold turnL; rw [range_get _ _ j hj]; exact hc j hj
  · refine (turned_bad W H a n c _ h0 w (check_of W H a n c xs w hM)).mono ?_
    rintro e w' ⟨rfl, hb'⟩
    exact ⟨_, _, _, _, _, rfl, ResV.none _ _ _ _ _ h0, hb'⟩

/-- The error of a sum of two maps. -/
def addErr (W H : Int) (n : Nat) (xs : List Nat) (W2 H2 : Int) (m : Nat) (ys : List Nat) : Int :=
  if firstNZ [mapErr W H n xs, mapErr W2 H2 m ys] = 0 then if W = W2 ∧ H = H2 then largeErr n (addL n (xs.map kOf) (ys.map kOf)) else 2 else firstNZ [mapErr W H n xs, mapErr W2 H2 m ys]

theorem two_right {w : World} {W H W2 H2 : Int} {a a2 : Option Addr} {n c m c2 : Nat} {xs ys : List Nat} (hM : AnyMap w a n c xs) (hM2 : AnyMap w a2 m c2 ys) (h0 : mapErr W H n xs = 0) (h1 : mapErr W2 H2 m ys = 0) (he : W = W2 ∧ H = H2) : n = m := by
  obtain ⟨b, o, _, _, hR⟩ := hM.rightK h0
  obtain ⟨b2, o2, _, _, hR2⟩ := hM2.rightK h1
  obtain ⟨rfl, rfl⟩ := he
  have e1 := hR.area
  have e2 := hR2.area
  omega

theorem added_res (W H : Int) (a : Option Addr) (n c : Nat) (xs : List Nat) (W2 H2 : Int) (a2 : Option Addr) (m c2 : Nat) (ys : List Nat) (w : World) (hM : AnyMap w a n c xs) (hM2 : AnyMap w a2 m c2 ys) :
    Answers 58 #[.agg #[.int .i64 W, .int .i64 H, .slice a n c], .agg #[.int .i64 W2, .int .i64 H2, .slice a2 m c2]] w (addErr W H n xs W2 H2 m ys) W H (addL n (xs.map kOf) (ys.map kOf)) := by
  unfold addErr
  by_cases h0 : firstNZ [mapErr W H n xs, mapErr W2 H2 m ys] = 0
  · rw [if_pos h0]
    obtain ⟨h1, h2⟩ := firstNZ_two h0
    by_cases he : W = W2 ∧ H = H2
    · rw [if_pos he]
      have hnm := two_right hM hM2 h1 h2 he
      obtain ⟨rfl, rfl⟩ := he
      subst hnm
      obtain ⟨b, o, rfl, hb, hR⟩ := hM.rightK h1
      obtain ⟨b2, o2, rfl, hb2, hR2⟩ := hM2.rightK h2
      obtain ⟨Wn, rfl⟩ := Int.eq_ofNat_of_zero_le (show 0 ≤ W by have := hR.wid; omega)
      obtain ⟨Hn, rfl⟩ := Int.eq_ofNat_of_zero_le (show 0 ≤ H by have := hR.hei; omega)
      unfold largeErr
      by_cases hs : ∀ j, j < n → ((addL n (xs.map kOf) (ys.map kOf))[j]?.getD 0).natAbs ≤ 16384
      · rw [if_pos hs]
        have hall : ∀ j : Nat, ((xs.map kOf)[j]?.getD 0 + (ys.map kOf)[j]?.getD 0 : Int).natAbs ≤ 16384 := fun j => by
          by_cases hj : j < n
          · have h := hs j hj
            unfold addL at h
            rwa [range_get _ _ j hj] at h
          · rw [List.getElem?_eq_none (by have := hR.lenk; omega), List.getElem?_eq_none (by have := hR2.lenk; omega)]; decide
        refine (added_any Wn Hn b o c b2 o2 c2 n xs ys _ _ w hR hR2 hb hb2 hall).mono ?_
        rintro e w' ⟨g, rfl, hg, hc, hb'⟩
        refine ⟨_, _, _, _, _, rfl, ResV.some (by simp [addL]) hR.small hs hg (fun j hj => ?_), hb'⟩
        unfold addL; rw [range_get _ _ j hj]; exact hc j hj
      · rw [if_neg hs]
        refine (added_large Wn Hn b o c b2 o2 c2 n xs ys _ _ w hR hR2 hb hb2 hs).mono ?_
        rintro e w' ⟨rfl, hb'⟩
        exact ⟨_, _, _, _, _, rfl, ResV.none _ _ _ _ _ (by decide), hb'⟩
    · rw [if_neg he]
      refine (added_shape W H a n c W2 H2 a2 m c2 _ _ _ rfl h0 he w (check_of W H a n c xs w hM) (check_of W2 H2 a2 m c2 ys w hM2)).mono ?_
      rintro e w' ⟨rfl, hb'⟩
      exact ⟨_, _, _, _, _, rfl, ResV.none _ _ _ _ _ (by decide), hb'⟩
  · rw [if_neg h0]
    refine (added_bad W H a n c W2 H2 a2 m c2 _ _ _ rfl h0 w (check_of W H a n c xs w hM) (check_of W2 H2 a2 m c2 ys w hM2)).mono ?_
    rintro e w' ⟨rfl, hb'⟩
    exact ⟨_, _, _, _, _, rfl, ResV.none _ _ _ _ _ h0, hb'⟩

/-! ### The reference's -/

theorem refFlipped_res (W H : Int) (a : Option Addr) (n c : Nat) (xs : List Nat) (w : World) (hM : AnyMap w a n c xs) (h0 : mapErr W H n xs = 0) :
    AnswersMap 59 #[.agg #[.int .i64 W, .int .i64 H, .slice a n c]] w W H (flipL W.toNat n (xs.map kOf)) := by
  obtain ⟨b, o, rfl, hb, hR⟩ := hM.rightK h0
  obtain ⟨Wn, rfl⟩ := Int.eq_ofNat_of_zero_le (show 0 ≤ W by have := hR.wid; omega)
  obtain ⟨Hn, rfl⟩ := Int.eq_ofNat_of_zero_le (show 0 ≤ H by have := hR.hei; omega)
  exact refFlipped_any Wn Hn b o n c xs _ w hR hb
theorem refTurned_res (W H : Int) (a : Option Addr) (n c : Nat) (xs : List Nat) (w : World) (hM : AnyMap w a n c xs) (h0 : mapErr W H n xs = 0) :
    AnswersMap 60 #[.agg #[.int .i64 W, .int .i64 H, .slice a n c]] w H W (turnL W.toNat H.toNat n (xs.map kOf)) := by
  obtain ⟨b, o, rfl, hb, hR⟩ := hM.rightK h0
  obtain ⟨Wn, rfl⟩ := Int.eq_ofNat_of_zero_le (show 0 ≤ W by have := hR.wid; omega)
  obtain ⟨Hn, rfl⟩ := Int.eq_ofNat_of_zero_le (show 0 ≤ H by have := hR.hei; omega)
  exact refTurned_any Wn Hn b o n c xs _ w hR hb
theorem refAdded_res (W H : Int) (a : Option Addr) (n c : Nat) (xs : List Nat) (W2 H2 : Int) (a2 : Option Addr) (m c2 : Nat) (ys : List Nat) (w : World) (hM : AnyMap w a n c xs) (hM2 : AnyMap w a2 m c2 ys) (h0 : firstNZ [mapErr W H n xs, mapErr W2 H2 m ys] = 0) :
    Answers 61 #[.agg #[.int .i64 W, .int .i64 H, .slice a n c], .agg #[.int .i64 W2, .int .i64 H2, .slice a2 m c2]] w (addErr W H n xs W2 H2 m ys) W H (addL n (xs.map kOf) (ys.map kOf)) := by
  unfold addErr
  rw [if_pos h0]
  obtain ⟨h1, h2⟩ := firstNZ_two h0
  by_cases he : W = W2 ∧ H = H2
  · rw [if_pos he]
    have hnm := two_right hM hM2 h1 h2 he
    obtain ⟨rfl, rfl⟩ := he
    subst hnm
    obtain ⟨b, o, rfl, hb, hR⟩ := hM.rightK h1
    obtain ⟨b2, o2, rfl, hb2, hR2⟩ := hM2.rightK h2
    obtain ⟨Wn, rfl⟩ := Int.eq_ofNat_of_zero_le (show 0 ≤ W by have := hR.wid; omega)
    obtain ⟨Hn, rfl⟩ := Int.eq_ofNat_of_zero_le (show 0 ≤ H by have := hR.hei; omega)
    exact refAdded_ok Wn Hn b o c b2 o2 c2 n xs ys _ _ w hR hR2 hb hb2
  · rw [if_neg he]
    refine (refAdded_shape W H W2 H2 he a a2 n c m c2 w).mono ?_
    rintro e w' ⟨rfl, hb'⟩
    exact ⟨_, _, _, _, _, rfl, ResV.none _ _ _ _ _ (by decide), hb'⟩
end Go.Proofs.YtfdkmmllemkogaaGreatDoor
