/-
  The errors of spans; what Part and Placed answer for a map, a span, a side or a place with an error.
-/
import Derived.Test.YtfdkmmllemkogaaGreatDoorOBx
import Derived.Test.YtfdkmmllemkogaaGreatDoorOBd
import Derived.Test.YtfdkmmllemkogaaGreatDoorODa
import Derived.Test.YtfdkmmllemkogaaGreatDoorOZf
import Derived.Test.YtfdkmmllemkogaaGreatDoorOZh
namespace Go.Proofs.YtfdkmmllemkogaaGreatDoor
open Go.RowKit
set_option linter.unusedVariables false
set_option linter.unusedSimpArgs false

/-- The error of a span that must not be empty. -/
def spanErr (f t l : Int) : Int := if f < 0 ∨ t ≤ f ∨ l < t then 14 else 0

set_option maxHeartbeats 1600000 in
theorem checkSpan_all (f t l : Int) (w : World) :
    Calls Tryz.prog 131 #[.agg #[.int .i64 f, .int .i64 t], .int .i64 l] w fun e w' => e = .returned (.int .i64 (spanErr f t l)) ∧ Below w.heap.size w w' := by
  unfold spanErr
  by_cases h1 : f < 0
  · rw [if_pos (.inl h1)]
    go_enter Tryz.func131, Tryz.ntmps131
    go_wp2
    go_ret
    exact ⟨rfl, (Below.refl _ w).alloc (Nat.le_refl _) _⟩
  by_cases h2 : t ≤ f
  · rw [if_pos (.inr (.inl h2))]
    go_enter Tryz.func131, Tryz.ntmps131
    go_wp2
    go_ret
    exact ⟨rfl, (Below.refl _ w).alloc (Nat.le_refl _) _⟩
  by_cases h3 : l < t
  · rw [if_pos (.inr (.inr h3))]
    go_enter Tryz.func131, Tryz.ntmps131
    go_wp2
    go_ret
    exact ⟨rfl, (Below.refl _ w).alloc (Nat.le_refl _) _⟩
  · rw [if_neg (by omega)]
    go_enter Tryz.func131, Tryz.ntmps131
    go_wp2
    go_ret
    exact ⟨rfl, (Below.refl _ w).alloc (Nat.le_refl _) _⟩

set_option maxHeartbeats 1600000 in
theorem checkFull_all (f t l : Int) (w : World) :
    Calls Tryz.prog 52 #[.agg #[.int .i64 f, .int .i64 t], .int .i64 l] w fun e w' => e = .returned (.int .i64 (spanErr f t l)) ∧ Below w.heap.size w w' := by
  unfold spanErr
  by_cases h1 : f < 0
  · rw [if_pos (.inl h1)]
    go_enter Tryz.func52, Tryz.ntmps52
    go_wp2_with (go_at_call 42; refine (when_any _ _ _).mono ?_; rintro e w0 ⟨rfl, rfl⟩)
    go_ret
    exact ⟨rfl, (Below.refl _ w).alloc (Nat.le_refl _) _⟩
  by_cases h2 : t ≤ f
  · rw [if_pos (.inr (.inl h2))]
    go_enter Tryz.func52, Tryz.ntmps52
    go_wp2_with (go_at_call 42; refine (when_any _ _ _).mono ?_; rintro e w0 ⟨rfl, rfl⟩)
    go_ret
    exact ⟨rfl, (Below.refl _ w).alloc (Nat.le_refl _) _⟩
  by_cases h3 : l < t
  · rw [if_pos (.inr (.inr h3))]
    go_enter Tryz.func52, Tryz.ntmps52
    go_wp2_with (go_at_call 42; refine (when_any _ _ _).mono ?_; rintro e w0 ⟨rfl, rfl⟩)
    go_ret
    exact ⟨rfl, (Below.refl _ w).alloc (Nat.le_refl _) _⟩
  · rw [if_neg (by omega)]
    go_enter Tryz.func52, Tryz.ntmps52
    go_wp2_with (go_at_call 42; refine (when_any _ _ _).mono ?_; rintro e w0 ⟨rfl, rfl⟩)
    go_ret
    exact ⟨rfl, (Below.refl _ w).alloc (Nat.le_refl _) _⟩

set_option maxRecDepth 100000 in
set_option maxHeartbeats 6400000 in
theorem part_bad (W H : Int) (a : Option Addr) (n c : Nat) (cf ct rf rt : Int) (r : Int) (hr0 : r ≠ 0) (w : World)
    (hC : ∀ w1 : World, Below w.heap.size w w1 → Calls Tryz.prog 47 #[.agg #[.int .i64 W, .int .i64 H, .slice a n c]] w1 fun e w' => e = .returned (.int .i64 r) ∧ Below w1.heap.size w1 w') :
    Calls Tryz.prog 49 #[.agg #[.int .i64 W, .int .i64 H, .slice a n c], .agg #[.int .i64 cf, .int .i64 ct], .agg #[.int .i64 rf, .int .i64 rt]] w fun e w' =>
      e = .returned (.tuple #[.agg #[.int .i64 0, .int .i64 0, .slice none 0 0], .int .i64 r]) ∧ Below w.heap.size w w' := by
  have e0 : (r != 0) = true := by simp [hr0]
  obtain ⟨W0, hW0⟩ : ∃ W0, ((((w.alloc (.cells #[.int .i64 W, .int .i64 H, .slice a n c] 54)).alloc (.cells #[.int .i64 cf, .int .i64 ct] 70)).alloc (.cells #[.int .i64 rf, .int .i64 rt] 70)).alloc (.cells #[.int .i64 0, .int .i64 0, .slice none 0 0] 54)) = W0 := ⟨_, rfl⟩
  have hB0 : Below w.heap.size w W0 := by rw [← hW0]; exact (((((Below.refl _ w).alloc (Nat.le_refl _) _).alloc (by simp) _).alloc (by simp <;> omega) _).alloc (by simp <;> omega) _)
  have hS0 : W0.heap.size = w.heap.size + 4 := by rw [← hW0]; simp
  have b0c0 : W0.cell? ⟨w.heap.size, 0, none⟩ = some (.int .i64 W) := by rw [← hW0]; simp [go_sem]
  have b0c1 : W0.cell? ⟨w.heap.size, 1, none⟩ = some (.int .i64 H) := by rw [← hW0]; simp [go_sem]
  have b0c2 : W0.cell? ⟨w.heap.size, 2, none⟩ = some (.slice a n c) := by rw [← hW0]; simp [go_sem]
  have b1c0 : W0.cell? ⟨w.heap.size + 1, 0, none⟩ = some (.int .i64 cf) := by rw [← hW0]; simp [go_sem]
  have b1c1 : W0.cell? ⟨w.heap.size + 1, 1, none⟩ = some (.int .i64 ct) := by rw [← hW0]; simp [go_sem]
  have b2c0 : W0.cell? ⟨w.heap.size + 1 + 1, 0, none⟩ = some (.int .i64 rf) := by rw [← hW0]; simp [go_sem]
  have b2c1 : W0.cell? ⟨w.heap.size + 1 + 1, 1, none⟩ = some (.int .i64 rt) := by rw [← hW0]; simp [go_sem]
  have bz0 : W0.heap[w.heap.size + 1 + 1 + 1]? = some (.cells #[.int .i64 0, .int .i64 0, .slice none 0 0] 54 (0, 0)) := by rw [← hW0]; have h := blk_alloc_new (((w.alloc (.cells #[.int .i64 W, .int .i64 H, .slice a n c] 54)).alloc (.cells #[.int .i64 cf, .int .i64 ct] 70)).alloc (.cells #[.int .i64 rf, .int .i64 rt] 70)) (.cells #[.int .i64 0, .int .i64 0, .slice none 0 0] 54); simpa using h
  have HC := Lib.hid (hC W0 hB0)
  have HB0 := Lib.hid hB0
  have HZB := Lib.hid bz0
  clear hr0 hC hB0 bz0
  go_enter Tryz.func49, Tryz.ntmps49
  go_upto_region 1 with fail
  try rw [hW0]
  clear hW0
  go_wp2_with (first
    | ((go_at_call 47; refine HC.out.mono ?_; rintro e w1 ⟨rfl, hb1⟩
        have bP := (hb1.block (w.heap.size + 1 + 1 + 1) (by omega)).trans HZB.out
        have q0 : w1.frozen? ⟨w.heap.size + 1 + 1 + 1, 0, none⟩ = false := by simp [World.frozen?, bP]
        have q1 : w1.frozen? ⟨w.heap.size + 1 + 1 + 1, 1, none⟩ = false := by simp [World.frozen?, bP]
        have q2 : w1.frozen? ⟨w.heap.size + 1 + 1 + 1, 2, none⟩ = false := by simp [World.frozen?, bP]
        have p0 : w1.cell? ⟨w.heap.size + 1 + 1 + 1, 0, none⟩ = some (.int .i64 0) := by rw [cell_of_row w1 _ 0 _ _ (0, 0) bP]; rfl
        have p1 : w1.cell? ⟨w.heap.size + 1 + 1 + 1, 1, none⟩ = some (.int .i64 0) := by rw [cell_of_row w1 _ 1 _ _ (0, 0) bP]; rfl
        have p2 : w1.cell? ⟨w.heap.size + 1 + 1 + 1, 2, none⟩ = some (.slice none 0 0) := by rw [cell_of_row w1 _ 2 _ _ (0, 0) bP]; rfl
        have HBP := Lib.hid bP
        clear bP)))
  obtain ⟨WF, hWF⟩ : ∃ WF, (((w1.setCell ⟨w.heap.size + 1 + 1 + 1, 0, none⟩ (.int .i64 0)).setCell ⟨w.heap.size + 1 + 1 + 1, 1, none⟩ (.int .i64 0)).setCell ⟨w.heap.size + 1 + 1 + 1, 2, none⟩ (.slice none 0 0)) = WF := ⟨_, rfl⟩
  have rF : WF.heap[w.heap.size + 1 + 1 + 1]? = some (.cells #[.int .i64 0, .int .i64 0, .slice none 0 0] 54 (0, 0)) := by rw [← hWF]; exact blk_set3 HBP.out _ _ _
  have bF : Below w.heap.size w WF := by rw [← hWF]; exact below_set3 (HB0.out.trans (hb1.mono (by omega))) (by omega) _ _ _
  rw [hWF]
  exact bodyPost_ret (v := .tuple #[.agg #[.int .i64 0, .int .i64 0, .slice none 0 0], .int .i64 r]) (results_row_tmp Tryz.results49 _ _ (w.heap.size + 1 + 1 + 1) 54 _ (0, 0) _ rfl rF Tryz.underlying54 rfl (by kernel_rfl)) rfl ⟨rfl, bF⟩

set_option maxRecDepth 100000 in
set_option maxHeartbeats 6400000 in
theorem part_span (W H : Int) (a : Option Addr) (n c : Nat) (cf ct rf rt : Int) (r : Int) (hr : firstNZ [spanErr cf ct W, spanErr rf rt H] = r) (hr0 : r ≠ 0) (w : World)
    (hC : ∀ w1 : World, Below w.heap.size w w1 → Calls Tryz.prog 47 #[.agg #[.int .i64 W, .int .i64 H, .slice a n c]] w1 fun e w' => e = .returned (.int .i64 0) ∧ Below w1.heap.size w1 w') :
    Calls Tryz.prog 49 #[.agg #[.int .i64 W, .int .i64 H, .slice a n c], .agg #[.int .i64 cf, .int .i64 ct], .agg #[.int .i64 rf, .int .i64 rt]] w fun e w' =>
      e = .returned (.tuple #[.agg #[.int .i64 0, .int .i64 0, .slice none 0 0], .int .i64 r]) ∧ Below w.heap.size w w' := by
  have e0 : (r != 0) = true := by simp [hr0]
  obtain ⟨W0, hW0⟩ : ∃ W0, ((((w.alloc (.cells #[.int .i64 W, .int .i64 H, .slice a n c] 54)).alloc (.cells #[.int .i64 cf, .int .i64 ct] 70)).alloc (.cells #[.int .i64 rf, .int .i64 rt] 70)).alloc (.cells #[.int .i64 0, .int .i64 0, .slice none 0 0] 54)) = W0 := ⟨_, rfl⟩
  have hB0 : Below w.heap.size w W0 := by rw [← hW0]; exact (((((Below.refl _ w).alloc (Nat.le_refl _) _).alloc (by simp) _).alloc (by simp <;> omega) _).alloc (by simp <;> omega) _)
  have hS0 : W0.heap.size = w.heap.size + 4 := by rw [← hW0]; simp
  have b0c0 : W0.cell? ⟨w.heap.size, 0, none⟩ = some (.int .i64 W) := by rw [← hW0]; simp [go_sem]
  have b0c1 : W0.cell? ⟨w.heap.size, 1, none⟩ = some (.int .i64 H) := by rw [← hW0]; simp [go_sem]
  have b0c2 : W0.cell? ⟨w.heap.size, 2, none⟩ = some (.slice a n c) := by rw [← hW0]; simp [go_sem]
  have b1c0 : W0.cell? ⟨w.heap.size + 1, 0, none⟩ = some (.int .i64 cf) := by rw [← hW0]; simp [go_sem]
  have b1c1 : W0.cell? ⟨w.heap.size + 1, 1, none⟩ = some (.int .i64 ct) := by rw [← hW0]; simp [go_sem]
  have b2c0 : W0.cell? ⟨w.heap.size + 1 + 1, 0, none⟩ = some (.int .i64 rf) := by rw [← hW0]; simp [go_sem]
  have b2c1 : W0.cell? ⟨w.heap.size + 1 + 1, 1, none⟩ = some (.int .i64 rt) := by rw [← hW0]; simp [go_sem]
  have bz0 : W0.heap[w.heap.size + 1 + 1 + 1]? = some (.cells #[.int .i64 0, .int .i64 0, .slice none 0 0] 54 (0, 0)) := by rw [← hW0]; have h := blk_alloc_new (((w.alloc (.cells #[.int .i64 W, .int .i64 H, .slice a n c] 54)).alloc (.cells #[.int .i64 cf, .int .i64 ct] 70)).alloc (.cells #[.int .i64 rf, .int .i64 rt] 70)) (.cells #[.int .i64 0, .int .i64 0, .slice none 0 0] 54); simpa using h
  have HC := Lib.hid (hC W0 hB0)
  have HB0 := Lib.hid hB0
  have HS0 := Lib.hid hS0
  have HZB := Lib.hid bz0
  have HR := Lib.hid hr
  have KC : Hid (∀ w1 : World, Blw (w.heap.size + 4) W0 w1 → Calls Tryz.prog 131 #[.agg #[.int .i64 cf, .int .i64 ct], .int .i64 W] w1 fun e w' => e = .returned (.int .i64 (spanErr cf ct W)) ∧ Below (w.heap.size + 4) W0 w') := Lib.hid fun w1 (h : Below (w.heap.size + 4) W0 w1) => by
    have h1 := h.size
    exact (checkSpan_all cf ct W w1).mono fun e w' ⟨he, hw⟩ => ⟨he, h.trans (hw.mono (by omega))⟩
  have KR : Hid (∀ w1 : World, Blw (w.heap.size + 4) W0 w1 → Calls Tryz.prog 131 #[.agg #[.int .i64 rf, .int .i64 rt], .int .i64 H] w1 fun e w' => e = .returned (.int .i64 (spanErr rf rt H)) ∧ Below (w.heap.size + 4) W0 w') := Lib.hid fun w1 (h : Below (w.heap.size + 4) W0 w1) => by
    have h1 := h.size
    exact (checkSpan_all rf rt H w1).mono fun e w' ⟨he, hw⟩ => ⟨he, h.trans (hw.mono (by omega))⟩
  clear hr0 hr hC hB0 bz0
  go_enter Tryz.func49, Tryz.ntmps49
  go_upto_region 1 with fail
  try rw [hW0]
  clear hW0
  go_upto_region 4 with (go_at_call 47; refine HC.out.mono ?_; rintro e w1 ⟨rfl, hb1⟩)
  have hb0 : Below (w.heap.size + 4) W0 w1 := hb1.mono (by omega)
  have hR : Blw (w.heap.size + 4) W0 w1.drew := show Below _ _ _ from hb0.drew
  have hRR : Blw (w.heap.size + 4) W0 w1 := hb0
  have u0 := (hb0.cell (p := ⟨w.heap.size, 0, none⟩) (by show w.heap.size < _; omega)).trans b0c0
  have u1 := (hb0.cell (p := ⟨w.heap.size, 1, none⟩) (by show w.heap.size < _; omega)).trans b0c1
  have u2 := (hb0.cell (p := ⟨w.heap.size + 1, 0, none⟩) (by show w.heap.size + 1 < _; omega)).trans b1c0
  have u3 := (hb0.cell (p := ⟨w.heap.size + 1, 1, none⟩) (by show w.heap.size + 1 < _; omega)).trans b1c1
  have u4 := (hb0.cell (p := ⟨w.heap.size + 1 + 1, 0, none⟩) (by show w.heap.size + 1 + 1 < _; omega)).trans b2c0
  have u5 := (hb0.cell (p := ⟨w.heap.size + 1 + 1, 1, none⟩) (by show w.heap.size + 1 + 1 < _; omega)).trans b2c1
  clear hb1
  go_region_held3 (fun w' => w'.cell? ⟨w.heap.size, 0, none⟩ = some (.int .i64 W) ∧ w'.cell? ⟨w.heap.size, 1, none⟩ = some (.int .i64 H) ∧ w'.cell? ⟨w.heap.size + 1, 0, none⟩ = some (.int .i64 cf) ∧ w'.cell? ⟨w.heap.size + 1, 1, none⟩ = some (.int .i64 ct) ∧ w'.cell? ⟨w.heap.size + 1 + 1, 0, none⟩ = some (.int .i64 rf) ∧ w'.cell? ⟨w.heap.size + 1 + 1, 1, none⟩ = some (.int .i64 rt) ∧ Blw (w.heap.size + 4) W0 w')
    (first
      | (go_split_ands; refine ⟨?_, ?_, ?_, ?_, ?_, ?_, ?_⟩ <;> first | (with_reducible assumption) | exact hb2 | ((rw [hb2.cell (by simp; try omega)]; assumption)))
      | (go_split_ands; refine ⟨?_, ?_, ?_, ?_, ?_, ?_, ?_⟩ <;> first | ((rw [(hb2.alloc (by have := hb2.size; have := HS0.out; omega) _).cell (by simp; try omega)]; assumption)) | exact (hb2.alloc (by have := hb2.size; have := HS0.out; omega) _ : Below _ _ _))
      | go_keep)
    (first
      | (go_at_call_of 131 (Value.agg #[.int .i64 cf, .int .i64 ct]); refine (KC.out _ ?_).mono ?_; rotate_left 1; rintro e w' ⟨rfl, hb2⟩; rotate_left 1; (simp [*]))
      | (go_at_call_of 131 (Value.agg #[.int .i64 rf, .int .i64 rt]); refine (KR.out _ ?_).mono ?_; rotate_left 1; rintro e w' ⟨rfl, hb2⟩; rotate_left 1; (simp [*]))
      | ((go_at_call 109; refine (first_any _ 0 2 2 [spanErr cf ct W, spanErr rf rt H] rfl (by omega) _ ?_).mono ?_; rotate_left 1; rintro e w' ⟨rfl, rfl⟩; rw [HR.out]; rotate_left 1; (intro j hj; match j, hj with | 0, _ => simp [go_sem] | 1, _ => simp [go_sem]))))
  obtain ⟨W1, hW1⟩ : ∃ W1, w'.alloc (.cells #[.int .i64 (spanErr cf ct W), .int .i64 (spanErr rf rt H)] 26) = W1 := ⟨_, rfl⟩
  have hb3 : Below (w.heap.size + 4) W0 W1 := by rw [← hW1]; exact hb2.alloc (by have := hb2.size; have := HS0.out; omega) _
  rw [hW1]
  clear hW1
  have hHS := HS0.out
  have bP := (hb3.block (w.heap.size + 1 + 1 + 1) (by omega)).trans HZB.out
  have q0 : W1.frozen? ⟨w.heap.size + 1 + 1 + 1, 0, none⟩ = false := by simp [World.frozen?, bP]
  have q1 : W1.frozen? ⟨w.heap.size + 1 + 1 + 1, 1, none⟩ = false := by simp [World.frozen?, bP]
  have q2 : W1.frozen? ⟨w.heap.size + 1 + 1 + 1, 2, none⟩ = false := by simp [World.frozen?, bP]
  have p0 : W1.cell? ⟨w.heap.size + 1 + 1 + 1, 0, none⟩ = some (.int .i64 0) := by rw [cell_of_row W1 _ 0 _ _ (0, 0) bP]; rfl
  have p1 : W1.cell? ⟨w.heap.size + 1 + 1 + 1, 1, none⟩ = some (.int .i64 0) := by rw [cell_of_row W1 _ 1 _ _ (0, 0) bP]; rfl
  have p2 : W1.cell? ⟨w.heap.size + 1 + 1 + 1, 2, none⟩ = some (.slice none 0 0) := by rw [cell_of_row W1 _ 2 _ _ (0, 0) bP]; rfl
  have HBP := Lib.hid bP
  clear bP
  clear u0 u1 u2 u3 u4 u5
  go_wp2_with fail
  obtain ⟨WF, hWF⟩ : ∃ WF, (((W1.setCell ⟨w.heap.size + 1 + 1 + 1, 0, none⟩ (.int .i64 0)).setCell ⟨w.heap.size + 1 + 1 + 1, 1, none⟩ (.int .i64 0)).setCell ⟨w.heap.size + 1 + 1 + 1, 2, none⟩ (.slice none 0 0)) = WF := ⟨_, rfl⟩
  have rF : WF.heap[w.heap.size + 1 + 1 + 1]? = some (.cells #[.int .i64 0, .int .i64 0, .slice none 0 0] 54 (0, 0)) := by rw [← hWF]; exact blk_set3 HBP.out _ _ _
  have bF : Below w.heap.size w WF := by rw [← hWF]; exact below_set3 (HB0.out.trans (hb3.mono (by omega))) (by omega) _ _ _
  rw [hWF]
  exact bodyPost_ret (v := .tuple #[.agg #[.int .i64 0, .int .i64 0, .slice none 0 0], .int .i64 r]) (results_row_tmp Tryz.results49 _ _ (w.heap.size + 1 + 1 + 1) 54 _ (0, 0) _ rfl rF Tryz.underlying54 rfl (by kernel_rfl)) rfl ⟨rfl, bF⟩

set_option maxRecDepth 100000 in
set_option maxHeartbeats 6400000 in
theorem placed_bad (W H : Int) (a : Option Addr) (n c : Nat) (ww hh px py : Int) (r1 r : Int) (hr : firstNZ [r1, rangeErr ww 1 64, rangeErr hh 1 64] = r) (hr0 : r ≠ 0) (w : World)
    (hC : ∀ w1 : World, Below w.heap.size w w1 → Calls Tryz.prog 47 #[.agg #[.int .i64 W, .int .i64 H, .slice a n c]] w1 fun e w' => e = .returned (.int .i64 r1) ∧ Below w1.heap.size w1 w') :
    Calls Tryz.prog 50 #[.agg #[.int .i64 W, .int .i64 H, .slice a n c], .int .i64 ww, .int .i64 hh, .agg #[.int .i64 px, .int .i64 py]] w fun e w' =>
      e = .returned (.tuple #[.agg #[.int .i64 0, .int .i64 0, .slice none 0 0], .int .i64 r]) ∧ Below w.heap.size w w' := by
  obtain ⟨W0, hW0⟩ : ∃ W0, (((w.alloc (.cells #[.int .i64 W, .int .i64 H, .slice a n c] 54)).alloc (.cells #[.int .i64 px, .int .i64 py] 50)).alloc (.cells #[.int .i64 0, .int .i64 0, .slice none 0 0] 54)) = W0 := ⟨_, rfl⟩
  have hB0 : Below w.heap.size w W0 := by rw [← hW0]; exact ((((Below.refl _ w).alloc (Nat.le_refl _) _).alloc (by simp) _).alloc (by simp <;> omega) _)
  have hS0 : W0.heap.size = w.heap.size + 3 := by rw [← hW0]; simp
  have b0c0 : W0.cell? ⟨w.heap.size, 0, none⟩ = some (.int .i64 W) := by rw [← hW0]; simp [go_sem]
  have b0c1 : W0.cell? ⟨w.heap.size, 1, none⟩ = some (.int .i64 H) := by rw [← hW0]; simp [go_sem]
  have b0c2 : W0.cell? ⟨w.heap.size, 2, none⟩ = some (.slice a n c) := by rw [← hW0]; simp [go_sem]
  have b1c0 : W0.cell? ⟨w.heap.size + 1, 0, none⟩ = some (.int .i64 px) := by rw [← hW0]; simp [go_sem]
  have b1c1 : W0.cell? ⟨w.heap.size + 1, 1, none⟩ = some (.int .i64 py) := by rw [← hW0]; simp [go_sem]
  have bz0 : W0.heap[w.heap.size + 1 + 1]? = some (.cells #[.int .i64 0, .int .i64 0, .slice none 0 0] 54 (0, 0)) := by rw [← hW0]; have h := blk_alloc_new ((w.alloc (.cells #[.int .i64 W, .int .i64 H, .slice a n c] 54)).alloc (.cells #[.int .i64 px, .int .i64 py] 50)) (.cells #[.int .i64 0, .int .i64 0, .slice none 0 0] 54); simpa using h
  have HC := Lib.hid (hC W0 hB0)
  have HB0 := Lib.hid hB0
  have HZB := Lib.hid bz0
  have HR := Lib.hid hr
  clear hr hC hB0 bz0
  have e0 : (r != 0) = true := by simp [hr0]
  clear hr0
  go_enter Tryz.func50, Tryz.ntmps50
  go_upto_region 1 with fail
  try rw [hW0]
  clear hW0
  go_upto_region 2 with (first
    | ((go_at_call 47; refine HC.out.mono ?_; rintro e w1 ⟨rfl, hb1⟩
        have hs1 := hb1.size))
    | (go_at_call 129; refine (checkSide_any _ _).mono ?_; rintro e w2 ⟨rfl, rfl⟩)
    | ((go_at_call 109; refine (first_any _ 0 3 3 [r1, rangeErr ww 1 64, rangeErr hh 1 64] rfl (by omega) _ ?_).mono ?_; rotate_left 1; rintro e w3 ⟨rfl, rfl⟩; rw [HR.out]; rotate_left 1; (intro j hj; match j, hj with | 0, _ => simp [go_sem] | 1, _ => simp [go_sem] | 2, _ => simp [go_sem]))))
  obtain ⟨W1, hW1⟩ : ∃ W1, w1.alloc (.cells #[.int .i64 r1, .int .i64 (rangeErr ww 1 64), .int .i64 (rangeErr hh 1 64)] 26) = W1 := ⟨_, rfl⟩
  have hb3 : Below W0.heap.size W0 W1 := by rw [← hW1]; exact hb1.alloc hs1 _
  rw [hW1]
  clear hW1 hb1
  have bP := (hb3.block (w.heap.size + 1 + 1) (by omega)).trans HZB.out
  have q0 : W1.frozen? ⟨w.heap.size + 1 + 1, 0, none⟩ = false := by simp [World.frozen?, bP]
  have q1 : W1.frozen? ⟨w.heap.size + 1 + 1, 1, none⟩ = false := by simp [World.frozen?, bP]
  have q2 : W1.frozen? ⟨w.heap.size + 1 + 1, 2, none⟩ = false := by simp [World.frozen?, bP]
  have p0 : W1.cell? ⟨w.heap.size + 1 + 1, 0, none⟩ = some (.int .i64 0) := by rw [cell_of_row W1 _ 0 _ _ (0, 0) bP]; rfl
  have p1 : W1.cell? ⟨w.heap.size + 1 + 1, 1, none⟩ = some (.int .i64 0) := by rw [cell_of_row W1 _ 1 _ _ (0, 0) bP]; rfl
  have p2 : W1.cell? ⟨w.heap.size + 1 + 1, 2, none⟩ = some (.slice none 0 0) := by rw [cell_of_row W1 _ 2 _ _ (0, 0) bP]; rfl
  have HBP := Lib.hid bP
  clear bP
  go_wp2_with fail
  obtain ⟨WF, hWF⟩ : ∃ WF, (((W1.setCell ⟨w.heap.size + 1 + 1, 0, none⟩ (.int .i64 0)).setCell ⟨w.heap.size + 1 + 1, 1, none⟩ (.int .i64 0)).setCell ⟨w.heap.size + 1 + 1, 2, none⟩ (.slice none 0 0)) = WF := ⟨_, rfl⟩
  have rF : WF.heap[w.heap.size + 1 + 1]? = some (.cells #[.int .i64 0, .int .i64 0, .slice none 0 0] 54 (0, 0)) := by rw [← hWF]; exact blk_set3 HBP.out _ _ _
  have bF : Below w.heap.size w WF := by rw [← hWF]; exact below_set3 (HB0.out.trans (hb3.mono (by omega))) (by omega) _ _ _
  rw [hWF]
  exact bodyPost_ret (v := .tuple #[.agg #[.int .i64 0, .int .i64 0, .slice none 0 0], .int .i64 r]) (results_row_tmp Tryz.results50 _ _ (w.heap.size + 1 + 1) 54 _ (0, 0) _ rfl rF Tryz.underlying54 rfl (by kernel_rfl)) rfl ⟨rfl, bF⟩

set_option maxRecDepth 100000 in
set_option maxHeartbeats 6400000 in
theorem placed_span (W H : Int) (a : Option Addr) (n c : Nat) (ww hh px py : Int) (r1 r : Int) (hr : firstNZ [r1, rangeErr ww 1 64, rangeErr hh 1 64] = r) (hr0 : r = 0) (hw : 1 ≤ W ∧ W ≤ 64) (hh' : 1 ≤ H ∧ H ≤ 64) (hww : 1 ≤ ww ∧ ww ≤ 64) (hhh : 1 ≤ hh ∧ hh ≤ 64) (hp : ¬ (0 ≤ px ∧ px ≤ ww - W ∧ 0 ≤ py ∧ py ≤ hh - H)) (w : World)
    (hC : ∀ w1 : World, Below w.heap.size w w1 → Calls Tryz.prog 47 #[.agg #[.int .i64 W, .int .i64 H, .slice a n c]] w1 fun e w' => e = .returned (.int .i64 r1) ∧ Below w1.heap.size w1 w') :
    Calls Tryz.prog 50 #[.agg #[.int .i64 W, .int .i64 H, .slice a n c], .int .i64 ww, .int .i64 hh, .agg #[.int .i64 px, .int .i64 py]] w fun e w' =>
      e = .returned (.tuple #[.agg #[.int .i64 0, .int .i64 0, .slice none 0 0], .int .i64 14]) ∧ Below w.heap.size w w' := by
  obtain ⟨W0, hW0⟩ : ∃ W0, (((w.alloc (.cells #[.int .i64 W, .int .i64 H, .slice a n c] 54)).alloc (.cells #[.int .i64 px, .int .i64 py] 50)).alloc (.cells #[.int .i64 0, .int .i64 0, .slice none 0 0] 54)) = W0 := ⟨_, rfl⟩
  have hB0 : Below w.heap.size w W0 := by rw [← hW0]; exact ((((Below.refl _ w).alloc (Nat.le_refl _) _).alloc (by simp) _).alloc (by simp <;> omega) _)
  have hS0 : W0.heap.size = w.heap.size + 3 := by rw [← hW0]; simp
  have b0c0 : W0.cell? ⟨w.heap.size, 0, none⟩ = some (.int .i64 W) := by rw [← hW0]; simp [go_sem]
  have b0c1 : W0.cell? ⟨w.heap.size, 1, none⟩ = some (.int .i64 H) := by rw [← hW0]; simp [go_sem]
  have b0c2 : W0.cell? ⟨w.heap.size, 2, none⟩ = some (.slice a n c) := by rw [← hW0]; simp [go_sem]
  have b1c0 : W0.cell? ⟨w.heap.size + 1, 0, none⟩ = some (.int .i64 px) := by rw [← hW0]; simp [go_sem]
  have b1c1 : W0.cell? ⟨w.heap.size + 1, 1, none⟩ = some (.int .i64 py) := by rw [← hW0]; simp [go_sem]
  have bz0 : W0.heap[w.heap.size + 1 + 1]? = some (.cells #[.int .i64 0, .int .i64 0, .slice none 0 0] 54 (0, 0)) := by rw [← hW0]; have h := blk_alloc_new ((w.alloc (.cells #[.int .i64 W, .int .i64 H, .slice a n c] 54)).alloc (.cells #[.int .i64 px, .int .i64 py] 50)) (.cells #[.int .i64 0, .int .i64 0, .slice none 0 0] 54); simpa using h
  have HC := Lib.hid (hC W0 hB0)
  have HB0 := Lib.hid hB0
  have HZB := Lib.hid bz0
  have HR := Lib.hid hr
  clear hr hC hB0 bz0
  subst hr0
  go_enter Tryz.func50, Tryz.ntmps50
  go_upto_region 1 with fail
  try rw [hW0]
  clear hW0
  go_upto_region 4 with (first
    | ((go_at_call 47; refine HC.out.mono ?_; rintro e w1 ⟨rfl, hb1⟩
        have hs1 := hb1.size))
    | (go_at_call 129; refine (checkSide_any _ _).mono ?_; rintro e w2 ⟨rfl, rfl⟩)
    | ((go_at_call 109; refine (first_any _ 0 3 3 [r1, rangeErr ww 1 64, rangeErr hh 1 64] rfl (by omega) _ ?_).mono ?_; rotate_left 1; rintro e w3 ⟨rfl, rfl⟩; rw [HR.out]; rotate_left 1; (intro j hj; match j, hj with | 0, _ => simp [go_sem] | 1, _ => simp [go_sem] | 2, _ => simp [go_sem]))))
  obtain ⟨W1, hW1⟩ : ∃ W1, w1.alloc (.cells #[.int .i64 r1, .int .i64 (rangeErr ww 1 64), .int .i64 (rangeErr hh 1 64)] 26) = W1 := ⟨_, rfl⟩
  have hb3 : Below W0.heap.size W0 W1 := by rw [← hW1]; exact hb1.alloc hs1 _
  rw [hW1]
  clear hW1 hb1
  have bP := (hb3.block (w.heap.size + 1 + 1) (by omega)).trans HZB.out
  have q0 : W1.frozen? ⟨w.heap.size + 1 + 1, 0, none⟩ = false := by simp [World.frozen?, bP]
  have q1 : W1.frozen? ⟨w.heap.size + 1 + 1, 1, none⟩ = false := by simp [World.frozen?, bP]
  have q2 : W1.frozen? ⟨w.heap.size + 1 + 1, 2, none⟩ = false := by simp [World.frozen?, bP]
  have p0 : W1.cell? ⟨w.heap.size + 1 + 1, 0, none⟩ = some (.int .i64 0) := by rw [cell_of_row W1 _ 0 _ _ (0, 0) bP]; rfl
  have p1 : W1.cell? ⟨w.heap.size + 1 + 1, 1, none⟩ = some (.int .i64 0) := by rw [cell_of_row W1 _ 1 _ _ (0, 0) bP]; rfl
  have p2 : W1.cell? ⟨w.heap.size + 1 + 1, 2, none⟩ = some (.slice none 0 0) := by rw [cell_of_row W1 _ 2 _ _ (0, 0) bP]; rfl
  have HBP := Lib.hid bP
  clear bP
  have u0 := (hb3.cell (p := ⟨w.heap.size, 0, none⟩) (by show w.heap.size < _; omega)).trans b0c0
  have u1 := (hb3.cell (p := ⟨w.heap.size, 1, none⟩) (by show w.heap.size < _; omega)).trans b0c1
  have u2 := (hb3.cell (p := ⟨w.heap.size + 1, 0, none⟩) (by show w.heap.size + 1 < _; omega)).trans b1c0
  have u3 := (hb3.cell (p := ⟨w.heap.size + 1, 1, none⟩) (by show w.heap.size + 1 < _; omega)).trans b1c1
  by_cases h1 : px < 0
  · go_wp2_with fail
    obtain ⟨WF, hWF⟩ : ∃ WF, (((W1.setCell ⟨w.heap.size + 1 + 1, 0, none⟩ (.int .i64 0)).setCell ⟨w.heap.size + 1 + 1, 1, none⟩ (.int .i64 0)).setCell ⟨w.heap.size + 1 + 1, 2, none⟩ (.slice none 0 0)) = WF := ⟨_, rfl⟩
    have rF : WF.heap[w.heap.size + 1 + 1]? = some (.cells #[.int .i64 0, .int .i64 0, .slice none 0 0] 54 (0, 0)) := by rw [← hWF]; exact blk_set3 HBP.out _ _ _
    have bF : Below w.heap.size w WF := by rw [← hWF]; exact below_set3 (HB0.out.trans (hb3.mono (by omega))) (by omega) _ _ _
    rw [hWF]
    exact bodyPost_ret (v := .tuple #[.agg #[.int .i64 0, .int .i64 0, .slice none 0 0], .int .i64 14]) (results_row_tmp Tryz.results50 _ _ (w.heap.size + 1 + 1) 54 _ (0, 0) _ rfl rF Tryz.underlying54 rfl (by kernel_rfl)) rfl ⟨rfl, bF⟩
  by_cases h2 : ww - W < px
  · go_wp2_with fail
    obtain ⟨WF, hWF⟩ : ∃ WF, (((W1.setCell ⟨w.heap.size + 1 + 1, 0, none⟩ (.int .i64 0)).setCell ⟨w.heap.size + 1 + 1, 1, none⟩ (.int .i64 0)).setCell ⟨w.heap.size + 1 + 1, 2, none⟩ (.slice none 0 0)) = WF := ⟨_, rfl⟩
    have rF : WF.heap[w.heap.size + 1 + 1]? = some (.cells #[.int .i64 0, .int .i64 0, .slice none 0 0] 54 (0, 0)) := by rw [← hWF]; exact blk_set3 HBP.out _ _ _
    have bF : Below w.heap.size w WF := by rw [← hWF]; exact below_set3 (HB0.out.trans (hb3.mono (by omega))) (by omega) _ _ _
    rw [hWF]
    exact bodyPost_ret (v := .tuple #[.agg #[.int .i64 0, .int .i64 0, .slice none 0 0], .int .i64 14]) (results_row_tmp Tryz.results50 _ _ (w.heap.size + 1 + 1) 54 _ (0, 0) _ rfl rF Tryz.underlying54 rfl (by kernel_rfl)) rfl ⟨rfl, bF⟩
  by_cases h3 : py < 0
  · go_wp2_with fail
    obtain ⟨WF, hWF⟩ : ∃ WF, (((W1.setCell ⟨w.heap.size + 1 + 1, 0, none⟩ (.int .i64 0)).setCell ⟨w.heap.size + 1 + 1, 1, none⟩ (.int .i64 0)).setCell ⟨w.heap.size + 1 + 1, 2, none⟩ (.slice none 0 0)) = WF := ⟨_, rfl⟩
    have rF : WF.heap[w.heap.size + 1 + 1]? = some (.cells #[.int .i64 0, .int .i64 0, .slice none 0 0] 54 (0, 0)) := by rw [← hWF]; exact blk_set3 HBP.out _ _ _
    have bF : Below w.heap.size w WF := by rw [← hWF]; exact below_set3 (HB0.out.trans (hb3.mono (by omega))) (by omega) _ _ _
    rw [hWF]
    exact bodyPost_ret (v := .tuple #[.agg #[.int .i64 0, .int .i64 0, .slice none 0 0], .int .i64 14]) (results_row_tmp Tryz.results50 _ _ (w.heap.size + 1 + 1) 54 _ (0, 0) _ rfl rF Tryz.underlying54 rfl (by kernel_rfl)) rfl ⟨rfl, bF⟩
  · have h4 : hh - H < py := by omega
    go_wp2_with fail
    obtain ⟨WF, hWF⟩ : ∃ WF, (((W1.setCell ⟨w.heap.size + 1 + 1, 0, none⟩ (.int .i64 0)).setCell ⟨w.heap.size + 1 + 1, 1, none⟩ (.int .i64 0)).setCell ⟨w.heap.size + 1 + 1, 2, none⟩ (.slice none 0 0)) = WF := ⟨_, rfl⟩
    have rF : WF.heap[w.heap.size + 1 + 1]? = some (.cells #[.int .i64 0, .int .i64 0, .slice none 0 0] 54 (0, 0)) := by rw [← hWF]; exact blk_set3 HBP.out _ _ _
    have bF : Below w.heap.size w WF := by rw [← hWF]; exact below_set3 (HB0.out.trans (hb3.mono (by omega))) (by omega) _ _ _
    rw [hWF]
    exact bodyPost_ret (v := .tuple #[.agg #[.int .i64 0, .int .i64 0, .slice none 0 0], .int .i64 14]) (results_row_tmp Tryz.results50 _ _ (w.heap.size + 1 + 1) 54 _ (0, 0) _ rfl rF Tryz.underlying54 rfl (by kernel_rfl)) rfl ⟨rfl, bF⟩
end Go.Proofs.YtfdkmmllemkogaaGreatDoor

/-
  Contracts of Part and Placed for every map, every spans, sides and place; the reference's.
-/
namespace Go.Proofs.YtfdkmmllemkogaaGreatDoor
open Go.RowKit
set_option linter.unusedVariables false
set_option linter.unusedSimpArgs false

theorem spanErr_zero {f t l : Int} (h : spanErr f t l = 0) : 0 ≤ f ∧ f < t ∧ t ≤ l := by
  unfold spanErr at h
  split at h
  · cases h
  · omega
def partErr (W H : Int) (n : Nat) (xs : List Nat) (cf ct rf rt : Int) : Int := if mapErr W H n xs = 0 then firstNZ [spanErr cf ct W, spanErr rf rt H] else mapErr W H n xs
def partL (W H : Int) (ks : List Int) (cf ct rf rt : Int) : List Int := winL W.toNat H.toNat (ct - cf).toNat ((rt - rf).toNat * (ct - cf).toNat) ks cf rf
def placedOk (W H ww hh px py : Int) : Prop := 0 ≤ px ∧ px ≤ ww - W ∧ 0 ≤ py ∧ py ≤ hh - H
instance (W H ww hh px py : Int) : Decidable (placedOk W H ww hh px py) := by unfold placedOk; infer_instance
def placedErr (W H : Int) (n : Nat) (xs : List Nat) (ww hh px py : Int) : Int :=
  if firstNZ [mapErr W H n xs, rangeErr ww 1 64, rangeErr hh 1 64] = 0 then if placedOk W H ww hh px py then 0 else 14 else firstNZ [mapErr W H n xs, rangeErr ww 1 64, rangeErr hh 1 64]
def placedIL (W H : Int) (ks : List Int) (ww hh px py : Int) : List Int := winL W.toNat H.toNat ww.toNat (hh.toNat * ww.toNat) ks (-px) (-py)

theorem part_res (W H : Int) (a : Option Addr) (n c : Nat) (xs : List Nat) (cf ct rf rt : Int) (w : World) (hM : AnyMap w a n c xs) :
    Answers 49 #[.agg #[.int .i64 W, .int .i64 H, .slice a n c], .agg #[.int .i64 cf, .int .i64 ct], .agg #[.int .i64 rf, .int .i64 rt]] w (partErr W H n xs cf ct rf rt) (ct - cf) (rt - rf) (partL W H (xs.map kOf) cf ct rf rt) := by
  unfold partErr
  by_cases h0 : mapErr W H n xs = 0
  · rw [if_pos h0]
    by_cases h1 : firstNZ [spanErr cf ct W, spanErr rf rt H] = 0
    · rw [h1]
      obtain ⟨h2, h3⟩ := firstNZ_two h1
      obtain ⟨s1, s2, s3⟩ := spanErr_zero h2
      obtain ⟨s4, s5, s6⟩ := spanErr_zero h3
      obtain ⟨b, o, rfl, hb, hR⟩ := hM.rightK h0
      obtain ⟨Wn, rfl⟩ := Int.eq_ofNat_of_zero_le (show 0 ≤ W by have := hR.wid; omega)
      obtain ⟨Hn, rfl⟩ := Int.eq_ofNat_of_zero_le (show 0 ≤ H by have := hR.hei; omega)
      obtain ⟨C0, rfl⟩ := Int.eq_ofNat_of_zero_le s1
      obtain ⟨R0, rfl⟩ := Int.eq_ofNat_of_zero_le s4
      obtain ⟨DW, hDW⟩ := Int.eq_ofNat_of_zero_le (show 0 ≤ ct - C0 by omega)
      obtain ⟨DH, hDH⟩ := Int.eq_ofNat_of_zero_le (show 0 ≤ rt - R0 by omega)
      obtain rfl : ct = (C0 : Int) + (DW : Int) := by omega
      obtain rfl : rt = (R0 : Int) + (DH : Int) := by omega
      have hw := hR.wid
      have hh := hR.hei
      have hm : DW * DH ≤ 4096 := Nat.le_trans (Nat.mul_le_mul (show DW ≤ 64 by omega) (show DH ≤ 64 by omega)) (by decide)
      refine (part_any Wn Hn C0 DW R0 DH (by omega) (by omega) b o c n xs _ w hR hb).mono ?_
      rintro e w' ⟨g, rfl, hg, hc, hb'⟩
      rw [hDW, hDH]
      have hval : ∀ j, j < DW * DH → (partL (Wn : Int) (Hn : Int) (xs.map kOf) C0 ((C0 : Int) + (DW : Int)) R0 ((R0 : Int) + (DH : Int)))[j]?.getD 0 = (xs.map kOf)[(R0 + j / DW) * Wn + (C0 + j % DW)]?.getD 0 := fun j hj => by
        have hDp : 0 < DW := by omega
        have hj1 : j / DW < DH := (Nat.div_lt_iff_lt_mul hDp).2 (by rw [Nat.mul_comm]; exact hj)
        have hj2 : j % DW < DW := Nat.mod_lt _ hDp
        unfold partL winL
        rw [hDW, hDH]
        rw [range_get _ _ j (by show j < DH * DW; rw [Nat.mul_comm]; exact hj)]
        unfold levelK
        simp only [Int.toNat_natCast]
        generalize j / DW = q at *
        generalize j % DW = r at *
        rw [if_pos (by omega)]
        have e1 : ((R0 : Int) + (q : Int)).toNat = R0 + q := by omega
        have e2 : ((C0 : Int) + (r : Int)).toNat = C0 + r := by omega
        rw [e1, e2]
      refine ⟨_, _, _, _, _, rfl, ResV.some ?_ hm (fun j hj => ?_) hg (fun j hj => ?_), hb'⟩
      · unfold partL winL; rw [hDW, hDH, List.length_map, List.length_range]; exact Nat.mul_comm _ _
      · rw [hval j hj]; exact ks_at hR.lenk hR.sizes _
      · rw [hval j hj]; exact hc j hj
    · refine (part_span W H a n c cf ct rf rt _ rfl h1 w (fun w1 h => by rw [← h0]; exact check_of W H a n c xs w hM w1 h)).mono ?_
      rintro e w' ⟨rfl, hb'⟩
      exact ⟨_, _, _, _, _, rfl, ResV.none _ _ _ _ _ h1, hb'⟩
  · rw [if_neg h0]
    refine (part_bad W H a n c cf ct rf rt _ h0 w (check_of W H a n c xs w hM)).mono ?_
    rintro e w' ⟨rfl, hb'⟩
    exact ⟨_, _, _, _, _, rfl, ResV.none _ _ _ _ _ h0, hb'⟩

theorem placed_res (W H : Int) (a : Option Addr) (n c : Nat) (xs : List Nat) (ww hh px py : Int) (w : World) (hM : AnyMap w a n c xs) :
    Answers 50 #[.agg #[.int .i64 W, .int .i64 H, .slice a n c], .int .i64 ww, .int .i64 hh, .agg #[.int .i64 px, .int .i64 py]] w (placedErr W H n xs ww hh px py) ww hh (placedIL W H (xs.map kOf) ww hh px py) := by
  unfold placedErr
  by_cases h0 : firstNZ [mapErr W H n xs, rangeErr ww 1 64, rangeErr hh 1 64] = 0
  · rw [if_pos h0]
    obtain ⟨h1, h2, h3⟩ := firstNZ_three h0
    obtain ⟨b, o, rfl, hb, hR⟩ := hM.rightK h1
    have hw := hR.wid
    have hhe := hR.hei
    have r1 := rangeErr_zero h2
    have r2 := rangeErr_zero h3
    by_cases hp : placedOk W H ww hh px py
    · rw [if_pos hp]
      obtain ⟨p1, p2, p3, p4⟩ := hp
      obtain ⟨Wn, rfl⟩ := Int.eq_ofNat_of_zero_le (show 0 ≤ W by omega)
      obtain ⟨Hn, rfl⟩ := Int.eq_ofNat_of_zero_le (show 0 ≤ H by omega)
      obtain ⟨WW, rfl⟩ := Int.eq_ofNat_of_zero_le (show 0 ≤ ww by omega)
      obtain ⟨HH, rfl⟩ := Int.eq_ofNat_of_zero_le (show 0 ≤ hh by omega)
      obtain ⟨PX, rfl⟩ := Int.eq_ofNat_of_zero_le p1
      obtain ⟨PY, rfl⟩ := Int.eq_ofNat_of_zero_le p3
      have hm : WW * HH ≤ 4096 := Nat.le_trans (Nat.mul_le_mul (show WW ≤ 64 by omega) (show HH ≤ 64 by omega)) (by decide)
      refine (placed_any Wn Hn WW HH PX PY (by omega) (by omega) (by omega) (by omega) b o c n xs _ w hR hb).mono ?_
      rintro e w' ⟨g, rfl, hg, hc, hb'⟩
      have hval : ∀ j, j < WW * HH → (placedIL (Wn : Int) (Hn : Int) (xs.map kOf) WW HH PX PY)[j]?.getD 0 = placedK Wn Hn PX PY (xs.map kOf) (j % WW, j / WW) := fun j hj => by
        unfold placedIL winL
        simp only [Int.toNat_natCast]
        rw [range_get _ _ j (by rw [Nat.mul_comm]; exact hj)]
        unfold levelK placedK
        by_cases hq : PX ≤ j % WW ∧ j % WW < PX + Wn ∧ PY ≤ j / WW ∧ j / WW < PY + Hn
        · rw [if_pos hq, if_pos (by omega)]
          have e1 : (-(PX : Int) + ((j % WW : Nat) : Int)).toNat = j % WW - PX := by omega
          have e2 : (-(PY : Int) + ((j / WW : Nat) : Int)).toNat = j / WW - PY := by omega
          rw [e1, e2]
        · rw [if_neg hq, if_neg (by omega)]
      refine ⟨_, _, _, _, _, rfl, ResV.some ?_ hm (fun j hj => ?_) hg (fun j hj => ?_), hb'⟩
      · unfold placedIL winL; rw [List.length_map, List.length_range]; exact Nat.mul_comm _ _
      · rw [hval j hj]; unfold placedK; split
        · exact ks_at hR.lenk hR.sizes _
        · decide
      · rw [hval j hj]; exact hc j hj
    · rw [if_neg hp]
      refine (placed_span W H _ n c ww hh px py _ _ rfl h0 hw hhe r1 r2 hp w (check_of W H _ n c xs w hM)).mono ?_
      rintro e w' ⟨rfl, hb'⟩
      exact ⟨_, _, _, _, _, rfl, ResV.none _ _ _ _ _ (by decide), hb'⟩
  · rw [if_neg h0]
    refine (placed_bad W H a n c ww hh px py _ _ rfl h0 w (check_of W H a n c xs w hM)).mono ?_
    rintro e w' ⟨rfl, hb'⟩
    exact ⟨_, _, _, _, _, rfl, ResV.none _ _ _ _ _ h0, hb'⟩
end Go.Proofs.YtfdkmmllemkogaaGreatDoor
