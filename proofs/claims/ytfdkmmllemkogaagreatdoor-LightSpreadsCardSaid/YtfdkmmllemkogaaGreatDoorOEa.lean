/-
  Contract of Scaled for a right map where a scaled integer is that of no sample: the error.
-/
import Derived.Test.YtfdkmmllemkogaaGreatDoorOBr
import Derived.Test.YtfdkmmllemkogaaGreatDoorOBx
import Derived.Test.YtfdkmmllemkogaaGreatDoorOZd
namespace Go.Proofs.YtfdkmmllemkogaaGreatDoor
open Go.RowKit Go.Shelf
set_option linter.unusedVariables false
set_option linter.unusedSimpArgs false

set_option maxRecDepth 100000 in
set_option maxHeartbeats 6400000 in
theorem scaled_large (W H : Nat) (num den : Int) (hnum : -1000 ≤ num ∧ num ≤ 1000) (hden : 1 ≤ den ∧ den ≤ 1000) (b o c n : Nat) (xs : List Nat) (ks : List Int) (w : World) (hA : RightMap w W H b o n xs ks) (hb : b < w.heap.size)
    (hs : ¬ ∀ j, j < n → ((ks.map (fun k => roundK (k * num) den))[j]?.getD 0).natAbs ≤ 16384) :
    Calls Tryz.prog 62 #[.agg #[.int .i64 W, .int .i64 H, .slice (some ⟨b, o, none⟩) n c], .int .i64 num, .int .i64 den] w fun e w' =>
      e = .returned (.tuple #[.agg #[.int .i64 0, .int .i64 0, .slice none 0 0], .int .i64 4]) ∧ Below w.heap.size w w' := by
  obtain ⟨W0, hW0⟩ : ∃ W0, (((w.alloc (.cells #[.int .i64 W, .int .i64 H, .slice (some ⟨b, o, none⟩) n c] 54)).alloc (.cells #[.int .i64 num] 3)).alloc (.cells #[.int .i64 den] 3)).alloc (.cells #[.int .i64 0, .int .i64 0, .slice none 0 0] 54) = W0 := ⟨_, rfl⟩
  have hB0 : Below w.heap.size w W0 := by rw [← hW0]; exact ((((Below.refl _ w).alloc (Nat.le_refl _) _).alloc (by simp) _).alloc (by simp; omega) _).alloc (by simp; omega) _
  have hS0 : W0.heap.size = w.heap.size + 4 := by rw [← hW0]; simp
  have a0 : W0.cell? ⟨w.heap.size, 0, none⟩ = some (.int .i64 W) := by rw [← hW0]; simp [go_sem]
  have a1 : W0.cell? ⟨w.heap.size, 1, none⟩ = some (.int .i64 H) := by rw [← hW0]; simp [go_sem]
  have a2 : W0.cell? ⟨w.heap.size, 2, none⟩ = some (.slice (some ⟨b, o, none⟩) n c) := by rw [← hW0]; simp [go_sem]
  have c0 : W0.cell? ⟨w.heap.size + 1, 0, none⟩ = some (.int .i64 num) := by rw [← hW0]; simp [go_sem]
  have r0 : W0.cell? ⟨w.heap.size + 1 + 1, 0, none⟩ = some (.int .i64 den) := by rw [← hW0]; simp [go_sem]
  have zM : W0.heap[w.heap.size + 1 + 1 + 1]? = some (.cells #[.int .i64 0, .int .i64 0, .slice none 0 0] 54 (0, 0)) := by rw [← hW0]; exact blk_alloc_at _ _ (by simp)
  have HS3 : w.heap.size + 4 ≤ W0.heap.size := by omega
  have KA : Hid (∀ w1 : World, Blw (w.heap.size + 4) W0 w1 → Calls Tryz.prog 47 #[.agg #[.int .i64 W, .int .i64 H, .slice (some ⟨b, o, none⟩) n c]] w1 fun e w' => e = .returned (.int .i64 0) ∧ Below (w.heap.size + 4) W0 w') := Lib.hid fun w1 (h : Below (w.heap.size + 4) W0 w1) => by
    have h1 := h.size
    have h2 := hB0.trans (h.mono (by omega))
    exact (checkMap_any W H b o n c xs ks w1 (hA.below h2 hb) (by omega)).mono fun e w' ⟨he, hw⟩ => ⟨he, h.trans (hw.mono (by omega))⟩
  have K2 : Hid (∀ w1 : World, Below W0.heap.size W0 w1 → Calls Tryz.prog 123 #[.agg #[.int .i64 W, .int .i64 H, .slice (some ⟨b, o, none⟩) n c]] w1 fun e w' =>
      ∃ g, e = .returned (.agg #[.int .i64 W, .int .i64 H, .slice (some ⟨g, 0, none⟩) n n]) ∧ w1.heap.size ≤ g ∧ RowAt w' g n ks ∧ Below w1.heap.size w1 w') := Lib.hid (fun w1 h => by
    have h1 := h.size
    have h2 := hB0.trans (h.mono (by omega))
    exact grid_row W H b o n c xs ks w1 (hA.below h2 hb).toWords (by omega))
  have e1 : rangeErr num (-1000) 1000 = 0 := rangeErr_in hnum.1 hnum.2
  have e2 : rangeErr den 1 1000 = 0 := rangeErr_in hden.1 hden.2
  have KN : Hid (∀ w1 : World, Calls Tryz.prog 110 #[.int .i64 num, .int .i64 (-1000), .int .i64 1000] w1 fun e w' => e = .returned (.int .i64 0) ∧ w1 = w') := Lib.hid fun w1 => by have h := checkRange_any num (-1000) 1000 w1; rw [e1] at h; exact h
  have KD : Hid (∀ w1 : World, Calls Tryz.prog 110 #[.int .i64 den, .int .i64 1, .int .i64 1000] w1 fun e w' => e = .returned (.int .i64 0) ∧ w1 = w') := Lib.hid fun w1 => by have h := checkRange_any den 1 1000 w1; rw [e2] at h; exact h
  have HB0 := Lib.hid hB0
  have HS0 := Lib.hid hS0
  have HRA := Lib.hid hA
  have HSC := Lib.hid hs
  clear hA hB0 hs e1 e2
  go_enter Tryz.func62, Tryz.ntmps62
  go_upto_region 1 with fail
  try rw [hW0]
  clear hW0
  have hb3 : Below (w.heap.size + 4) W0 W0 := Below.refl _ _
  go_region_held3 (fun w' => w'.cell? ⟨w.heap.size, 0, none⟩ = some (.int .i64 W) ∧ w'.cell? ⟨w.heap.size, 1, none⟩ = some (.int .i64 H) ∧ w'.cell? ⟨w.heap.size, 2, none⟩ = some (.slice (some ⟨b, o, none⟩) n c) ∧ w'.cell? ⟨w.heap.size + 1, 0, none⟩ = some (.int .i64 num) ∧
      w'.cell? ⟨w.heap.size + 1 + 1, 0, none⟩ = some (.int .i64 den) ∧ Blw (w.heap.size + 4) W0 w')
    ((go_split_ands; refine ⟨?_, ?_, ?_, ?_, ?_, ?_⟩ <;> first
      | (with_reducible refine Eq.trans (Below.cell (B := w.heap.size + 4) (w := W0) ?_ (by first | (simp; done) | (simp; omega))) (by with_reducible assumption); (repeat (first | (with_reducible exact hb3) | (with_reducible refine below_alloc ?_ HS3 _) | (with_reducible refine Below.drew ?_))); done)
      | (show Below _ _ _; (repeat (first | (with_reducible exact hb3) | (with_reducible refine below_alloc ?_ HS3 _) | (with_reducible refine Below.drew ?_))); done)))
    (first
      | (go_at_call 47; refine (KA.out _ ?_).mono ?_; rotate_left 1; rintro e w' ⟨rfl, hb3⟩; rotate_left 1; (simp [*]))
      | (go_at_call_of 110 (Value.int .i64 num); refine (KN.out _).mono ?_; rintro e w9 ⟨rfl, rfl⟩)
      | (go_at_call_of 110 (Value.int .i64 den); refine (KD.out _).mono ?_; rintro e w9 ⟨rfl, rfl⟩)
      | ((go_at_call 109; refine (first_zeros _ 0 3 3 (by omega) _ ?_).mono ?_; rotate_left 1; rintro e w9 ⟨rfl, rfl⟩; rotate_left 1; (intro j hj; match j, hj with | 0, _ => simp [go_sem] | 1, _ => simp [go_sem] | 2, _ => simp [go_sem]))))
  have hb2 : Below (w.heap.size + 4) W0 (w'.alloc (.cells #[.int .i64 0, .int .i64 0, .int .i64 0] 26)) := hb3.alloc (by have := hb3.size; omega) _
  obtain ⟨W1, hW1⟩ : ∃ W1, w'.alloc (.cells #[.int .i64 0, .int .i64 0, .int .i64 0] 26) = W1 := ⟨_, rfl⟩
  rw [hW1] at hb2 ⊢
  clear hW1 hb3
  have hb2' : Below W0.heap.size W0 W1 := by rw [HS0.out]; exact hb2
  have a0' := (hb2.cell (p := ⟨w.heap.size, 0, none⟩) (by show w.heap.size < _; omega)).trans a0
  have a1' := (hb2.cell (p := ⟨w.heap.size, 1, none⟩) (by show w.heap.size < _; omega)).trans a1
  have a2' := (hb2.cell (p := ⟨w.heap.size, 2, none⟩) (by show w.heap.size < _; omega)).trans a2
  have HBW := Lib.hid hb2'
  clear hb2 hb2'
  go_upto_region 5 with (
    ((go_at_call 123; refine (K2.out _ (by first | exact HBW.out | exact HBW.out.drew)).mono ?_; rintro e w2 ⟨ga, rfl, hga, hRA, hb2⟩)))
  have hs2 := hb2.size
  have hsW := HBW.out.size
  have hszA : W1.heap.size ≤ w2.heap.size := hs2
  obtain ⟨W3, hW3⟩ : ∃ W3, w2.alloc (.cells #[.int .i64 W, .int .i64 H, .slice (some ⟨ga, 0, none⟩) n n] 188) = W3 := ⟨_, rfl⟩
  have hBG : Below w2.heap.size w2 W3 := by rw [← hW3]; exact (Below.refl _ w2).alloc (Nat.le_refl _) _
  have hRA3 := hRA.below hBG hRA.lt
  have hS3 : w2.heap.size + 1 ≤ W3.heap.size := by rw [← hW3]; simp
  have hB12 : Below W0.heap.size W0 w2 := HBW.out.trans ((show Below W1.heap.size W1 w2 from by first | exact hb2 | exact ((Below.refl W1.heap.size W1).drew).trans hb2).mono hsW)
  have hB3 : Below W0.heap.size W0 W3 := hB12.trans (hBG.mono (by omega))
  have bG : W3.heap[w2.heap.size]? = some (.cells #[.int .i64 W, .int .i64 H, .slice (some ⟨ga, 0, none⟩) n n] 188 (0, 0)) := by rw [← hW3]; exact blk_alloc_new _ _
  try rw [hW3]
  clear hW3
  obtain ⟨g0, g1, g2⟩ := GridAt.of_blk bG
  have bM := (hB3.block (w.heap.size + 1 + 1 + 1) (by omega)).trans zM
  have KM := Lib.hid (mapped_scaled (w := W3) ga 0 n n ks num den hnum hden (w.heap.size + 1) (w.heap.size + 1 + 1) HRA.out.lenk HRA.out.small hRA3.lt (by omega) (by omega)
    ((hB3.cell (p := ⟨w.heap.size + 1, 0, none⟩) (by show w.heap.size + 1 < _; omega)).trans c0) ((hB3.cell (p := ⟨w.heap.size + 1 + 1, 0, none⟩) (by show w.heap.size + 1 + 1 < _; omega)).trans r0)
    (fun j hj => by rw [Nat.zero_add]; exact hRA3.cells j hj) HRA.out.sizes)
  have HB3 := Lib.hid hB3
  have HBG := Lib.hid bG
  have HBM := Lib.hid bM
  clear hRA hRA3 hBG hB12 hB3 bG bM a0 a1 a2 a0' a1' a2' c0 r0 hb2
  go_upto_region 6 with (
    ((go_at_call 144; refine KM.out.mono ?_; rintro e w4 ⟨rfl, hown4, hb4⟩
      have b4 := (hb4.block _ (lt_of_blk HBG.out)).trans HBG.out
      have f2 : w4.frozen? ⟨w2.heap.size, 2, none⟩ = false := by simp [World.frozen?, b4]
      have h20 : w4.cell? ⟨w2.heap.size, 2, none⟩ = some (.slice (some ⟨ga, 0, none⟩) n n) := by rw [cell_of_row w4 _ 2 _ _ (0, 0) b4]; rfl)))
  obtain ⟨W5, hW5⟩ : ∃ W5, w4.setCell ⟨w2.heap.size, 2, none⟩ (.slice (some ⟨W3.heap.size, 0, none⟩) n n) = W5 := ⟨_, rfl⟩
  have b5 : W5.heap[w2.heap.size]? = some (.cells #[.int .i64 W, .int .i64 H, .slice (some ⟨W3.heap.size, 0, none⟩) n n] 188 (0, 0)) := by
    rw [← hW5]
    simp only [World.setCell, Array.getElem?_modify, if_true, b4, Option.map_some]
    simp
  have hO5 : W5.ownsRow W3.heap.size 3 1 (.slice (some ⟨W3.heap.size, 0, none⟩) n n) n (ks.map (fun k : Int => Value.int .i64 (roundK (k * num) den))) := by
    rw [← hW5]; exact ownsRow_setCell_below hown4 (by dsimp only; omega) _
  have hs4 := hb4.size
  have bM4 := (hb4.block _ (lt_of_blk HBM.out)).trans HBM.out
  have bM5 : W5.heap[w.heap.size + 1 + 1 + 1]? = some (.cells #[.int .i64 0, .int .i64 0, .slice none 0 0] 54 (0, 0)) := by
    rw [← hW5]; exact blk_set_other bM4 (by dsimp only; omega) _
  have hB5 : Below (w.heap.size + 4) W0 W5 := by
    rw [← hW5]; exact (((HB3.out.mono HS3).trans (hb4.mono (by omega))).setCell (p := ⟨w2.heap.size, 2, none⟩) (by show w.heap.size + 4 ≤ w2.heap.size; omega) _)
  try rw [hW5]
  clear hW5 b4 f2 h20 hown4 bM4 g0 g1 g2
  obtain ⟨g0, g1, g2⟩ := GridAt.of_blk b5
  have hO5l := hO5.lt _ rfl
  have KT := Lib.hid (toMap_large W H W3.heap.size 0 n n (ks.map (fun k => roundK (k * num) den)) (by rw [List.length_map]; exact HRA.out.lenk) HRA.out.small W5 hO5l.2 (fun j hj => by
      rw [Nat.zero_add]
      refine owns_cell hO5 ?_
      rw [List.getElem?_map, List.getElem?_map, List.getElem?_eq_getElem (by rw [HRA.out.lenk]; exact hj)]; rfl)
    HSC.out)
  have m0 : W5.cell? ⟨w.heap.size + 1 + 1 + 1, 0, none⟩ = some (.int .i64 0) := by rw [cell_of_row W5 _ 0 _ _ (0, 0) bM5]; rfl
  have m1 : W5.cell? ⟨w.heap.size + 1 + 1 + 1, 1, none⟩ = some (.int .i64 0) := by rw [cell_of_row W5 _ 1 _ _ (0, 0) bM5]; rfl
  have m2 : W5.cell? ⟨w.heap.size + 1 + 1 + 1, 2, none⟩ = some (.slice none 0 0) := by rw [cell_of_row W5 _ 2 _ _ (0, 0) bM5]; rfl
  have fm : ∀ j, W5.frozen? ⟨w.heap.size + 1 + 1 + 1, j, none⟩ = false := fun j => by simp [World.frozen?, bM5]
  have lM := lt_of_blk bM5
  have HFM := Lib.hid fm
  have HB5 := Lib.hid hB5
  have HBM5 := Lib.hid bM5
  clear fm bM5 b5 hO5 hB5 hb4
  go_wp2_with (
    ((go_at_call 147; refine KT.out.mono ?_; rintro e w9 ⟨rfl, hb9⟩
      have s0 : w9.cell? ⟨w.heap.size + 1 + 1 + 1, 0, none⟩ = some (.int .i64 0) := (hb9.cell lM).trans m0
      have s1 : w9.cell? ⟨w.heap.size + 1 + 1 + 1, 1, none⟩ = some (.int .i64 0) := (hb9.cell lM).trans m1
      have s2 : w9.cell? ⟨w.heap.size + 1 + 1 + 1, 2, none⟩ = some (.slice none 0 0) := (hb9.cell lM).trans m2
      have f0 : w9.frozen? ⟨w.heap.size + 1 + 1 + 1, 0, none⟩ = false := (hb9.frozen lM).trans (HFM.out 0)
      have f1 : w9.frozen? ⟨w.heap.size + 1 + 1 + 1, 1, none⟩ = false := (hb9.frozen lM).trans (HFM.out 1)
      have f2 : w9.frozen? ⟨w.heap.size + 1 + 1 + 1, 2, none⟩ = false := (hb9.frozen lM).trans (HFM.out 2))))
  have hs9 := hb9.size
  have hs5 := HB5.out.size
  obtain ⟨WF, hWF⟩ : ∃ WF, (((w9.setCell ⟨w.heap.size + 1 + 1 + 1, 0, none⟩ (.int .i64 0)).setCell ⟨w.heap.size + 1 + 1 + 1, 1, none⟩ (.int .i64 0)).setCell ⟨w.heap.size + 1 + 1 + 1, 2, none⟩ (.slice none 0 0)) = WF := ⟨_, rfl⟩
  have rF : WF.heap[w.heap.size + 1 + 1 + 1]? = some (.cells #[.int .i64 0, .int .i64 0, .slice none 0 0] 54 (0, 0)) := by rw [← hWF]; exact blk_set3 ((hb9.block _ lM).trans HBM5.out) _ _ _
  have bF : Below w.heap.size w WF := by rw [← hWF]; exact below_set3 ((HB0.out.trans (HB5.out.mono (by omega))).trans (hb9.mono (by omega))) (by omega) _ _ _
  rw [hWF]
  exact bodyPost_ret (v := .tuple #[.agg #[.int .i64 0, .int .i64 0, .slice none 0 0], .int .i64 4]) (results_row_tmp Tryz.results62 _ _ (w.heap.size + 1 + 1 + 1) 54 _ (0, 0) _ rfl rF Tryz.underlying54 rfl (by kernel_rfl)) rfl ⟨rfl, bF⟩
end Go.Proofs.YtfdkmmllemkogaaGreatDoor
