/-
  Contract of Scaled for a right map whose scaled integers are in range.
-/
import Derived.Test.YthfiilfekofimaaGreatDoorDZt
import Derived.Test.YthfiilfekofimaaGreatDoorDFlr
import Derived.Test.YthfiilfekofimaaGreatDoorDWd
import Derived.Deep.CutBlock
import Derived.Deep.DeepCutAuto
import Derived.Deep.RegionHeld3
import Derived.StillTailTactics
import Derived.Test.YthfiilfekofimaaGreatDoorDXe
namespace Go.Proofs.YthfiilfekofimaaGreatDoor
open Go.RowKit
set_option linter.unusedVariables false

set_option maxRecDepth 100000 in
set_option maxHeartbeats 6400000 in
theorem scaled_any (W H : Nat) (num den : Int) (hnum : -1000 ≤ num ∧ num ≤ 1000) (hden : 1 ≤ den ∧ den ≤ 1000) (b o c n : Nat) (xs : List Nat) (ks : List Int) (w : World) (hA : RightMap w W H b o n xs ks) (hb : b < w.heap.size)
    (hs : ∀ j, j < n → (roundK (ks[j]?.getD 0 * num) den).natAbs ≤ 16384) :
    Calls Tryz.prog 34 #[.agg #[.int .i64 W, .int .i64 H, .slice (some ⟨b, o, none⟩) n c], .int .i64 num, .int .i64 den] w fun e w' =>
      ∃ g, e = .returned (.tuple #[.agg #[.int .i64 W, .int .i64 H, .slice (some ⟨g, 0, none⟩) n n], .int .i64 0]) ∧ g < w'.heap.size ∧
        (∀ j, j < n → w'.cell? ⟨g, j, none⟩ = some (.float .f32 (smpOf (roundK (ks[j]?.getD 0 * num) den)))) ∧ Below w.heap.size w w' := by
  obtain ⟨W0, hW0⟩ : ∃ W0, (((w.alloc (.cells #[.int .i64 W, .int .i64 H, .slice (some ⟨b, o, none⟩) n c] 45)).alloc (.cells #[.int .i64 num] 3)).alloc (.cells #[.int .i64 den] 3)).alloc (.cells #[.int .i64 0, .int .i64 0, .slice none 0 0] 45) = W0 := ⟨_, rfl⟩
  have hB0 : Below w.heap.size w W0 := by rw [← hW0]; exact ((((Below.refl _ w).alloc (Nat.le_refl _) _).alloc (by simp) _).alloc (by simp; omega) _).alloc (by simp; omega) _
  have hS0 : W0.heap.size = w.heap.size + 4 := by rw [← hW0]; simp
  have a0 : W0.cell? ⟨w.heap.size, 0, none⟩ = some (.int .i64 W) := by rw [← hW0]; simp [go_sem]
  have a1 : W0.cell? ⟨w.heap.size, 1, none⟩ = some (.int .i64 H) := by rw [← hW0]; simp [go_sem]
  have a2 : W0.cell? ⟨w.heap.size, 2, none⟩ = some (.slice (some ⟨b, o, none⟩) n c) := by rw [← hW0]; simp [go_sem]
  have c0 : W0.cell? ⟨w.heap.size + 1, 0, none⟩ = some (.int .i64 num) := by rw [← hW0]; simp [go_sem]
  have r0 : W0.cell? ⟨w.heap.size + 1 + 1, 0, none⟩ = some (.int .i64 den) := by rw [← hW0]; simp [go_sem]
  have zM : W0.heap[w.heap.size + 1 + 1 + 1]? = some (.cells #[.int .i64 0, .int .i64 0, .slice none 0 0] 45 (0, 0)) := by rw [← hW0]; exact blk_alloc_at _ _ (by simp)
  have HS3 : w.heap.size + 4 ≤ W0.heap.size := by omega
  have KA : Hid (∀ w1 : World, Blw (w.heap.size + 4) W0 w1 → Calls Tryz.prog 67 #[.agg #[.int .i64 W, .int .i64 H, .slice (some ⟨b, o, none⟩) n c]] w1 fun e w' => e = .returned (.int .i64 0) ∧ Below (w.heap.size + 4) W0 w') := Lib.hid fun w1 (h : Below (w.heap.size + 4) W0 w1) => by
    have h1 := h.size
    have h2 := hB0.trans (h.mono (by omega))
    exact (checkMap_any W H b o n c xs ks w1 (hA.below h2 hb) (by omega)).mono fun e w' ⟨he, hw⟩ => ⟨he, h.trans (hw.mono (by omega))⟩
  have K2 : Hid (∀ w1 : World, Below W0.heap.size W0 w1 → Calls Tryz.prog 71 #[.agg #[.int .i64 W, .int .i64 H, .slice (some ⟨b, o, none⟩) n c]] w1 fun e w' =>
      ∃ g, e = .returned (.agg #[.int .i64 W, .int .i64 H, .slice (some ⟨g, 0, none⟩) n n]) ∧ w1.heap.size ≤ g ∧ RowAt w' g n ks ∧ Below w1.heap.size w1 w') := Lib.hid (fun w1 h => by
    have h1 := h.size
    have h2 := hB0.trans (h.mono (by omega))
    exact grid_row W H b o n c xs ks w1 (hA.below h2 hb).toWords (by omega))
  have e1 : rangeErr num (-1000) 1000 = 0 := rangeErr_in hnum.1 hnum.2
  have e2 : rangeErr den 1 1000 = 0 := rangeErr_in hden.1 hden.2
  have KN : Hid (∀ w1 : World, Calls Tryz.prog 101 #[.int .i64 num, .int .i64 (-1000), .int .i64 1000] w1 fun e w' => e = .returned (.int .i64 0) ∧ w1 = w') := Lib.hid fun w1 => by have h := checkRange_any num (-1000) 1000 w1; rw [e1] at h; exact h
  have KD : Hid (∀ w1 : World, Calls Tryz.prog 101 #[.int .i64 den, .int .i64 1, .int .i64 1000] w1 fun e w' => e = .returned (.int .i64 0) ∧ w1 = w') := Lib.hid fun w1 => by have h := checkRange_any den 1 1000 w1; rw [e2] at h; exact h
  have HB0 := Lib.hid hB0
  have HS0 := Lib.hid hS0
  have HRA := Lib.hid hA
  have HSC := Lib.hid hs
  clear hA hB0 hs e1 e2
  go_enter Tryz.func34, Tryz.ntmps34
  go_upto_region 1 with fail
  try rw [hW0]
  clear hW0
  have hb3 : Below (w.heap.size + 4) W0 W0 := Below.refl _ _
  go_region_held3 (fun w' => w'.cell? ⟨w.heap.size, 0, none⟩ = some (.int .i64 W) ∧ w'.cell? ⟨w.heap.size, 1, none⟩ = some (.int .i64 H) ∧ w'.cell? ⟨w.heap.size, 2, none⟩ = some (.slice (some ⟨b, o, none⟩) n c) ∧ w'.cell? ⟨w.heap.size + 1, 0, none⟩ = some (.int .i64 num) ∧
      w'.cell? ⟨w.heap.size + 1 + 1, 0, none⟩ = some (.int .i64 den) ∧ Blw (w.heap.size + 4) W0 w')
    ((go_split_ands; refine ⟨?_, ?_, ?_, ?_, ?_, ?_⟩ <;> first
      | (with_reducible refine Eq.trans (Below.cell (B := w.heap.size + 4) (w := W0) ?_ (by first | (simp; done) | (simp; omega))) (by with_reducible assumption); (repeat (first | (with_reducible exact hb3) | (with_reducible refine below_alloc ?_ HS3 _) | (with_reducible refine Below.drew ?_))); done)
      | (show Below _ _ _; (repeat (first | (with_reducible exact hb3) | (with_reducible refine below_alloc ?_ HS3 _) | (with_reducible refine Below.drew ?_))); done)))
    (first
      | (go_at_call 67; refine (KA.out _ ?_).mono ?_; rotate_left 1; rintro e w' ⟨rfl, hb3⟩; rotate_left 1; (simp [*]))
      | (go_at_call_of 101 (Value.int .i64 num); refine (KN.out _).mono ?_; rintro e w9 ⟨rfl, rfl⟩)
      | (go_at_call_of 101 (Value.int .i64 den); refine (KD.out _).mono ?_; rintro e w9 ⟨rfl, rfl⟩)
      | ((go_at_call 47; refine (first_zeros _ 0 3 3 (by omega) _ ?_).mono ?_; rotate_left 1; rintro e w9 ⟨rfl, rfl⟩; rotate_left 1; (intro j hj; match j, hj with | 0, _ => simp [go_sem] | 1, _ => simp [go_sem] | 2, _ => simp [go_sem]))))
  have hb2 : Below (w.heap.size + 4) W0 (w'.alloc (.cells #[.int .i64 0, .int .i64 0, .int .i64 0] 27)) := hb3.alloc (by have := hb3.size; omega) _
  obtain ⟨W1, hW1⟩ : ∃ W1, w'.alloc (.cells #[.int .i64 0, .int .i64 0, .int .i64 0] 27) = W1 := ⟨_, rfl⟩
  rw [hW1] at hb2 ⊢
  clear hW1 hb3
  have hb2' : Below W0.heap.size W0 W1 := by rw [HS0.out]; exact hb2
  have a0' := (hb2.cell (p := ⟨w.heap.size, 0, none⟩) (by show w.heap.size < _; omega)).trans a0
  have a1' := (hb2.cell (p := ⟨w.heap.size, 1, none⟩) (by show w.heap.size < _; omega)).trans a1
  have a2' := (hb2.cell (p := ⟨w.heap.size, 2, none⟩) (by show w.heap.size < _; omega)).trans a2
  have HBW := Lib.hid hb2'
  clear hb2 hb2'
  go_upto_region 5 with (
    ((go_at_call 71; refine (K2.out _ (by first | exact HBW.out | exact HBW.out.drew)).mono ?_; rintro e w2 ⟨ga, rfl, hga, hRA, hb2⟩)))
  have hs2 := hb2.size
  have hsW := HBW.out.size
  have hszA : W1.heap.size ≤ w2.heap.size := hs2
  obtain ⟨W3, hW3⟩ : ∃ W3, w2.alloc (.cells #[.int .i64 W, .int .i64 H, .slice (some ⟨ga, 0, none⟩) n n] 144) = W3 := ⟨_, rfl⟩
  have hBG : Below w2.heap.size w2 W3 := by rw [← hW3]; exact (Below.refl _ w2).alloc (Nat.le_refl _) _
  have hRA3 := hRA.below hBG hRA.lt
  have hS3 : w2.heap.size + 1 ≤ W3.heap.size := by rw [← hW3]; simp
  have hB12 : Below W0.heap.size W0 w2 := HBW.out.trans ((show Below W1.heap.size W1 w2 from by first | exact hb2 | exact ((Below.refl W1.heap.size W1).drew).trans hb2).mono hsW)
  have hB3 : Below W0.heap.size W0 W3 := hB12.trans (hBG.mono (by omega))
  have bG : W3.heap[w2.heap.size]? = some (.cells #[.int .i64 W, .int .i64 H, .slice (some ⟨ga, 0, none⟩) n n] 144 (0, 0)) := by rw [← hW3]; exact blk_alloc_new _ _
  try rw [hW3]
  clear hW3
  obtain ⟨g0, g1, g2⟩ := GridAt.of_blk bG
  have bM := (hB3.block (w.heap.size + 1 + 1 + 1) (by omega)).trans zM
  have KM := Lib.hid (mapped_scaled (w := W3) ga 0 n n ks num den hnum hden (w.heap.size + 1) (w.heap.size + 1 + 1) HRA.out.lenk HRA.out.small hRA3.lt (by omega) (by omega)
    ((hB3.cell (p := ⟨w.heap.size + 1, 0, none⟩) (by show w.heap.size + 1 < _; omega)).trans c0) ((hB3.cell (p := ⟨w.heap.size + 1 + 1, 0, none⟩) (by show w.heap.size + 1 + 1 < _; omega)).trans r0)
    (fun j hj => by rw [Nat.zero_add]; exact hRA3.cells j hj) HRA.out.sizes)
  have HB3 := Lib.hid hB3
  have HBG := Lib.hid bG
  have HBM := Lib.hid bM
  clear hRA hRA3 hBG hB12 hB3 bG bM a0 a1 a2 a0' a1' a2' c0 r0 hb2
  go_upto_region 6 with (
    ((go_at_call 102; refine KM.out.mono ?_; rintro e w4 ⟨rfl, hown4, hb4⟩
      have b4 := (hb4.block _ (lt_of_blk HBG.out)).trans HBG.out
      have f2 : w4.frozen? ⟨w2.heap.size, 2, none⟩ = false := by simp [World.frozen?, b4]
      have h20 : w4.cell? ⟨w2.heap.size, 2, none⟩ = some (.slice (some ⟨ga, 0, none⟩) n n) := by rw [cell_of_row w4 _ 2 _ _ (0, 0) b4]; rfl)))
  obtain ⟨W5, hW5⟩ : ∃ W5, w4.setCell ⟨w2.heap.size, 2, none⟩ (.slice (some ⟨W3.heap.size, 0, none⟩) n n) = W5 := ⟨_, rfl⟩
  have b5 : W5.heap[w2.heap.size]? = some (.cells #[.int .i64 W, .int .i64 H, .slice (some ⟨W3.heap.size, 0, none⟩) n n] 144 (0, 0)) := by
    rw [← hW5]
    simp only [World.setCell, Array.getElem?_modify, if_true, b4, Option.map_some]
    simp
  have hO5 : W5.ownsRow W3.heap.size 3 1 (.slice (some ⟨W3.heap.size, 0, none⟩) n n) n (ks.map (fun k : Int => Value.int .i64 (roundK (k * num) den))) := by
    rw [← hW5]; exact ownsRow_setCell_below hown4 (by dsimp only; omega) _
  have hs4 := hb4.size
  have bM4 := (hb4.block _ (lt_of_blk HBM.out)).trans HBM.out
  have bM5 : W5.heap[w.heap.size + 1 + 1 + 1]? = some (.cells #[.int .i64 0, .int .i64 0, .slice none 0 0] 45 (0, 0)) := by
    rw [← hW5]; exact blk_set_other bM4 (by dsimp only; omega) _
  have hB5 : Below (w.heap.size + 4) W0 W5 := by
    rw [← hW5]; exact (((HB3.out.mono HS3).trans (hb4.mono (by omega))).setCell (p := ⟨w2.heap.size, 2, none⟩) (by show w.heap.size + 4 ≤ w2.heap.size; omega) _)
  try rw [hW5]
  clear hW5 b4 f2 h20 hown4 bM4 g0 g1 g2
  obtain ⟨g0, g1, g2⟩ := GridAt.of_blk b5
  have hO5l := hO5.lt _ rfl
  have KT := Lib.hid (toMap_any W H W3.heap.size 0 n n (ks.map (fun k => roundK (k * num) den)) (by rw [List.length_map]; exact HRA.out.lenk) HRA.out.small W5 hO5l.2 (fun j hj => by
      rw [Nat.zero_add]
      refine owns_cell hO5 ?_
      rw [List.getElem?_map, List.getElem?_map, List.getElem?_eq_getElem (by rw [HRA.out.lenk]; exact hj)]; rfl)
    (fun j hj => by
      have h := HSC.out j hj
      rw [List.getElem?_map, List.getElem?_eq_getElem (by rw [HRA.out.lenk]; exact hj)]
      rw [List.getElem?_eq_getElem (by rw [HRA.out.lenk]; exact hj)] at h
      exact h))
  have m0 : W5.cell? ⟨w.heap.size + 1 + 1 + 1, 0, none⟩ = some (.int .i64 0) := by rw [cell_of_row W5 _ 0 _ _ (0, 0) bM5]; rfl
  have m1 : W5.cell? ⟨w.heap.size + 1 + 1 + 1, 1, none⟩ = some (.int .i64 0) := by rw [cell_of_row W5 _ 1 _ _ (0, 0) bM5]; rfl
  have m2 : W5.cell? ⟨w.heap.size + 1 + 1 + 1, 2, none⟩ = some (.slice none 0 0) := by rw [cell_of_row W5 _ 2 _ _ (0, 0) bM5]; rfl
  have fm : ∀ j, W5.frozen? ⟨w.heap.size + 1 + 1 + 1, j, none⟩ = false := fun j => by simp [World.frozen?, bM5]
  have lM := lt_of_blk bM5
  have HFM := Lib.hid fm
  have HB5 := Lib.hid hB5
  clear fm bM5 b5 hO5 hB5 hb4
  go_wp2_with (
    ((go_at_call 105; refine KT.out.mono ?_; rintro e w9 ⟨rfl, hown9, hb9⟩
      have s0 : w9.cell? ⟨w.heap.size + 1 + 1 + 1, 0, none⟩ = some (.int .i64 0) := (hb9.cell lM).trans m0
      have s1 : w9.cell? ⟨w.heap.size + 1 + 1 + 1, 1, none⟩ = some (.int .i64 0) := (hb9.cell lM).trans m1
      have s2 : w9.cell? ⟨w.heap.size + 1 + 1 + 1, 2, none⟩ = some (.slice none 0 0) := (hb9.cell lM).trans m2
      have f0 : w9.frozen? ⟨w.heap.size + 1 + 1 + 1, 0, none⟩ = false := (hb9.frozen lM).trans (HFM.out 0)
      have f1 : w9.frozen? ⟨w.heap.size + 1 + 1 + 1, 1, none⟩ = false := (hb9.frozen lM).trans (HFM.out 1)
      have f2 : w9.frozen? ⟨w.heap.size + 1 + 1 + 1, 2, none⟩ = false := (hb9.frozen lM).trans (HFM.out 2))))
  have hs9 := hb9.size
  have hs5 := HB5.out.size
  have hg9 : W5.heap.size + 2 ≤ W5.heap.size + 2 ∧ W5.heap.size + 2 < w9.heap.size := hown9.lt _ rfl
  refine bodyPost_ret (v := .tuple #[.agg #[.int .i64 W, .int .i64 H, .slice (some ⟨W5.heap.size + 2, 0, none⟩) n n], .int .i64 0]) (by simp [results, Tryz.results34, go_sem, s0, s1, s2]) rfl ⟨_, rfl, ?_, ?_, ?_⟩
  · simp; omega
  · intro j hj
    refine owns_cell (ownsRow_setCell_below (ownsRow_setCell_below (ownsRow_setCell_below hown9 (by dsimp only; omega) _) (by dsimp only; omega) _) (by dsimp only; omega) _) ?_
    rw [List.getElem?_map, List.getElem?_map, List.getElem?_eq_getElem (by rw [HRA.out.lenk]; exact hj)]; rfl
  · exact (((HB0.out.trans (HB5.out.mono (by omega))).trans (hb9.mono (by omega))).setCell (p := ⟨w.heap.size + 1 + 1 + 1, 0, none⟩) (by dsimp only; omega) _ |>.setCell (p := ⟨w.heap.size + 1 + 1 + 1, 1, none⟩) (by dsimp only; omega) _).setCell (p := ⟨w.heap.size + 1 + 1 + 1, 2, none⟩) (by dsimp only; omega) _
end Go.Proofs.YthfiilfekofimaaGreatDoor

/-
  Contract of Draw: the permutation of n elements by a key.
-/
namespace Go.Proofs.YthfiilfekofimaaGreatDoor
open Go.RowKit
set_option linter.unusedVariables false
set_option linter.unusedSimpArgs false

/-- The generator's number and the list after some exchanges. -/
def drawS (key : Int) (n : Nat) : Nat → Int × List Int
  | 0 => (key, (List.range n).map (fun i : Nat => (i : Int)))
  | t + 1 => (950706376 * (drawS key n t).1 % 2147483647,
      ((drawS key n t).2.set (n - 1 - t) ((drawS key n t).2[(950706376 * (drawS key n t).1 % 2147483647 % ((n - 1 - t : Nat) + 1 : Int)).toNat]?.getD 0)).set (950706376 * (drawS key n t).1 % 2147483647 % ((n - 1 - t : Nat) + 1 : Int)).toNat ((drawS key n t).2[n - 1 - t]?.getD 0))
def drawL (key : Int) (n : Nat) : List Int := (drawS key n (n - 1)).2
theorem drawS_len (key : Int) (n : Nat) : ∀ t, (drawS key n t).2.length = n
  | 0 => by simp [drawS]
  | t + 1 => by simp [drawS, drawS_len key n t]
theorem drawS_bd (key : Int) (n : Nat) (h : 0 ≤ key ∧ key ≤ 2147483646) : ∀ t, 0 ≤ (drawS key n t).1 ∧ (drawS key n t).1 ≤ 2147483646
  | 0 => h
  | t + 1 => by
    have h1 := Int.emod_nonneg (950706376 * (drawS key n t).1) (show (2147483647 : Int) ≠ 0 by decide)
    have h2 := Int.emod_lt_of_pos (950706376 * (drawS key n t).1) (show (0 : Int) < 2147483647 by decide)
    simp only [drawS]
    omega

/-- The list while its first k places are told. -/
def fillTo (n k : Nat) : List Int := (List.range n).map (fun q => if q < k then (q : Int) else 0)
theorem fillTo_len (n k : Nat) : (fillTo n k).length = n := by simp [fillTo]
theorem fillTo_set (n k : Nat) : (fillTo n k).set k (k : Int) = fillTo n (k + 1) := by
  refine List.ext_getElem (by simp [fillTo]) fun q h1 h2 => ?_
  simp only [fillTo, List.getElem_set, List.getElem_map, List.getElem_range]
  by_cases e : k = q
  · subst e; rw [if_pos rfl, if_pos (by omega)]
  · rw [if_neg e]
    by_cases e2 : q < k
    · rw [if_pos e2, if_pos (by omega)]
    · rw [if_neg e2, if_neg (by omega)]
theorem fillTo_0 (n : Nat) : fillTo n 0 = List.replicate n 0 := by
  refine List.ext_getElem (by simp [fillTo]) fun q h1 h2 => ?_
  simp [fillTo]
theorem fillTo_n (n : Nat) : fillTo n n = (List.range n).map (fun i : Nat => (i : Int)) := by
  refine List.ext_getElem (by simp [fillTo]) fun q h1 h2 => ?_
  simp only [fillTo_len] at h1
  simp [fillTo, h1]

set_option maxRecDepth 100000 in
set_option maxHeartbeats 6400000 in
theorem draw_any (key : Int) (n : Nat) (hk : 1 ≤ key ∧ key ≤ 2147483646) (hn : n ≤ 256) (w : World) :
    Calls Tryz.prog 65 #[.int .i64 key, .int .i64 n] w fun e w' =>
      ∃ v, e = .returned (.tuple #[v, .int .i64 0]) ∧ w'.ownsRow w.heap.size 3 1 v n ((drawL key n).map (Value.int .i64)) ∧ Below w.heap.size w w' := by
  obtain ⟨i0, hi, hz0, hz1, hz2⟩ := info_parts Tryz.infoInt
  have e1 : rangeErr key 1 2147483646 = 0 := rangeErr_in hk.1 hk.2
  have e2 : rangeErr (n : Int) 0 256 = 0 := rangeErr_in (by omega) (by omega)
  have KN : Hid (∀ w1 : World, Calls Tryz.prog 101 #[.int .i64 key, .int .i64 1, .int .i64 2147483646] w1 fun e w' => e = .returned (.int .i64 0) ∧ w1 = w') := Lib.hid fun w1 => by have h := checkRange_any key 1 2147483646 w1; rw [e1] at h; exact h
  have KD : Hid (∀ w1 : World, Calls Tryz.prog 101 #[.int .i64 n, .int .i64 0, .int .i64 256] w1 fun e w' => e = .returned (.int .i64 0) ∧ w1 = w') := Lib.hid fun w1 => by have h := checkRange_any (n : Int) 0 256 w1; rw [e2] at h; exact h
  clear e1 e2
  go_enter Tryz.func65, Tryz.ntmps65
  go_upto_region 5 with (first
    | (go_at_call_of 101 (Value.int .i64 key); refine (KN.out _).mono ?_; rintro e w9 ⟨rfl, rfl⟩)
    | (go_at_call_of 101 (Value.int .i64 n); refine (KD.out _).mono ?_; rintro e w9 ⟨rfl, rfl⟩)
    | ((go_at_call 47; refine (first_zeros _ 0 2 2 (by omega) _ ?_).mono ?_; rotate_left 1; rintro e w9 ⟨rfl, rfl⟩; rotate_left 1; (intro j hj; match j, hj with | 0, _ => simp [go_sem] | 1, _ => simp [go_sem])))
    | (at_make; refine wpList_make_full _ rfl (.tmp 21) (.tmp 21) 102 rfl (w.heap.size + 1) 3 i0 (.int .i64 0) 1 Tryz.underlying102 hi hz0 hz1 .i64 .i64 (n : Int) (n : Int) n rfl rfl rfl rfl (by rw [hz2]; omega) (by unfold maxLen; omega) (by simp) ?_; intro w4 hown4 hgrow4))
  have hB4 : Below w.heap.size w w4 := ((Below.refl _ w).alloc (Nat.le_refl _) _).grown hgrow4 (by simp) (fun j hj => by cases hj)
  have hO4 : w4.ownsRow (w.heap.size + 1) 3 1 (.slice (some ⟨w.heap.size + 1, 0, none⟩) n n) n ((fillTo n 0).map (Value.int .i64)) := by
    have h := hown4
    rw [Nat.mul_one, show (Value.int .i64 0).cells = #[.int .i64 0] from rfl, toList_madeCells_one] at h
    simp only [World.size_alloc] at h
    rw [fillTo_0, List.map_replicate]
    exact h
  have HB4 := Lib.hid hB4
  have HO4 := Lib.hid hO4
  clear hown4 hgrow4 hB4 hO4
  go_upto_block 0 with fail
  go_cut [7] (fun s7 wr => s7 = .slice (some ⟨w.heap.size + 1, 0, none⟩) n n ∧ wr.ownsRow (w.heap.size + 1) 3 1 (.slice (some ⟨w.heap.size + 1, 0, none⟩) n n) n ((fillTo n n).map (Value.int .i64)) ∧ Below w.heap.size w wr)
  case first =>
    go_wp2_with fail
    go_loopw [24] (fun i wr => ∃ k : Nat, k ≤ n ∧ i = .int .i64 k ∧ wr.ownsRow (w.heap.size + 1) 3 1 (.slice (some ⟨w.heap.size + 1, 0, none⟩) n n) n ((fillTo n k).map (Value.int .i64)) ∧ Below w.heap.size w wr)
      (fun i _ => n - (intOf i).toNat)
    case atStart => exact ⟨0, Nat.zero_le _, rfl, HO4.out, HB4.out⟩
    case round =>
      obtain ⟨k, hk, rfl, hown, hnx⟩ := hrel
      by_cases hlt : k < n
      · have hc : wr.cell? ⟨w.heap.size + 1, k, none⟩ = some (.int .i64 ((fillTo n k)[k]?.getD 0)) := owns_cell hown (by rw [List.getElem?_map, List.getElem?_eq_getElem (by rw [fillTo_len]; exact hlt)]; rfl)
        have hf := hown.frozenAt k
        have hst := (hown.stored k (.int .i64 (k : Int))).1
        rw [← List.map_set, fillTo_set] at hst
        have HST := Lib.hid hst
        have HNX := Lib.hid hnx
        clear hown hst hnx
        go_wp2_with fail
        go_roundw
        case rel => exact ⟨k + 1, by omega, by go_num, HST.out, HNX.out.setCell (p := ⟨w.heap.size + 1, k, none⟩) (by show w.heap.size ≤ w.heap.size + 1; omega) _⟩
        case measure => simp [intOf]; omega
      · obtain rfl : k = n := by omega
        go_wp2_with fail
        go_meet
        exact ⟨rfl, hown, hnx⟩
  case rest =>
    obtain ⟨rfl, hownR, hbR⟩ := hcut
    rw [fillTo_n] at hownR
    go_wp2_with fail
    have HOR := Lib.hid hownR
    have HBR := Lib.hid hbR
    clear hownR hbR
    go_loopw [9, 10] (fun s9 s10 wr => ∃ t : Nat, (t + 1 ≤ n ∨ t = 0) ∧ s9 = .int .i64 (drawS key n t).1 ∧ s10 = .int .i64 ((n : Int) - 1 - (t : Int)) ∧ wr.ownsRow (w.heap.size + 1) 3 1 (.slice (some ⟨w.heap.size + 1, 0, none⟩) n n) n ((drawS key n t).2.map (Value.int .i64)) ∧ Below w.heap.size w wr)
      (fun _ i _ => (intOf i).toNat)
    case atStart => exact ⟨0, .inr rfl, rfl, by congr 1; omega, HOR.out, HBR.out⟩
    case round =>
      obtain ⟨t, ht, rfl, rfl, hown, hnx⟩ := hrel
      by_cases hlt : t + 2 ≤ n
      · have hbd := drawS_bd key n (by omega) t
        have hln := drawS_len key n t
        obtain ⟨i, hi'⟩ : ∃ i : Nat, n - 1 - t = i := ⟨_, rfl⟩
        have ei : (n : Int) - 1 - (t : Int) = (i : Int) := by omega
        have ei2 : (n : Int) - 1 - ((t + 1 : Nat) : Int) = (i : Int) - 1 := by omega
        have hi1 : 1 ≤ i := by omega
        have hin : i < n := by omega
        obtain ⟨x, hx⟩ : ∃ x : Int, (drawS key n t).1 = x := ⟨_, rfl⟩
        obtain ⟨l, hl⟩ : ∃ l : List Int, (drawS key n t).2 = l := ⟨_, rfl⟩
        obtain ⟨X, hX⟩ : ∃ X : Int, 950706376 * x % 2147483647 = X := ⟨_, rfl⟩
        have hX0 : 0 ≤ X ∧ X ≤ 2147483646 := by
          have h1 := Int.emod_nonneg (950706376 * x) (show (2147483647 : Int) ≠ 0 by decide)
          have h2 := Int.emod_lt_of_pos (950706376 * x) (show (0 : Int) < 2147483647 by decide)
          omega
        obtain ⟨j, hj⟩ : ∃ j : Nat, (X % ((i : Int) + 1)).toNat = j := ⟨_, rfl⟩
        have hjb : X % ((i : Int) + 1) = (j : Int) ∧ j ≤ i := by
          have h1 := Int.emod_nonneg X (show ((i : Int) + 1) ≠ 0 by omega)
          have h2 := Int.emod_lt_of_pos X (show (0 : Int) < (i : Int) + 1 by omega)
          omega
        have hS : drawS key n (t + 1) = (X, (l.set i (l[j]?.getD 0)).set j (l[i]?.getD 0)) := by
          simp only [drawS, hx, hl, hi', hX, hj]
        rw [hx] at hbd ⊢
        rw [hl] at hown hln
        rw [ei]
        have w1 : IntKind.i64.wrap (950706376 * x) = 950706376 * x := IntWalk.i64_in _ ⟨by omega, by omega⟩
        have w2 : (950706376 * x).tmod 2147483647 = X := by rw [Int.tmod_eq_emod_of_nonneg (by omega)]; exact hX
        have w3 : IntKind.i64.wrap X = X := IntWalk.i64_in _ ⟨by omega, by omega⟩
        have w4' : X.tmod ((i : Int) + 1) = (j : Int) := by rw [Int.tmod_eq_emod_of_nonneg hX0.1]; exact hjb.1
        have w5 : IntKind.i64.wrap ((i : Int) + 1) = (i : Int) + 1 := IntWalk.i64_in _ ⟨by omega, by omega⟩
        have w6 : IntKind.i64.wrap ((i : Int) - 1) = (i : Int) - 1 := IntWalk.i64_in _ ⟨by omega, by omega⟩
        have w7 : (1 : Int) ≤ (i : Int) := by omega
        have w8 : ¬ ((i : Int) + 1 = 0) := by omega
        have w9 : (i : Int) < (n : Int) := by omega
        have w10 : (j : Int) < (n : Int) := by omega
        have ci : wr.cell? ⟨w.heap.size + 1, i, none⟩ = some (.int .i64 (l[i]?.getD 0)) := owns_cell hown (by rw [List.getElem?_map, List.getElem?_eq_getElem (by omega)]; rfl)
        have cj : wr.cell? ⟨w.heap.size + 1, j, none⟩ = some (.int .i64 (l[j]?.getD 0)) := owns_cell hown (by rw [List.getElem?_map, List.getElem?_eq_getElem (by omega)]; rfl)
        have fi := hown.frozenAt i
        have fj := hown.frozenAt j
        have hst1 := (hown.stored i (.int .i64 (l[j]?.getD 0))).1
        have cj2 : (wr.setCell ⟨w.heap.size + 1, i, none⟩ (.int .i64 (l[j]?.getD 0))).cell? ⟨w.heap.size + 1, j, none⟩ = some (.int .i64 ((l.set i (l[j]?.getD 0))[j]?.getD 0)) := by
          rw [← List.map_set] at hst1
          exact owns_cell hst1 (by rw [List.getElem?_map, List.getElem?_eq_getElem (by simp; omega)]; rfl)
        have fj2 := hst1.frozenAt j
        have hst2 := (hst1.stored j (.int .i64 (l[i]?.getD 0))).1
        rw [← List.map_set, ← List.map_set] at hst2
        have HST := Lib.hid hst2
        have HNX := Lib.hid hnx
        have HS1 := Lib.hid hS
        have HEI := Lib.hid ei2
        clear hst1 hst2 hown hnx hS hX hj hjb hx hl hi' ei ei2 hX0 hbd ht
        go_upto_region 16 with fail
        clear hln
        go_region_with (fail)
        all_goals
          go_wp2_with fail
          go_roundw
          case rel =>
            refine ⟨t + 1, .inl (by omega), ?_⟩
            rw [HS1.out, HEI.out]
            exact ⟨rfl, rfl, HST.out.drew, ((HNX.out.setCell (p := ⟨w.heap.size + 1, i, none⟩) (by show w.heap.size ≤ w.heap.size + 1; omega) _).setCell (p := ⟨w.heap.size + 1, j, none⟩) (by show w.heap.size ≤ w.heap.size + 1; omega) _).drew⟩
          case measure => simp [intOf]; omega
      · have et : t = n - 1 := by omega
        have hi2 : ¬ ((1 : Int) ≤ (n : Int) - 1 - (t : Int)) := by omega
        have hi3 : (n : Int) - 1 - (t : Int) < 1 := by omega
        have HET := Lib.hid et
        have HO := Lib.hid hown
        have HX := Lib.hid hnx
        clear et hown hnx ht
        go_wp2_with fail
        go_ret2
        refine ⟨_, rfl, owns_base ?_ (show w.heap.size ≤ w.heap.size + 1 by omega), HX.out⟩
        have h := HO.out
        rw [HET.out] at h
        exact h
end Go.Proofs.YthfiilfekofimaaGreatDoor

/-
  Contract of power: the powers of -i.
-/
namespace Go.Proofs.YthfiilfekofimaaGreatDoor
open Go.RowKit
set_option linter.unusedVariables false
set_option linter.unusedSimpArgs false

theorem store_complex (P : Program) (w : World) (a : Addr) (m : Mode) (k : FloatKind) (x y : Nat) : (store a (.complex k x y) m).run P w = stored P w a (.complex k x y) m := run_store P w a _ m rfl

/-- The powers of -i, by the exponent modulo 4. -/
def powL : List Value := [.complex .f32 1065353216 0, .complex .f32 0 3212836864, .complex .f32 3212836864 0, .complex .f32 0 1065353216]
theorem powL_at (k : Nat) (hk : k < 4) : ∃ x y, powL[k]? = some (.complex .f32 x y) := by
  match k, hk with
  | 0, _ => exact ⟨_, _, rfl⟩
  | 1, _ => exact ⟨_, _, rfl⟩
  | 2, _ => exact ⟨_, _, rfl⟩
  | 3, _ => exact ⟨_, _, rfl⟩

attribute [local go_sem] store_complex
set_option maxRecDepth 100000 in
set_option maxHeartbeats 3200000 in
theorem power_any (n k : Nat) (v : Value) (hk : n % 4 = k) (hv : powL[k]? = some v) (w : World) :
    Calls Tryz.prog 50 #[.int .i64 n] w fun e w' => e = .returned v ∧ Below w.heap.size w w' := by
  have hk4 : k < 4 := by omega
  have hm : ((n : Int)).tmod 4 = (k : Int) := by rw [Int.tmod_eq_emod_of_nonneg (by omega)]; omega
  obtain ⟨W1, hW1⟩ : ∃ W1, w.alloc (.cells #[.complex .f32 1065353216 0, .complex .f32 0 3212836864, .complex .f32 3212836864 0, .complex .f32 0 1065353216] 26) = W1 := ⟨_, rfl⟩
  have hB : Below w.heap.size w W1 := by rw [← hW1]; exact (Below.refl _ w).alloc (Nat.le_refl _) _
  have hc : W1.cell? ⟨w.heap.size, k, none⟩ = some v := by
    rw [← hW1, cell_of_row _ _ k _ _ (0, 0) (blk_alloc_new _ _)]
    simpa [powL] using hv
  have HB := Lib.hid hB
  go_enter Tryz.func50, Tryz.ntmps50
  go_upto_region 2 with fail
  clear hW1
  go_wp2_with fail
  go_ret
  exact ⟨rfl, HB.out⟩
end Go.Proofs.YthfiilfekofimaaGreatDoor
