/-
  Contract of Binned for a right map whose sides the step divides, and whose sums are those of samples.
-/
import Derived.Test.YtpmjiifdnnhecaaGreatDoorOaaZs
import Derived.Test.YtpmjiifdnnhecaaGreatDoorOaaZt
import Derived.Deep.CutBlock
import Derived.Deep.DeepCutAuto
import Derived.Deep.RegionHeld3
import Derived.StillTailTactics
import Derived.Test.YtpmjiifdnnhecaaGreatDoorOaaWk
import Derived.Test.YtpmjiifdnnhecaaGreatDoorOaaWc
import Derived.Test.YtpmjiifdnnhecaaGreatDoorOaaXe
namespace Go.Proofs.YtpmjiifdnnhecaaGreatDoor
open Go.RowKit Go.Shelf
set_option linter.unusedVariables false
set_option linter.unusedSimpArgs false
attribute [local go_sem] Oper.semAt_some

set_option maxRecDepth 100000 in
set_option maxHeartbeats 6400000 in
theorem binned_any (W H s WW HH : Nat) (hs1 : 1 ≤ s) (hs : s ≤ 64) (hWd : WW * s = W) (hHd : HH * s = H) (b o c n : Nat) (xs : List Nat) (ks : List Int) (w : World) (hA : RightMap w W H b o n xs ks) (hb : b < w.heap.size)
    (hsum : ∀ p : Nat × Nat, (binTo W ks s p.1 p.2 (placesTo s (s * s))).natAbs ≤ 16384) :
    Calls Tryz.prog 70 #[.agg #[.int .i64 W, .int .i64 H, .slice (some ⟨b, o, none⟩) n c], .int .i64 s] w fun e w' =>
      ∃ g, e = .returned (.tuple #[.agg #[.int .i64 WW, .int .i64 HH, .slice (some ⟨g, 0, none⟩) (WW * HH) (WW * HH)], .int .i64 0]) ∧ g < w'.heap.size ∧
        (∀ j, j < WW * HH → w'.cell? ⟨g, j, none⟩ = some (.float .f32 (smpOf (binTo W ks s (j % WW) (j / WW) (placesTo s (s * s)))))) ∧ Below w.heap.size w w' := by
  have HSUM := Lib.hid hsum
  clear hsum
  obtain ⟨W0, hW0⟩ : ∃ W0, ((w.alloc (.cells #[.int .i64 W, .int .i64 H, .slice (some ⟨b, o, none⟩) n c] 121)).alloc (.cells #[.int .i64 s] 3)).alloc (.cells #[.int .i64 0, .int .i64 0, .slice none 0 0] 121) = W0 := ⟨_, rfl⟩
  have hB0 : Below w.heap.size w W0 := by rw [← hW0]; exact (((Below.refl _ w).alloc (Nat.le_refl _) _).alloc (by simp) _).alloc (by simp; omega) _
  have hS0 : W0.heap.size = w.heap.size + 3 := by rw [← hW0]; simp
  have a0 : W0.cell? ⟨w.heap.size, 0, none⟩ = some (.int .i64 W) := by rw [← hW0]; simp [go_sem]
  have a1 : W0.cell? ⟨w.heap.size, 1, none⟩ = some (.int .i64 H) := by rw [← hW0]; simp [go_sem]
  have a2 : W0.cell? ⟨w.heap.size, 2, none⟩ = some (.slice (some ⟨b, o, none⟩) n c) := by rw [← hW0]; simp [go_sem]
  have c0 : W0.cell? ⟨w.heap.size + 1, 0, none⟩ = some (.int .i64 s) := by rw [← hW0]; simp [go_sem]
  have z0 : W0.cell? ⟨w.heap.size + 1 + 1, 0, none⟩ = some (.int .i64 0) := by rw [← hW0]; simp [go_sem]
  have z1 : W0.cell? ⟨w.heap.size + 1 + 1, 1, none⟩ = some (.int .i64 0) := by rw [← hW0]; simp [go_sem]
  have z2 : W0.cell? ⟨w.heap.size + 1 + 1, 2, none⟩ = some (.slice none 0 0) := by rw [← hW0]; simp [go_sem]
  have zf : ∀ j, W0.frozen? ⟨w.heap.size + 1 + 1, j, none⟩ = false := fun j => by rw [← hW0]; simp [go_sem]
  have KA : ∀ w1 : World, Blw (w.heap.size + 3) W0 w1 → Calls Tryz.prog 134 #[.agg #[.int .i64 W, .int .i64 H, .slice (some ⟨b, o, none⟩) n c]] w1 fun e w' => e = .returned (.int .i64 0) ∧ Below (w.heap.size + 3) W0 w' := fun w1 (h : Below (w.heap.size + 3) W0 w1) => by
    have h1 := h.size
    have h2 := hB0.trans (h.mono (by omega))
    exact (checkMap_any W H b o n c xs ks w1 (hA.below h2 hb) (by omega)).mono fun e w' ⟨he, hw⟩ => ⟨he, h.trans (hw.mono (by omega))⟩
  have K2 : Hid (∀ w1 : World, Below W0.heap.size W0 w1 → Calls Tryz.prog 135 #[.agg #[.int .i64 W, .int .i64 H, .slice (some ⟨b, o, none⟩) n c]] w1 fun e w' =>
      ∃ g, e = .returned (.agg #[.int .i64 W, .int .i64 H, .slice (some ⟨g, 0, none⟩) n n]) ∧ w1.heap.size ≤ g ∧ RowAt w' g n ks ∧ Below w1.heap.size w1 w') := Lib.hid (fun w1 h => by
    have h1 := h.size
    have h2 := hB0.trans (h.mono (by omega))
    exact grid_row W H b o n c xs ks w1 (hA.below h2 hb).toWords (by omega))
  have rS : rangeErr (s : Int) 1 64 = 0 := rangeErr_in (by omega) (by omega)
  have KS : Hid (∀ w1 : World, Calls Tryz.prog 137 #[.int .i64 s] w1 fun e w' => e = .returned (.int .i64 0) ∧ w1 = w') := Lib.hid fun w1 => by have h := checkSide_any (s : Int) w1; rw [rS] at h; exact h
  have hW := hA.wid
  have hH := hA.hei
  have eW : (W : Int) = (WW : Int) * (s : Int) := by rw [← hWd]; push_cast; rfl
  have eH : (H : Int) = (HH : Int) * (s : Int) := by rw [← hHd]; push_cast; rfl
  have mW : (W : Int).tmod (s : Int) = 0 := by rw [eW]; exact Int.mul_tmod_left _ _
  have mH : (H : Int).tmod (s : Int) = 0 := by rw [eH]; exact Int.mul_tmod_left _ _
  have dW : (W : Int).tdiv (s : Int) = (WW : Int) := by rw [eW]; exact Int.mul_tdiv_cancel _ (by omega)
  have dH : (H : Int).tdiv (s : Int) = (HH : Int) := by rw [eH]; exact Int.mul_tdiv_cancel _ (by omega)
  have hWW : WW ≤ 64 := Nat.le_trans (Nat.le_mul_of_pos_right WW hs1) (by omega)
  have hHH : HH ≤ 64 := Nat.le_trans (Nat.le_mul_of_pos_right HH hs1) (by omega)
  have iW : IntKind.i64.wrap (WW : Int) = (WW : Int) := IntWalk.i64_in _ ⟨by omega, by omega⟩
  have iH : IntKind.i64.wrap (HH : Int) = (HH : Int) := IntWalk.i64_in _ ⟨by omega, by omega⟩
  have ns : ¬ ((s : Int) = 0) := by omega
  have ns0 : ¬ (s = 0) := by omega
  have HKA := Lib.hid KA
  have HB0 := Lib.hid hB0
  have HS0 := Lib.hid hS0
  have HRA := Lib.hid hA
  have HWD := Lib.hid hWd
  have HHD := Lib.hid hHd
  have HS3 : w.heap.size + 3 ≤ W0.heap.size := by omega
  have hR : Blw (w.heap.size + 3) W0 W0.drew := show Below _ _ _ from (Below.refl (w.heap.size + 3) W0).drew
  clear KA hA hB0 rS eW eH hWd hHd hS0
  go_enter Tryz.func70, Tryz.ntmps70
  go_upto_region 1 with fail
  try rw [hW0]
  clear hW0
  go_region_held3 (fun w' => w'.cell? ⟨w.heap.size, 0, none⟩ = some (.int .i64 W) ∧ w'.cell? ⟨w.heap.size, 1, none⟩ = some (.int .i64 H) ∧ w'.cell? ⟨w.heap.size, 2, none⟩ = some (.slice (some ⟨b, o, none⟩) n c) ∧
      w'.cell? ⟨w.heap.size + 1, 0, none⟩ = some (.int .i64 s) ∧ Blw (w.heap.size + 3) W0 w')
    (first
      | (go_split_ands; refine ⟨?_, ?_, ?_, ?_, ?_⟩ <;> first | assumption | exact hb1 | ((rw [hb1.cell (by simp; try omega)]; assumption)))
      | (go_split_ands; refine ⟨?_, ?_, ?_, ?_, ?_⟩ <;> first | ((rw [(hb1.alloc (by have := hb1.size; have := HS0.out; omega) _).cell (by simp; try omega)]; assumption)) | exact (hb1.alloc (by have := hb1.size; have := HS0.out; omega) _ : Below _ _ _))
      | go_keep)
    (first
      | (go_at_call 134; refine (HKA.out _ ?_).mono ?_; rotate_left 1; rintro e w' ⟨rfl, hb1⟩; rotate_left 1; (simp [*]))
      | (go_at_call 137; refine (KS.out _).mono ?_; rintro e w' ⟨rfl, rfl⟩)
      | ((go_at_call 77; refine (first_zeros _ 0 2 2 (by omega) _ ?_).mono ?_; rotate_left 1; rintro e w' ⟨rfl, rfl⟩; rotate_left 1; (intro j hj; match j, hj with | 0, _ => simp [go_sem] | 1, _ => simp [go_sem]))))
  have hb2 : Below (w.heap.size + 3) W0 (w'.alloc (.cells #[.int .i64 0, .int .i64 0] 26)) := hb1.alloc (by have := hb1.size; have := HS0.out; omega) _
  obtain ⟨W1, hW1⟩ : ∃ W1, w'.alloc (.cells #[.int .i64 0, .int .i64 0] 26) = W1 := ⟨_, rfl⟩
  rw [hW1] at hb2 ⊢
  clear hW1 hb1
  have hb2' : Below W0.heap.size W0 W1 := by rw [HS0.out]; exact hb2
  have a0' := (hb2.cell (p := ⟨w.heap.size, 0, none⟩) (by show w.heap.size < _; omega)).trans a0
  have a1' := (hb2.cell (p := ⟨w.heap.size, 1, none⟩) (by show w.heap.size < _; omega)).trans a1
  have a2' := (hb2.cell (p := ⟨w.heap.size, 2, none⟩) (by show w.heap.size < _; omega)).trans a2
  have c0' := (hb2.cell (p := ⟨w.heap.size + 1, 0, none⟩) (by show w.heap.size + 1 < _; omega)).trans c0
  have HBW := Lib.hid hb2'
  clear hb2 hb2' hR
  go_upto_region 7 with (
    ((go_at_call 135; refine (K2.out _ (by first | exact HBW.out | exact HBW.out.drew)).mono ?_; rintro e w2 ⟨ga, rfl, hga, hRA, hb2⟩)))
  have hs2 := hb2.size
  have hsW := HBW.out.size
  have hszA : W1.heap.size ≤ w2.heap.size := hs2
  have hRA2 := hRA.below ((Below.refl _ w2).alloc (Nat.le_refl _) (.cells #[.int .i64 W, .int .i64 H, .slice (some ⟨ga, 0, none⟩) n n] 225)) hRA.lt
  obtain ⟨W3, hW3⟩ : ∃ W3, w2.alloc (.cells #[.int .i64 W, .int .i64 H, .slice (some ⟨ga, 0, none⟩) n n] 225) = W3 := ⟨_, rfl⟩
  have hS3 : W3.heap.size = w2.heap.size + 1 := by rw [← hW3]; simp
  have hB12 : Below W0.heap.size W0 w2 := HBW.out.trans ((show Below W1.heap.size W1 w2 from by first | exact hb2 | exact ((Below.refl W1.heap.size W1).drew).trans hb2).mono hsW)
  have hB3 : Below W0.heap.size W0 W3 := by rw [← hW3]; exact hB12.alloc (by omega) _
  have hG3 : GridAt W3 w2.heap.size W H ga n n := by rw [← hW3]; exact ⟨by simp [go_sem], by simp [go_sem], by simp [go_sem]⟩
  rw [hW3] at hRA2
  try rw [hW3]
  clear hW3
  obtain ⟨q0, q1, q2⟩ := hG3
  have hG3 : GridAt W3 w2.heap.size W H ga n n := ⟨q0, q1, q2⟩
  have c0' := (hB3.cell (p := ⟨w.heap.size + 1, 0, none⟩) (by show w.heap.size + 1 < _; omega)).trans c0
  have z0' := (hB3.cell (p := ⟨w.heap.size + 1 + 1, 0, none⟩) (by show w.heap.size + 1 + 1 < _; omega)).trans z0
  have z1' := (hB3.cell (p := ⟨w.heap.size + 1 + 1, 1, none⟩) (by show w.heap.size + 1 + 1 < _; omega)).trans z1
  have z2' := (hB3.cell (p := ⟨w.heap.size + 1 + 1, 2, none⟩) (by show w.heap.size + 1 + 1 < _; omega)).trans z2
  have zf' : ∀ j, W3.frozen? ⟨w.heap.size + 1 + 1, j, none⟩ = false := fun j => (hB3.frozen (p := ⟨w.heap.size + 1 + 1, j, none⟩) (by show w.heap.size + 1 + 1 < _; omega)).trans (zf j)
  have hN : W * H = n := by have := HRA.out.area; exact_mod_cast this
  have hbd : ∀ j : Nat, (ks[j]?.getD 0 : Int).natAbs ≤ 16384 := fun j => by
    by_cases hj : j < n
    · exact HRA.out.sizes _ hj
    · rw [List.getElem?_eq_none (by rw [HRA.out.lenk]; omega)]; simp
  have KP := Lib.hid (callsIn_wide.1 (painted_binned WW HH hWW hHH (w.heap.size + 1) w2.heap.size W3.drew (fun p => binTo W ks s p.1 p.2 (placesTo s (s * s))) (fun p => HSUM.out p) (fun p Wx hp h1' => by
    have h1 : Below W3.heap.size W3 Wx := (Below.refl W3.heap.size W3).drew.trans h1'
    have hsz := h1.size
    have hR1 := hRA2.below h1 hRA2.lt
    have hx : p.1 * s + s ≤ W := by have := Nat.mul_le_mul_right s (show p.1 + 1 ≤ WW by omega); rw [Nat.add_mul, HWD.out] at this; omega
    have hy : p.2 * s + s ≤ H := by have := Nat.mul_le_mul_right s (show p.2 + 1 ≤ HH by omega); rw [Nat.add_mul, HHD.out] at this; omega
    exact binlit_any W H p.1 p.2 s ga n (w.heap.size + 1) w2.heap.size ks (by omega) (by omega) hs1 hs hx hy hN hbd Wx ((h1.cell (p := ⟨w.heap.size + 1, 0, none⟩) (by show w.heap.size + 1 < _; omega)).trans c0') (hG3.below h1 (by omega)) hR1 (by omega) (by omega))))
  have HZ := Lib.hid zf'
  have HB3 := Lib.hid hB3
  clear hRA hRA2 a0 a1 a2 a0' a1' a2' z0 z1 z2 zf zf' hB3 hN hb2 hG3 hB12 c0 hbd
  have hn1 : ¬ (w.heap.size + 1 + 1 = w2.heap.size) := by omega
  have hn2 : ¬ (w2.heap.size = w.heap.size + 1 + 1) := by omega
  go_region_held3 (fun w' => w'.cell? ⟨w2.heap.size, 0, none⟩ = some (.int .i64 W) ∧ w'.cell? ⟨w2.heap.size, 1, none⟩ = some (.int .i64 H) ∧ w'.cell? ⟨w.heap.size + 1, 0, none⟩ = some (.int .i64 s))
    (first | go_keep | (go_split_ands; refine ⟨?_, ?_, ?_⟩ <;> (rw [hb5.cell (by simp; try omega)]; assumption)))
    ((go_at_call 138; refine KP.out.mono ?_; rintro e w5 ⟨g, rfl, hown5', hb5'⟩
      have hown5 : w5.ownsRow W3.heap.size 119 1 (.slice (some ⟨g, 0, none⟩) (WW * HH) (WW * HH)) (WW * HH) ((placesTo WW (HH * WW)).map (fun p => Value.float .f32 (smpOf (binTo W ks s p.1 p.2 (placesTo s (s * s)))))) := hown5'
      clear hown5'
      have hb5 : Below W3.heap.size W3 w5 := (Below.refl W3.heap.size W3).drew.trans hb5'
      have s0 : w5.cell? ⟨w.heap.size + 1 + 1, 0, none⟩ = some (.int .i64 0) := (hb5.cell (p := ⟨w.heap.size + 1 + 1, 0, none⟩) (by show w.heap.size + 1 + 1 < _; omega)).trans z0'
      have s1 : w5.cell? ⟨w.heap.size + 1 + 1, 1, none⟩ = some (.int .i64 0) := (hb5.cell (p := ⟨w.heap.size + 1 + 1, 1, none⟩) (by show w.heap.size + 1 + 1 < _; omega)).trans z1'
      have s2 : w5.cell? ⟨w.heap.size + 1 + 1, 2, none⟩ = some (.slice none 0 0) := (hb5.cell (p := ⟨w.heap.size + 1 + 1, 2, none⟩) (by show w.heap.size + 1 + 1 < _; omega)).trans z2'
      have f0 : w5.frozen? ⟨w.heap.size + 1 + 1, 0, none⟩ = false := (hb5.frozen (p := ⟨w.heap.size + 1 + 1, 0, none⟩) (by show w.heap.size + 1 + 1 < _; omega)).trans (HZ.out 0)
      have f1 : w5.frozen? ⟨w.heap.size + 1 + 1, 1, none⟩ = false := (hb5.frozen (p := ⟨w.heap.size + 1 + 1, 1, none⟩) (by show w.heap.size + 1 + 1 < _; omega)).trans (HZ.out 1)
      have f2 : w5.frozen? ⟨w.heap.size + 1 + 1, 2, none⟩ = false := (hb5.frozen (p := ⟨w.heap.size + 1 + 1, 2, none⟩) (by show w.heap.size + 1 + 1 < _; omega)).trans (HZ.out 2)))
  all_goals
    go_wp2
    have hsz5 := hb5.size
    have hg5 : W3.heap.size ≤ g ∧ g < w5.heap.size := hown5.lt g rfl
    rw [Nat.mul_comm HH WW] at hown5
    refine bodyPost_ret (v := .tuple #[.agg #[.int .i64 WW, .int .i64 HH, .slice (some ⟨g, 0, none⟩) (WW * HH) (WW * HH)], .int .i64 0]) (by simp [results, Tryz.results70, go_sem, s0, s1, s2]) rfl ⟨g, rfl, ?_, ?_, ?_⟩
    · simp; omega
    · intro j hj
      refine owns_cell (ownsRow_setCell_below (ownsRow_setCell_below (ownsRow_setCell_below hown5 (by dsimp only; omega) _) (by dsimp only; omega) _) (by dsimp only; omega) _) ?_
      rw [List.getElem?_map, placesTo_get WW (WW * HH) j hj, Option.map_some]
    · exact (((HB0.out.trans (HB3.out.mono (by omega))).trans (hb5.mono (by omega))).setCell (p := ⟨w.heap.size + 1 + 1, 0, none⟩) (by dsimp only; omega) _ |>.setCell (p := ⟨w.heap.size + 1 + 1, 1, none⟩) (by dsimp only; omega) _).setCell (p := ⟨w.heap.size + 1 + 1, 2, none⟩) (by dsimp only; omega) _
end Go.Proofs.YtpmjiifdnnhecaaGreatDoor

/-
  Contract of power: the powers of -i.
-/
namespace Go.Proofs.YtpmjiifdnnhecaaGreatDoor
open Go.RowKit
set_option linter.unusedVariables false
set_option linter.unusedSimpArgs false

theorem store_complex (P : Program) (w : World) (a : Addr) (m : Mode) (k : FloatKind) (x y : Nat) : (store a (.complex k x y) m).run P w = stored P w a (.complex k x y) m := run_store P w a _ m rfl

/-- The powers of -i, by the exponent modulo 4. -/
def powL : List Value := [.complex .f32 1065353216 0, .complex .f32 0 3212836864, .complex .f32 3212836864 0, .complex .f32 0 1065353216]
attribute [local go_sem] store_complex
set_option maxRecDepth 100000 in
set_option maxHeartbeats 3200000 in
theorem power_any (n k : Nat) (v : Value) (hk : n % 4 = k) (hv : powL[k]? = some v) (w : World) :
    Calls Tryz.prog 157 #[.int .i64 n] w fun e w' => e = .returned v ∧ Below w.heap.size w w' := by
  have hk4 : k < 4 := by omega
  have hm : ((n : Int)).tmod 4 = (k : Int) := by rw [Int.tmod_eq_emod_of_nonneg (by omega)]; omega
  obtain ⟨W1, hW1⟩ : ∃ W1, w.alloc (.cells #[.complex .f32 1065353216 0, .complex .f32 0 3212836864, .complex .f32 3212836864 0, .complex .f32 0 1065353216] 136) = W1 := ⟨_, rfl⟩
  have hB : Below w.heap.size w W1 := by rw [← hW1]; exact (Below.refl _ w).alloc (Nat.le_refl _) _
  have hc : W1.cell? ⟨w.heap.size, k, none⟩ = some v := by
    rw [← hW1, cell_of_row _ _ k _ _ (0, 0) (blk_alloc_new _ _)]
    simpa [powL] using hv
  have HB := Lib.hid hB
  go_enter Tryz.func157, Tryz.ntmps157
  go_upto_region 2 with fail
  clear hW1
  go_wp2_with fail
  go_ret
  exact ⟨rfl, HB.out⟩
end Go.Proofs.YtpmjiifdnnhecaaGreatDoor
