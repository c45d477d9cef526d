/-
  Contracts of Part's literal and of Part for a right map and two spans on it.
-/
import Derived.Test.YtfdkmmllemkogaaGreatDoorOZa
import Derived.Test.YtfdkmmllemkogaaGreatDoorOZe
namespace Go.Proofs.YtfdkmmllemkogaaGreatDoor
open Go.RowKit
set_option linter.unusedVariables false

set_option maxRecDepth 100000 in
set_option maxHeartbeats 3200000 in
theorem partlit_any (W H X Y C0 R0 : Nat) (g n c g7 g8 : Nat) (v : Int) (hW : W ≤ 64) (hH : H ≤ 64) (hX : C0 + X < W) (hY : R0 + Y < H) (w : World)
    (hn : (R0 + Y) * W + (C0 + X) < n) (g7l : g7 < w.heap.size) (g8l : g8 < w.heap.size) (gl : g < w.heap.size) (hA : GridAt w g7 W H g n c) (h8 : w.cell? ⟨g8, 0, none⟩ = some (.int .i64 C0)) (h9 : w.cell? ⟨g8, 1, none⟩ = some (.int .i64 R0))
    (hc : w.cell? ⟨g, (R0 + Y) * W + (C0 + X), none⟩ = some (.int .i64 v)) :
    Calls Tryz.prog 133 #[.agg #[.int .i64 X, .int .i64 Y], .pointer (some ⟨g7, 0, none⟩), .pointer (some ⟨g8, 0, none⟩)] w fun e w' => e = .returned (.int .i64 v) ∧ Below w.heap.size w w' := by
  obtain ⟨a0, a1, a2⟩ := hA
  have m1 : (R0 + Y) * W ≤ 64 * 64 := Nat.mul_le_mul (by omega) hW
  have e2 : ((R0 : Int) + (Y : Int)) * (W : Int) = (((R0 + Y) * W : Nat) : Int) := by push_cast; rfl
  have e1 : (((R0 : Int) + (Y : Int)) * (W : Int) + ((C0 : Int) + (X : Int))).toNat = (R0 + Y) * W + (C0 + X) := by rw [e2]; omega
  obtain ⟨W0, hW0⟩ : ∃ W0, w.alloc (.cells #[.int .i64 X, .int .i64 Y] 50) = W0 := ⟨_, rfl⟩
  have hB0 : Below w.heap.size w W0 := by rw [← hW0]; exact (Below.refl _ w).alloc (Nat.le_refl _) _
  have hS0 : W0.heap.size = w.heap.size + 1 := by rw [← hW0]; simp
  have p0 : W0.cell? ⟨w.heap.size, 0, none⟩ = some (.int .i64 X) := by rw [← hW0]; simp [go_sem]
  have p1 : W0.cell? ⟨w.heap.size, 1, none⟩ = some (.int .i64 Y) := by rw [← hW0]; simp [go_sem]
  have b0 := (hB0.cell (p := ⟨g7, 0, none⟩) g7l).trans a0
  have b1 := (hB0.cell (p := ⟨g7, 1, none⟩) g7l).trans a1
  have b2 := (hB0.cell (p := ⟨g7, 2, none⟩) g7l).trans a2
  have d0 := (hB0.cell (p := ⟨g8, 0, none⟩) g8l).trans h8
  have d1 := (hB0.cell (p := ⟨g8, 1, none⟩) g8l).trans h9
  have hcW := (hB0.cell (p := ⟨g, (R0 + Y) * W + (C0 + X), none⟩) gl).trans hc
  have l7 : g7 < W0.heap.size := by omega
  have l8 : g8 < W0.heap.size := by omega
  have lp : w.heap.size < W0.heap.size := by omega
  have HK : Hid (∀ w1 : World, Blw W0.heap.size W0 w1 → Calls Tryz.prog 126 #[.agg #[.int .i64 W, .int .i64 H, .slice (some ⟨g, 0, none⟩) n c], .agg #[.int .i64 ((C0 : Int) + (X : Int)), .int .i64 ((R0 : Int) + (Y : Int))]] w1 fun e w' => e = .returned (.int .i64 v) ∧ Blw W0.heap.size W0 w') := Lib.hid fun w1 (h : Below W0.heap.size W0 w1) => by
    have hs := h.size
    exact (at_any W H ((C0 : Int) + (X : Int)) ((R0 : Int) + (Y : Int)) g n c v (by omega) (by omega) (by omega) (by rw [e2]; omega) w1 (by rw [e2]; omega) (by omega) (by rw [e1]; exact (h.cell (p := ⟨g, _, none⟩) (by show g < _; omega)).trans hcW)).mono fun e w' ⟨he, hw⟩ => ⟨he, h.trans (hw.mono hs)⟩
  have HP : Hid (∀ w1 : World, Blw W0.heap.size W0 w1 → Calls Tryz.prog 134 #[.agg #[.int .i64 C0, .int .i64 R0], .agg #[.int .i64 X, .int .i64 Y]] w1 fun e w' => e = .returned (.agg #[.int .i64 ((C0 : Int) + (X : Int)), .int .i64 ((R0 : Int) + (Y : Int))]) ∧ Blw W0.heap.size W0 w') := Lib.hid fun w1 (h : Below W0.heap.size W0 w1) =>
    (plus_any C0 R0 X Y (by unfold Far; omega) (by unfold Far; omega) (by unfold Far; omega) (by unfold Far; omega) w1).mono fun e w' ⟨he, hw⟩ => ⟨he, h.trans (hw.mono h.size)⟩
  have hB : Blw W0.heap.size W0 W0 := show Below _ _ _ from Below.refl _ _
  have hB' : Blw W0.heap.size W0 W0.drew := show Below _ _ _ from (Below.refl W0.heap.size W0).drew
  have HB0 := Lib.hid hB0
  clear e1 e2 hc hcW m1 hB0 hn a0 a1 a2 h8 h9
  go_enter Tryz.func133, Tryz.ntmps133
  go_upto_region 1 with fail
  try rw [hW0]
  clear hW0
  go_region_held3 (fun w' => w'.cell? ⟨w.heap.size, 0, none⟩ = some (.int .i64 X) ∧ w'.cell? ⟨w.heap.size, 1, none⟩ = some (.int .i64 Y) ∧ w'.cell? ⟨g7, 0, none⟩ = some (.int .i64 W) ∧ w'.cell? ⟨g7, 1, none⟩ = some (.int .i64 H) ∧ w'.cell? ⟨g7, 2, none⟩ = some (.slice (some ⟨g, 0, none⟩) n c) ∧
      w'.cell? ⟨g8, 0, none⟩ = some (.int .i64 C0) ∧ w'.cell? ⟨g8, 1, none⟩ = some (.int .i64 R0) ∧ Blw W0.heap.size W0 w')
    (first
      | (go_split_ands; refine ⟨?_, ?_, ?_, ?_, ?_, ?_, ?_, ?_⟩ <;> with_reducible assumption)
      | (go_split_ands; refine ⟨?_, ?_, ?_, ?_, ?_, ?_, ?_, ?_⟩ <;> first | (with_reducible assumption) | (rw [Below.cell (w := W0) (by assumption : Blw W0.heap.size W0 _) (by assumption)]; assumption))
      | (go_keep; done))
    (first
      | (go_at_call 134; with_reducible refine (HP.out _ (by assumption)).mono ?_; rintro e w1 ⟨rfl, hb1⟩)
      | (go_at_call 126; with_reducible refine (HK.out _ (by assumption)).mono ?_; rintro e w2 ⟨rfl, hb2⟩))
  all_goals
    go_wp2_with fail
    go_ret
    exact ⟨rfl, HB0.out.trans (Below.mono hb2 (by omega))⟩

set_option maxRecDepth 100000 in
set_option maxHeartbeats 6400000 in
theorem part_any (W H C0 DW R0 DH : Nat) (hC : 1 ≤ DW ∧ C0 + DW ≤ W) (hR : 1 ≤ DH ∧ R0 + DH ≤ H) (b o c n : Nat) (xs : List Nat) (ks : List Int) (w : World) (hA : RightMap w W H b o n xs ks) (hb : b < w.heap.size) :
    Calls Tryz.prog 49 #[.agg #[.int .i64 W, .int .i64 H, .slice (some ⟨b, o, none⟩) n c], .agg #[.int .i64 C0, .int .i64 ((C0 : Int) + (DW : Int))], .agg #[.int .i64 R0, .int .i64 ((R0 : Int) + (DH : Int))]] w fun e w' =>
      ∃ g, e = .returned (.tuple #[.agg #[.int .i64 DW, .int .i64 DH, .slice (some ⟨g, 0, none⟩) (DW * DH) (DW * DH)], .int .i64 0]) ∧ g < w'.heap.size ∧
        (∀ j, j < DW * DH → w'.cell? ⟨g, j, none⟩ = some (.float .f32 (smpOf (ks[(R0 + j / DW) * W + (C0 + j % DW)]?.getD 0)))) ∧ Below w.heap.size w w' := by
  obtain ⟨W0, hW0⟩ : ∃ W0, (((w.alloc (.cells #[.int .i64 W, .int .i64 H, .slice (some ⟨b, o, none⟩) n c] 54)).alloc (.cells #[.int .i64 C0, .int .i64 ((C0 : Int) + (DW : Int))] 70)).alloc (.cells #[.int .i64 R0, .int .i64 ((R0 : Int) + (DH : Int))] 70)).alloc (.cells #[.int .i64 0, .int .i64 0, .slice none 0 0] 54) = W0 := ⟨_, rfl⟩
  have hB0 : Below w.heap.size w W0 := by rw [← hW0]; exact ((((Below.refl _ w).alloc (Nat.le_refl _) _).alloc (by simp) _).alloc (by simp; omega) _).alloc (by simp; omega) _
  have hS0 : W0.heap.size = w.heap.size + 4 := by rw [← hW0]; simp
  have a0 : W0.cell? ⟨w.heap.size, 0, none⟩ = some (.int .i64 W) := by rw [← hW0]; simp [go_sem]
  have a1 : W0.cell? ⟨w.heap.size, 1, none⟩ = some (.int .i64 H) := by rw [← hW0]; simp [go_sem]
  have a2 : W0.cell? ⟨w.heap.size, 2, none⟩ = some (.slice (some ⟨b, o, none⟩) n c) := by rw [← hW0]; simp [go_sem]
  have c0 : W0.cell? ⟨w.heap.size + 1, 0, none⟩ = some (.int .i64 C0) := by rw [← hW0]; simp [go_sem]
  have c1 : W0.cell? ⟨w.heap.size + 1, 1, none⟩ = some (.int .i64 ((C0 : Int) + (DW : Int))) := by rw [← hW0]; simp [go_sem]
  have r0 : W0.cell? ⟨w.heap.size + 1 + 1, 0, none⟩ = some (.int .i64 R0) := by rw [← hW0]; simp [go_sem]
  have r1 : W0.cell? ⟨w.heap.size + 1 + 1, 1, none⟩ = some (.int .i64 ((R0 : Int) + (DH : Int))) := by rw [← hW0]; simp [go_sem]
  have z0 : W0.cell? ⟨w.heap.size + 1 + 1 + 1, 0, none⟩ = some (.int .i64 0) := by rw [← hW0]; simp [go_sem]
  have z1 : W0.cell? ⟨w.heap.size + 1 + 1 + 1, 1, none⟩ = some (.int .i64 0) := by rw [← hW0]; simp [go_sem]
  have z2 : W0.cell? ⟨w.heap.size + 1 + 1 + 1, 2, none⟩ = some (.slice none 0 0) := by rw [← hW0]; simp [go_sem]
  have zf : ∀ j, W0.frozen? ⟨w.heap.size + 1 + 1 + 1, j, none⟩ = false := fun j => by rw [← hW0]; simp [go_sem]
  have K1 := Lib.hid (checkMap_any W H b o n c xs ks W0 (hA.below hB0 hb) (by omega))
  have K2 : Hid (∀ w1 : World, Below W0.heap.size W0 w1 → Calls Tryz.prog 123 #[.agg #[.int .i64 W, .int .i64 H, .slice (some ⟨b, o, none⟩) n c]] w1 fun e w' =>
      ∃ g, e = .returned (.agg #[.int .i64 W, .int .i64 H, .slice (some ⟨g, 0, none⟩) n n]) ∧ w1.heap.size ≤ g ∧ RowAt w' g n ks ∧ Below w1.heap.size w1 w') := Lib.hid (fun w1 h => by
    have h1 := h.size
    have h2 := hB0.trans (h.mono (by omega))
    exact grid_row W H b o n c xs ks w1 (hA.below h2 hb).toWords (by omega))
  have KC : Hid (∀ w1 : World, Blw (w.heap.size + 4) W0 w1 → Calls Tryz.prog 131 #[.agg #[.int .i64 C0, .int .i64 ((C0 : Int) + (DW : Int))], .int .i64 W] w1 fun e w' => e = .returned (.int .i64 0) ∧ Below (w.heap.size + 4) W0 w') := Lib.hid fun w1 (h : Below (w.heap.size + 4) W0 w1) =>
    (checkSpan_any C0 ((C0 : Int) + (DW : Int)) W (by omega) (by omega) (by omega) w1).mono fun e w' ⟨he, hw⟩ => ⟨he, h.trans (hw.mono (by have := h.size; omega))⟩
  have KR : Hid (∀ w1 : World, Blw (w.heap.size + 4) W0 w1 → Calls Tryz.prog 131 #[.agg #[.int .i64 R0, .int .i64 ((R0 : Int) + (DH : Int))], .int .i64 H] w1 fun e w' => e = .returned (.int .i64 0) ∧ Below (w.heap.size + 4) W0 w') := Lib.hid fun w1 (h : Below (w.heap.size + 4) W0 w1) =>
    (checkSpan_any R0 ((R0 : Int) + (DH : Int)) H (by omega) (by omega) (by omega) w1).mono fun e w' ⟨he, hw⟩ => ⟨he, h.trans (hw.mono (by have := h.size; omega))⟩
  have hW := hA.wid
  have hH := hA.hei
  have i1 : IntKind.i64.wrap ((C0 : Int) + (DW : Int) - (C0 : Int)) = (DW : Int) := by rw [show (C0 : Int) + (DW : Int) - (C0 : Int) = DW by omega]; exact IntWalk.i64_in _ ⟨by omega, by omega⟩
  have i2 : IntKind.i64.wrap ((R0 : Int) + (DH : Int) - (R0 : Int)) = (DH : Int) := by rw [show (R0 : Int) + (DH : Int) - (R0 : Int) = DH by omega]; exact IntWalk.i64_in _ ⟨by omega, by omega⟩
  have HB0 := Lib.hid hB0
  have HS0 := Lib.hid hS0
  have HRA := Lib.hid hA
  clear hA hB0
  go_enter Tryz.func49, Tryz.ntmps49
  go_upto_region 1 with fail
  try rw [hW0]
  clear hW0
  go_upto_region 4 with (
    ((go_at_call 47; refine K1.out.mono ?_; rintro e w1 ⟨rfl, hb1⟩
      have hs1 := hb1.size
      have hbA : Below (w.heap.size + 4) W0 w1 := hb1.mono (by omega)
      clear hb1)))
  have a0' := (hbA.cell (p := ⟨w.heap.size, 0, none⟩) (by show w.heap.size < _; omega)).trans a0
  have a1' := (hbA.cell (p := ⟨w.heap.size, 1, none⟩) (by show w.heap.size < _; omega)).trans a1
  have a2' := (hbA.cell (p := ⟨w.heap.size, 2, none⟩) (by show w.heap.size < _; omega)).trans a2
  have c0' := (hbA.cell (p := ⟨w.heap.size + 1, 0, none⟩) (by show w.heap.size + 1 < _; omega)).trans c0
  have c1' := (hbA.cell (p := ⟨w.heap.size + 1, 1, none⟩) (by show w.heap.size + 1 < _; omega)).trans c1
  have r0' := (hbA.cell (p := ⟨w.heap.size + 1 + 1, 0, none⟩) (by show w.heap.size + 1 + 1 < _; omega)).trans r0
  have r1' := (hbA.cell (p := ⟨w.heap.size + 1 + 1, 1, none⟩) (by show w.heap.size + 1 + 1 < _; omega)).trans r1
  have hR : Blw (w.heap.size + 4) W0 w1.drew := show Below _ _ _ from hbA.drew
  have hb3 := hbA
  have HS3 : w.heap.size + 4 ≤ W0.heap.size := by omega
  go_region_held3 (fun w' => w'.cell? ⟨w.heap.size, 0, none⟩ = some (.int .i64 W) ∧ w'.cell? ⟨w.heap.size, 1, none⟩ = some (.int .i64 H) ∧ w'.cell? ⟨w.heap.size + 1, 0, none⟩ = some (.int .i64 C0) ∧ w'.cell? ⟨w.heap.size + 1, 1, none⟩ = some (.int .i64 ((C0 : Int) + (DW : Int))) ∧
      w'.cell? ⟨w.heap.size + 1 + 1, 0, none⟩ = some (.int .i64 R0) ∧ w'.cell? ⟨w.heap.size + 1 + 1, 1, none⟩ = some (.int .i64 ((R0 : Int) + (DH : Int))) ∧ Blw (w.heap.size + 4) W0 w')
    ((go_split_ands; refine ⟨?_, ?_, ?_, ?_, ?_, ?_, ?_⟩ <;> first
      | (with_reducible refine Eq.trans (Below.cell (B := w.heap.size + 4) (w := W0) ?_ (by first | (simp; done) | (simp; omega))) (by with_reducible assumption); (repeat (first | (with_reducible exact hb3) | (with_reducible refine below_alloc ?_ HS3 _) | (with_reducible refine Below.drew ?_))); done)
      | (show Below _ _ _; (repeat (first | (with_reducible exact hb3) | (with_reducible refine below_alloc ?_ HS3 _) | (with_reducible refine Below.drew ?_))); done)))
    (first
      | (go_at_call_of 131 (Value.agg #[.int .i64 C0, .int .i64 ((C0 : Int) + (DW : Int))]); refine (KC.out _ ?_).mono ?_; rotate_left 1; rintro e w' ⟨rfl, hb3⟩; rotate_left 1; (simp [*]))
      | (go_at_call_of 131 (Value.agg #[.int .i64 R0, .int .i64 ((R0 : Int) + (DH : Int))]); refine (KR.out _ ?_).mono ?_; rotate_left 1; rintro e w' ⟨rfl, hb3⟩; rotate_left 1; (simp [*]))
      | ((go_at_call 109; refine (first_zeros _ 0 2 2 (by omega) _ ?_).mono ?_; rotate_left 1; rintro e w' ⟨rfl, rfl⟩; rotate_left 1; (intro j hj; match j, hj with | 0, _ => simp [go_sem] | 1, _ => simp [go_sem]))))
  have hb2 : Below (w.heap.size + 4) W0 (w'.alloc (.cells #[.int .i64 0, .int .i64 0] 26)) := hb3.alloc (by have := hb3.size; omega) _
  obtain ⟨W1, hW1⟩ : ∃ W1, w'.alloc (.cells #[.int .i64 0, .int .i64 0] 26) = W1 := ⟨_, rfl⟩
  rw [hW1] at hb2 ⊢
  clear hW1 hb3 hR hbA a0' a1' a2' c0' c1' r0' r1'
  have hb2' : Below W0.heap.size W0 W1 := by rw [HS0.out]; exact hb2
  have a0' := (hb2.cell (p := ⟨w.heap.size, 0, none⟩) (by show w.heap.size < _; omega)).trans a0
  have a1' := (hb2.cell (p := ⟨w.heap.size, 1, none⟩) (by show w.heap.size < _; omega)).trans a1
  have a2' := (hb2.cell (p := ⟨w.heap.size, 2, none⟩) (by show w.heap.size < _; omega)).trans a2
  have HBW := Lib.hid hb2'
  clear hb2 hb2'
  go_upto_region 8 with (
    ((go_at_call 123; refine (K2.out _ (by first | exact HBW.out | exact HBW.out.drew)).mono ?_; rintro e w2 ⟨ga, rfl, hga, hRA, hb2⟩)))
  have hs2 := hb2.size
  have hsW := HBW.out.size
  have hszA : W1.heap.size ≤ w2.heap.size := hs2
  have hRA2 := hRA.below ((Below.refl _ w2).alloc (Nat.le_refl _) (.cells #[.int .i64 W, .int .i64 H, .slice (some ⟨ga, 0, none⟩) n n] 188)) hRA.lt
  obtain ⟨W3, hW3⟩ : ∃ W3, w2.alloc (.cells #[.int .i64 W, .int .i64 H, .slice (some ⟨ga, 0, none⟩) n n] 188) = W3 := ⟨_, rfl⟩
  have hS3 : W3.heap.size = w2.heap.size + 1 := by rw [← hW3]; simp
  have hB12 : Below W0.heap.size W0 w2 := HBW.out.trans ((show Below W1.heap.size W1 w2 from by first | exact hb2 | exact ((Below.refl W1.heap.size W1).drew).trans hb2).mono hsW)
  have hB3 : Below W0.heap.size W0 W3 := by rw [← hW3]; exact hB12.alloc (by omega) _
  have hG3 : GridAt W3 w2.heap.size W H ga n n := by rw [← hW3]; exact ⟨by simp [go_sem], by simp [go_sem], by simp [go_sem]⟩
  rw [hW3] at hRA2
  try rw [hW3]
  clear hW3
  have HS3 := Lib.hid hS3
  clear hS3
  have c0' := (hB3.cell (p := ⟨w.heap.size + 1, 0, none⟩) (by show w.heap.size + 1 < _; omega)).trans c0
  have r0' := (hB3.cell (p := ⟨w.heap.size + 1 + 1, 0, none⟩) (by show w.heap.size + 1 + 1 < _; omega)).trans r0
  go_upto_region 9 with fail
  obtain ⟨W4, hW4⟩ : ∃ W4, W3.alloc (.cells #[.int .i64 C0, .int .i64 R0] 50) = W4 := ⟨_, rfl⟩
  have hB34 : Below W3.heap.size W3 W4 := by rw [← hW4]; exact (Below.refl _ W3).alloc (Nat.le_refl _) _
  have hS4 : W4.heap.size = W3.heap.size + 1 := by rw [← hW4]; simp
  have hB4 : Below W0.heap.size W0 W4 := hB3.trans (hB34.mono hB3.size)
  have hRA4 := hRA2.below hB34 hRA2.lt
  have hG4 : GridAt W4 w2.heap.size W H ga n n := hG3.below hB34 (by have := HS3.out; omega)
  have q0 : W4.cell? ⟨W3.heap.size, 0, none⟩ = some (.int .i64 C0) := by rw [← hW4]; simp [go_sem]
  have q1 : W4.cell? ⟨W3.heap.size, 1, none⟩ = some (.int .i64 R0) := by rw [← hW4]; simp [go_sem]
  try rw [hW4]
  clear hW4 c0' r0'
  have HS4 := Lib.hid hS4
  clear hS4
  have hs4 : W0.heap.size ≤ W4.heap.size := hB4.size
  have c0' := (hB4.cell (p := ⟨w.heap.size + 1, 0, none⟩) (by show w.heap.size + 1 < _; omega)).trans c0
  have c1' := (hB4.cell (p := ⟨w.heap.size + 1, 1, none⟩) (by show w.heap.size + 1 < _; omega)).trans c1
  have r0' := (hB4.cell (p := ⟨w.heap.size + 1 + 1, 0, none⟩) (by show w.heap.size + 1 + 1 < _; omega)).trans r0
  have r1' := (hB4.cell (p := ⟨w.heap.size + 1 + 1, 1, none⟩) (by show w.heap.size + 1 + 1 < _; omega)).trans r1
  have z0' := (hB4.cell (p := ⟨w.heap.size + 1 + 1 + 1, 0, none⟩) (by show w.heap.size + 1 + 1 + 1 < _; omega)).trans z0
  have z1' := (hB4.cell (p := ⟨w.heap.size + 1 + 1 + 1, 1, none⟩) (by show w.heap.size + 1 + 1 + 1 < _; omega)).trans z1
  have z2' := (hB4.cell (p := ⟨w.heap.size + 1 + 1 + 1, 2, none⟩) (by show w.heap.size + 1 + 1 + 1 < _; omega)).trans z2
  have zf' : ∀ j, W4.frozen? ⟨w.heap.size + 1 + 1 + 1, j, none⟩ = false := fun j => (hB4.frozen (p := ⟨w.heap.size + 1 + 1 + 1, j, none⟩) (by show w.heap.size + 1 + 1 + 1 < _; omega)).trans (zf j)
  have hN : W * H = n := by have := HRA.out.area; exact_mod_cast this
  have KP := Lib.hid (callsIn_wide.1 (painted_part DW DH (by omega) (by omega) w2.heap.size W3.heap.size W4 (fun p => ks[(R0 + p.2) * W + (C0 + p.1)]?.getD 0) (fun p => by
      by_cases hj : (R0 + p.2) * W + (C0 + p.1) < n
      · exact HRA.out.sizes _ hj
      · rw [List.getElem?_eq_none (by rw [HRA.out.lenk]; omega)]; simp) (fun p Wx hp h1 => by
    have hlt : (R0 + p.2) * W + (C0 + p.1) < n := idx_lt (p := (C0 + p.1, R0 + p.2)) (by show C0 + p.1 < W; omega) (by show R0 + p.2 < H; omega) hN
    have hsz := h1.size
    have hR1 := hRA4.below h1 hRA4.lt
    have e3 := HS3.out
    have e4 := HS4.out
    exact partlit_any W H p.1 p.2 C0 R0 ga n n w2.heap.size W3.heap.size _ (by omega) (by omega) (by omega) (by omega) Wx hlt (by omega) (by omega) hR1.lt (hG4.below h1 (by omega))
      ((h1.cell (p := ⟨W3.heap.size, 0, none⟩) (by show W3.heap.size < _; omega)).trans q0) ((h1.cell (p := ⟨W3.heap.size, 1, none⟩) (by show W3.heap.size < _; omega)).trans q1) (hR1.cells _ hlt))))
  have HZ := Lib.hid zf'
  have HB3 := Lib.hid hB4
  clear hRA hRA2 hRA4 a0 a1 a2 a0' a1' a2' z0 z1 z2 zf zf' hB3 hB4 hB34 hN hb2 hG3 hG4 hB12 c0 c1 r0 r1 q0 q1
  go_wp2_with (
    ((go_at_call 132; refine KP.out.mono ?_; rintro e w5 ⟨g, rfl, hown5, hb5⟩
      have s0 : w5.cell? ⟨w.heap.size + 1 + 1 + 1, 0, none⟩ = some (.int .i64 0) := (hb5.cell (p := ⟨w.heap.size + 1 + 1 + 1, 0, none⟩) (by show w.heap.size + 1 + 1 + 1 < _; omega)).trans z0'
      have s1 : w5.cell? ⟨w.heap.size + 1 + 1 + 1, 1, none⟩ = some (.int .i64 0) := (hb5.cell (p := ⟨w.heap.size + 1 + 1 + 1, 1, none⟩) (by show w.heap.size + 1 + 1 + 1 < _; omega)).trans z1'
      have s2 : w5.cell? ⟨w.heap.size + 1 + 1 + 1, 2, none⟩ = some (.slice none 0 0) := (hb5.cell (p := ⟨w.heap.size + 1 + 1 + 1, 2, none⟩) (by show w.heap.size + 1 + 1 + 1 < _; omega)).trans z2'
      have f0 : w5.frozen? ⟨w.heap.size + 1 + 1 + 1, 0, none⟩ = false := (hb5.frozen (p := ⟨w.heap.size + 1 + 1 + 1, 0, none⟩) (by show w.heap.size + 1 + 1 + 1 < _; omega)).trans (HZ.out 0)
      have f1 : w5.frozen? ⟨w.heap.size + 1 + 1 + 1, 1, none⟩ = false := (hb5.frozen (p := ⟨w.heap.size + 1 + 1 + 1, 1, none⟩) (by show w.heap.size + 1 + 1 + 1 < _; omega)).trans (HZ.out 1)
      have f2 : w5.frozen? ⟨w.heap.size + 1 + 1 + 1, 2, none⟩ = false := (hb5.frozen (p := ⟨w.heap.size + 1 + 1 + 1, 2, none⟩) (by show w.heap.size + 1 + 1 + 1 < _; omega)).trans (HZ.out 2))))
  have hsz5 := hb5.size
  have hg5 : W4.heap.size ≤ g ∧ g < w5.heap.size := hown5.lt g rfl
  rw [Nat.mul_comm DH DW] at hown5
  refine bodyPost_ret (v := .tuple #[.agg #[.int .i64 DW, .int .i64 DH, .slice (some ⟨g, 0, none⟩) (DW * DH) (DW * DH)], .int .i64 0]) (by simp [results, Tryz.results49, go_sem, s0, s1, s2]) rfl ⟨g, rfl, ?_, ?_, ?_⟩
  · simp; omega
  · intro j hj
    refine owns_cell (ownsRow_setCell_below (ownsRow_setCell_below (ownsRow_setCell_below hown5 (by dsimp only; omega) _) (by dsimp only; omega) _) (by dsimp only; omega) _) ?_
    rw [List.getElem?_map, placesTo_get DW (DW * DH) j hj, Option.map_some]
  · exact (((HB0.out.trans (HB3.out.mono (by omega))).trans (hb5.mono (by omega))).setCell (p := ⟨w.heap.size + 1 + 1 + 1, 0, none⟩) (by dsimp only; omega) _ |>.setCell (p := ⟨w.heap.size + 1 + 1 + 1, 1, none⟩) (by dsimp only; omega) _).setCell (p := ⟨w.heap.size + 1 + 1 + 1, 2, none⟩) (by dsimp only; omega) _
end Go.Proofs.YtfdkmmllemkogaaGreatDoor
