/-
  Contracts of Placed's literal and of Placed for a right map and a place at which it fits.
-/
import Derived.Test.YtfdkmmllemkogaaGreatDoorOZa
import Derived.Test.YtfdkmmllemkogaaGreatDoorOZg
namespace Go.Proofs.YtfdkmmllemkogaaGreatDoor
open Go.RowKit
set_option linter.unusedVariables false

/-- The integer at a place of the greater map. -/
def placedK (W H PX PY : Nat) (ks : List Int) (p : Nat × Nat) : Int := if PX ≤ p.1 ∧ p.1 < PX + W ∧ PY ≤ p.2 ∧ p.2 < PY + H then ks[(p.2 - PY) * W + (p.1 - PX)]?.getD 0 else 0

set_option maxRecDepth 100000 in
set_option maxHeartbeats 3200000 in
theorem placedlit_any (W H X Y PX PY : Nat) (g n c g7 g8 : Nat) (ks : List Int) (hW : W ≤ 64) (hH : H ≤ 64) (hX : X ≤ 64) (hY : Y ≤ 64) (hPX : PX ≤ 64) (hPY : PY ≤ 64) (w : World) (hN : W * H = n) (hnn : n ≤ 4096)
    (g7l : g7 < w.heap.size) (g8l : g8 < w.heap.size) (hR : RowAt w g n ks) (hA : GridAt w g8 W H g n c) (h0 : w.cell? ⟨g7, 0, none⟩ = some (.int .i64 PX)) (h1 : w.cell? ⟨g7, 1, none⟩ = some (.int .i64 PY)) :
    Calls Tryz.prog 135 #[.agg #[.int .i64 X, .int .i64 Y], .pointer (some ⟨g7, 0, none⟩), .pointer (some ⟨g8, 0, none⟩)] w fun e w' => e = .returned (.int .i64 (placedK W H PX PY ks (X, Y))) ∧ Below w.heap.size w w' := by
  obtain ⟨a0, a1, a2⟩ := hA
  have h0' := (((Below.refl _ w).alloc (Nat.le_refl w.heap.size) (.cells #[.int .i64 X, .int .i64 Y] 50)).cell (p := ⟨g7, 0, none⟩) g7l).trans h0
  have h1' := (((Below.refl _ w).alloc (Nat.le_refl w.heap.size) (.cells #[.int .i64 X, .int .i64 Y] 50)).cell (p := ⟨g7, 1, none⟩) g7l).trans h1
  have KM := Lib.hid (fun w1 => minus_any X Y PX PY (by unfold Far; omega) (by unfold Far; omega) (by unfold Far; omega) (by unfold Far; omega) w1)
  obtain ⟨pv, hpv⟩ : ∃ pv, placedK W H PX PY ks (X, Y) = pv := ⟨_, rfl⟩
  rw [hpv]
  go_enter Tryz.func135, Tryz.ntmps135
  go_upto_region 2 with (go_at_call 136; refine (KM.out _).mono ?_; rintro e wm ⟨rfl, hbm⟩)
  have hsm : w.heap.size + 1 ≤ wm.heap.size := by have := hbm.size; simpa using this
  have hBm : Below w.heap.size w wm := ((Below.refl _ w).alloc (Nat.le_refl _) _).trans (hbm.mono (by simp))
  obtain ⟨W2, hW2⟩ : ∃ W2, wm.alloc (.cells #[.int .i64 ((X : Int) - (PX : Int)), .int .i64 ((Y : Int) - (PY : Int))] 50) = W2 := ⟨_, rfl⟩
  have hB2 : Below w.heap.size w W2 := by rw [← hW2]; exact hBm.alloc (by omega) _
  have hS2 : W2.heap.size = wm.heap.size + 1 := by rw [← hW2]; simp
  have q0 : W2.cell? ⟨wm.heap.size, 0, none⟩ = some (.int .i64 ((X : Int) - (PX : Int))) := by rw [← hW2]; simp [go_sem]
  have q1 : W2.cell? ⟨wm.heap.size, 1, none⟩ = some (.int .i64 ((Y : Int) - (PY : Int))) := by rw [← hW2]; simp [go_sem]
  rw [hW2]
  clear hW2 h0' h1' hbm hBm h0 h1
  have b0 := (hB2.cell (p := ⟨g8, 0, none⟩) g8l).trans a0
  have b1 := (hB2.cell (p := ⟨g8, 1, none⟩) g8l).trans a1
  have b2 := (hB2.cell (p := ⟨g8, 2, none⟩) g8l).trans a2
  have hR2 := hR.below hB2 hR.lt
  by_cases hin : PX ≤ X ∧ X < PX + W ∧ PY ≤ Y ∧ Y < PY + H
  · have hb : insideB W H ((X : Int) - (PX : Int), (Y : Int) - (PY : Int)) = true := by simp [insideB]; omega
    have hv : placedK W H PX PY ks (X, Y) = ks[(Y - PY) * W + (X - PX)]?.getD 0 := by unfold placedK; rw [if_pos hin]
    obtain rfl := hpv.symm.trans hv
    have hlt : (Y - PY) * W + (X - PX) < n := idx_lt (p := (X - PX, Y - PY)) (by show X - PX < W; omega) (by show Y - PY < H; omega) hN
    have eX : (X : Int) - (PX : Int) = ((X - PX : Nat) : Int) := by omega
    have eY : (Y : Int) - (PY : Int) = ((Y - PY : Nat) : Int) := by omega
    have m1 : (Y - PY) * W ≤ 64 * 64 := Nat.mul_le_mul (by omega) hW
    have e2 : ((Y : Int) - (PY : Int)) * (W : Int) = (((Y - PY) * W : Nat) : Int) := by rw [eY]; push_cast; rfl
    have e1 : (((Y : Int) - (PY : Int)) * (W : Int) + ((X : Int) - (PX : Int))).toNat = (Y - PY) * W + (X - PX) := by rw [e2]; omega
    have K : Hid (∀ w1 : World, Below W2.heap.size W2 w1 → Calls Tryz.prog 126 #[.agg #[.int .i64 W, .int .i64 H, .slice (some ⟨g, 0, none⟩) n c], .agg #[.int .i64 ((X : Int) - (PX : Int)), .int .i64 ((Y : Int) - (PY : Int))]] w1 fun e w' => e = .returned (.int .i64 (ks[(Y - PY) * W + (X - PX)]?.getD 0)) ∧ Below w1.heap.size w1 w') := Lib.hid fun w1 h => by
      have hs := h.size
      have hr := hR2.below h hR2.lt
      exact at_any W H ((X : Int) - (PX : Int)) ((Y : Int) - (PY : Int)) g n c _ (by omega) (by omega) (by omega) (by rw [e2]; omega) w1 (by rw [e2]; omega) hr.lt (by rw [e1]; exact hr.cells _ hlt)
    have HB2 := Lib.hid hB2
    have HBI := Lib.hid hb
    clear hR hR2 eX eY e1 e2 hlt hv hpv hb m1 hB2 hin hN hnn
    go_wp2_with (first
      | ((go_at_call 124; refine (has_any W H ((X : Int) - (PX : Int)) ((Y : Int) - (PY : Int)) _ _ _ W2).mono ?_; rw [HBI.out]; rintro e w3 ⟨rfl, hb3⟩
          have hs3 := hb3.size
          have b0' := (hb3.cell (p := ⟨g8, 0, none⟩) (by show g8 < _; omega)).trans b0
          have b1' := (hb3.cell (p := ⟨g8, 1, none⟩) (by show g8 < _; omega)).trans b1
          have b2' := (hb3.cell (p := ⟨g8, 2, none⟩) (by show g8 < _; omega)).trans b2
          have q0' := (hb3.cell (p := ⟨wm.heap.size, 0, none⟩) (by show wm.heap.size < _; omega)).trans q0
          have q1' := (hb3.cell (p := ⟨wm.heap.size, 1, none⟩) (by show wm.heap.size < _; omega)).trans q1
          have K2 := Lib.hid (K.out w3 hb3)
          have HB3 := Lib.hid hb3
          clear b0 b1 b2 q0 q1 hb3))
      | ((go_at_call 126; refine K2.out.mono ?_; rintro e w4 ⟨rfl, hb4⟩)))
    go_ret
    exact ⟨rfl, HB2.out.trans ((HB3.out.trans (hb4.mono hs3)).mono (by omega))⟩
  · have hb : insideB W H ((X : Int) - (PX : Int), (Y : Int) - (PY : Int)) = false := by simp [insideB]; omega
    have hv : placedK W H PX PY ks (X, Y) = 0 := by unfold placedK; rw [if_neg hin]
    obtain rfl := hpv.symm.trans hv
    have HB2 := Lib.hid hB2
    have HBI := Lib.hid hb
    clear hR hR2 hv hpv hb hB2 hin hN hnn
    go_wp2_with (
      ((go_at_call 124; refine (has_any W H ((X : Int) - (PX : Int)) ((Y : Int) - (PY : Int)) _ _ _ W2).mono ?_; rw [HBI.out]; rintro e w3 ⟨rfl, hb3⟩)))
    go_ret
    exact ⟨rfl, HB2.out.trans (hb3.mono (by omega))⟩
end Go.Proofs.YtfdkmmllemkogaaGreatDoor

/-
  Contract of Placed for a right map and a place at which it fits.
-/
namespace Go.Proofs.YtfdkmmllemkogaaGreatDoor
open Go.RowKit
set_option linter.unusedVariables false

set_option maxRecDepth 100000 in
set_option maxHeartbeats 6400000 in
theorem placed_any (W H WW HH PX PY : Nat) (hX : PX + W ≤ WW) (hY : PY + H ≤ HH) (hWW : WW ≤ 64) (hHH : HH ≤ 64) (b o c n : Nat) (xs : List Nat) (ks : List Int) (w : World) (hA : RightMap w W H b o n xs ks) (hb : b < w.heap.size) :
    Calls Tryz.prog 50 #[.agg #[.int .i64 W, .int .i64 H, .slice (some ⟨b, o, none⟩) n c], .int .i64 WW, .int .i64 HH, .agg #[.int .i64 PX, .int .i64 PY]] w fun e w' =>
      ∃ g, e = .returned (.tuple #[.agg #[.int .i64 WW, .int .i64 HH, .slice (some ⟨g, 0, none⟩) (WW * HH) (WW * HH)], .int .i64 0]) ∧ g < w'.heap.size ∧
        (∀ j, j < WW * HH → w'.cell? ⟨g, j, none⟩ = some (.float .f32 (smpOf (placedK W H PX PY ks (j % WW, j / WW))))) ∧ Below w.heap.size w w' := by
  obtain ⟨W0, hW0⟩ : ∃ W0, ((w.alloc (.cells #[.int .i64 W, .int .i64 H, .slice (some ⟨b, o, none⟩) n c] 54)).alloc (.cells #[.int .i64 PX, .int .i64 PY] 50)).alloc (.cells #[.int .i64 0, .int .i64 0, .slice none 0 0] 54) = W0 := ⟨_, rfl⟩
  have hB0 : Below w.heap.size w W0 := by rw [← hW0]; exact (((Below.refl _ w).alloc (Nat.le_refl _) _).alloc (by simp) _).alloc (by simp; omega) _
  have hS0 : W0.heap.size = w.heap.size + 3 := by rw [← hW0]; simp
  have a0 : W0.cell? ⟨w.heap.size, 0, none⟩ = some (.int .i64 W) := by rw [← hW0]; simp [go_sem]
  have a1 : W0.cell? ⟨w.heap.size, 1, none⟩ = some (.int .i64 H) := by rw [← hW0]; simp [go_sem]
  have a2 : W0.cell? ⟨w.heap.size, 2, none⟩ = some (.slice (some ⟨b, o, none⟩) n c) := by rw [← hW0]; simp [go_sem]
  have c0 : W0.cell? ⟨w.heap.size + 1, 0, none⟩ = some (.int .i64 PX) := by rw [← hW0]; simp [go_sem]
  have c1 : W0.cell? ⟨w.heap.size + 1, 1, none⟩ = some (.int .i64 PY) := by rw [← hW0]; simp [go_sem]
  have z0 : W0.cell? ⟨w.heap.size + 1 + 1, 0, none⟩ = some (.int .i64 0) := by rw [← hW0]; simp [go_sem]
  have z1 : W0.cell? ⟨w.heap.size + 1 + 1, 1, none⟩ = some (.int .i64 0) := by rw [← hW0]; simp [go_sem]
  have z2 : W0.cell? ⟨w.heap.size + 1 + 1, 2, none⟩ = some (.slice none 0 0) := by rw [← hW0]; simp [go_sem]
  have zf : ∀ j, W0.frozen? ⟨w.heap.size + 1 + 1, j, none⟩ = false := fun j => by rw [← hW0]; simp [go_sem]
  have K1 := Lib.hid (checkMap_any W H b o n c xs ks W0 (hA.below hB0 hb) (by omega))
  have K2 : Hid (∀ w1 : World, Below W0.heap.size W0 w1 → Calls Tryz.prog 123 #[.agg #[.int .i64 W, .int .i64 H, .slice (some ⟨b, o, none⟩) n c]] w1 fun e w' =>
      ∃ g, e = .returned (.agg #[.int .i64 W, .int .i64 H, .slice (some ⟨g, 0, none⟩) n n]) ∧ w1.heap.size ≤ g ∧ RowAt w' g n ks ∧ Below w1.heap.size w1 w') := Lib.hid (fun w1 h => by
    have h1 := h.size
    have h2 := hB0.trans (h.mono (by omega))
    exact grid_row W H b o n c xs ks w1 (hA.below h2 hb).toWords (by omega))
  have hW := hA.wid
  have hH := hA.hei
  have rW : rangeErr (WW : Int) 1 64 = 0 := rangeErr_in (by omega) (by omega)
  have rH : rangeErr (HH : Int) 1 64 = 0 := rangeErr_in (by omega) (by omega)
  have KW : Hid (∀ w1 : World, Calls Tryz.prog 129 #[.int .i64 WW] w1 fun e w' => e = .returned (.int .i64 0) ∧ w1 = w') := Lib.hid fun w1 => by have h := checkSide_any (WW : Int) w1; rw [rW] at h; exact h
  have KH : Hid (∀ w1 : World, Calls Tryz.prog 129 #[.int .i64 HH] w1 fun e w' => e = .returned (.int .i64 0) ∧ w1 = w') := Lib.hid fun w1 => by have h := checkSide_any (HH : Int) w1; rw [rH] at h; exact h
  have i1 : IntKind.i64.wrap ((WW : Int) - (W : Int)) = (WW : Int) - (W : Int) := IntWalk.i64_in _ ⟨by omega, by omega⟩
  have i2 : IntKind.i64.wrap ((HH : Int) - (H : Int)) = (HH : Int) - (H : Int) := IntWalk.i64_in _ ⟨by omega, by omega⟩
  have i3 : ¬ ((WW : Int) - (W : Int) < (PX : Int)) := by omega
  have i4 : ¬ ((HH : Int) - (H : Int) < (PY : Int)) := by omega
  have HB0 := Lib.hid hB0
  have HS0 := Lib.hid hS0
  have HRA := Lib.hid hA
  clear hA hB0 rW rH
  go_enter Tryz.func50, Tryz.ntmps50
  go_upto_region 1 with fail
  try rw [hW0]
  clear hW0
  go_upto_region 4 with (first
    | ((go_at_call 47; refine K1.out.mono ?_; rintro e w1 ⟨rfl, hb1⟩
        have hs1 := hb1.size))
    | (go_at_call_of 129 (Value.int .i64 WW); refine (KW.out _).mono ?_; rintro e w2 ⟨rfl, rfl⟩)
    | (go_at_call_of 129 (Value.int .i64 HH); refine (KH.out _).mono ?_; rintro e w2 ⟨rfl, rfl⟩)
    | ((go_at_call 109; refine (first_zeros _ 0 3 3 (by omega) _ ?_).mono ?_; rotate_left 1; rintro e w' ⟨rfl, rfl⟩; rotate_left 1; (intro j hj; match j, hj with | 0, _ => simp [go_sem] | 1, _ => simp [go_sem] | 2, _ => simp [go_sem]))))
  have hb2' : Below W0.heap.size W0 (w1.alloc (.cells #[.int .i64 0, .int .i64 0, .int .i64 0] 26)) := hb1.alloc hs1 _
  obtain ⟨W1, hW1⟩ : ∃ W1, w1.alloc (.cells #[.int .i64 0, .int .i64 0, .int .i64 0] 26) = W1 := ⟨_, rfl⟩
  rw [hW1] at hb2' ⊢
  clear hW1 hb1
  have a0' := (hb2'.cell (p := ⟨w.heap.size, 0, none⟩) (by show w.heap.size < _; omega)).trans a0
  have a1' := (hb2'.cell (p := ⟨w.heap.size, 1, none⟩) (by show w.heap.size < _; omega)).trans a1
  have a2' := (hb2'.cell (p := ⟨w.heap.size, 2, none⟩) (by show w.heap.size < _; omega)).trans a2
  have c0' := (hb2'.cell (p := ⟨w.heap.size + 1, 0, none⟩) (by show w.heap.size + 1 < _; omega)).trans c0
  have c1' := (hb2'.cell (p := ⟨w.heap.size + 1, 1, none⟩) (by show w.heap.size + 1 < _; omega)).trans c1
  have HBW := Lib.hid hb2'
  clear hb2'
  go_upto_region 7 with (
    ((go_at_call 123; refine (K2.out _ (by first | exact HBW.out | exact HBW.out.drew)).mono ?_; rintro e w2 ⟨ga, rfl, hga, hRA, hb2⟩)))
  have hs2 := hb2.size
  have hsW := HBW.out.size
  have hszA : W1.heap.size ≤ w2.heap.size := hs2
  have hRA2 := hRA.below ((Below.refl _ w2).alloc (Nat.le_refl _) (.cells #[.int .i64 W, .int .i64 H, .slice (some ⟨ga, 0, none⟩) n n] 188)) hRA.lt
  obtain ⟨W3, hW3⟩ : ∃ W3, w2.alloc (.cells #[.int .i64 W, .int .i64 H, .slice (some ⟨ga, 0, none⟩) n n] 188) = W3 := ⟨_, rfl⟩
  have hS3 : W3.heap.size = w2.heap.size + 1 := by rw [← hW3]; simp
  have hB12 : Below W0.heap.size W0 w2 := HBW.out.trans ((show Below W1.heap.size W1 w2 from by first | exact hb2 | exact ((Below.refl W1.heap.size W1).drew).trans hb2).mono hsW)
  have hB3 : Below W0.heap.size W0 W3 := by rw [← hW3]; exact hB12.alloc (by omega) _
  have hG3 : GridAt W3 w2.heap.size W H ga n n := by rw [← hW3]; exact ⟨by simp [go_sem], by simp [go_sem], by simp [go_sem]⟩
  rw [hW3] at hRA2
  try rw [hW3]
  clear hW3
  have d0 := (hB3.cell (p := ⟨w.heap.size + 1, 0, none⟩) (by show w.heap.size + 1 < _; omega)).trans c0
  have d1 := (hB3.cell (p := ⟨w.heap.size + 1, 1, none⟩) (by show w.heap.size + 1 < _; omega)).trans c1
  have z0' := (hB3.cell (p := ⟨w.heap.size + 1 + 1, 0, none⟩) (by show w.heap.size + 1 + 1 < _; omega)).trans z0
  have z1' := (hB3.cell (p := ⟨w.heap.size + 1 + 1, 1, none⟩) (by show w.heap.size + 1 + 1 < _; omega)).trans z1
  have z2' := (hB3.cell (p := ⟨w.heap.size + 1 + 1, 2, none⟩) (by show w.heap.size + 1 + 1 < _; omega)).trans z2
  have zf' : ∀ j, W3.frozen? ⟨w.heap.size + 1 + 1, j, none⟩ = false := fun j => (hB3.frozen (p := ⟨w.heap.size + 1 + 1, j, none⟩) (by show w.heap.size + 1 + 1 < _; omega)).trans (zf j)
  have hN : W * H = n := by have := HRA.out.area; exact_mod_cast this
  have KP := Lib.hid (callsIn_wide.1 (painted_placed WW HH (by omega) (by omega) (w.heap.size + 1) w2.heap.size W3 (fun p => placedK W H PX PY ks p) (fun p => by
      unfold placedK
      split
      · by_cases hj : (p.2 - PY) * W + (p.1 - PX) < n
        · exact HRA.out.sizes _ hj
        · rw [List.getElem?_eq_none (by rw [HRA.out.lenk]; omega)]; simp
      · decide) (fun p Wx hp h1 => by
    have hsz := h1.size
    have hR1 := hRA2.below h1 hRA2.lt
    exact placedlit_any W H p.1 p.2 PX PY ga n n (w.heap.size + 1) w2.heap.size ks (by omega) (by omega) (by omega) (by omega) (by omega) (by omega) Wx hN HRA.out.small (by omega) (by omega) hR1 (hG3.below h1 (by omega))
      ((h1.cell (p := ⟨w.heap.size + 1, 0, none⟩) (by show w.heap.size + 1 < _; omega)).trans d0) ((h1.cell (p := ⟨w.heap.size + 1, 1, none⟩) (by show w.heap.size + 1 < _; omega)).trans d1))))
  have HZ := Lib.hid zf'
  have HB3 := Lib.hid hB3
  clear hRA hRA2 a0 a1 a2 a0' a1' a2' z0 z1 z2 zf zf' hB3 hN hb2 hG3 hB12 c0 c1 c0' c1' d0 d1
  go_wp2_with (
    ((go_at_call 132; refine KP.out.mono ?_; rintro e w5 ⟨g, rfl, hown5, hb5⟩
      have s0 : w5.cell? ⟨w.heap.size + 1 + 1, 0, none⟩ = some (.int .i64 0) := (hb5.cell (p := ⟨w.heap.size + 1 + 1, 0, none⟩) (by show w.heap.size + 1 + 1 < _; omega)).trans z0'
      have s1 : w5.cell? ⟨w.heap.size + 1 + 1, 1, none⟩ = some (.int .i64 0) := (hb5.cell (p := ⟨w.heap.size + 1 + 1, 1, none⟩) (by show w.heap.size + 1 + 1 < _; omega)).trans z1'
      have s2 : w5.cell? ⟨w.heap.size + 1 + 1, 2, none⟩ = some (.slice none 0 0) := (hb5.cell (p := ⟨w.heap.size + 1 + 1, 2, none⟩) (by show w.heap.size + 1 + 1 < _; omega)).trans z2'
      have f0 : w5.frozen? ⟨w.heap.size + 1 + 1, 0, none⟩ = false := (hb5.frozen (p := ⟨w.heap.size + 1 + 1, 0, none⟩) (by show w.heap.size + 1 + 1 < _; omega)).trans (HZ.out 0)
      have f1 : w5.frozen? ⟨w.heap.size + 1 + 1, 1, none⟩ = false := (hb5.frozen (p := ⟨w.heap.size + 1 + 1, 1, none⟩) (by show w.heap.size + 1 + 1 < _; omega)).trans (HZ.out 1)
      have f2 : w5.frozen? ⟨w.heap.size + 1 + 1, 2, none⟩ = false := (hb5.frozen (p := ⟨w.heap.size + 1 + 1, 2, none⟩) (by show w.heap.size + 1 + 1 < _; omega)).trans (HZ.out 2))))
  have hsz5 := hb5.size
  have hg5 : W3.heap.size ≤ g ∧ g < w5.heap.size := hown5.lt g rfl
  rw [Nat.mul_comm HH WW] at hown5
  refine bodyPost_ret (v := .tuple #[.agg #[.int .i64 WW, .int .i64 HH, .slice (some ⟨g, 0, none⟩) (WW * HH) (WW * HH)], .int .i64 0]) (by simp [results, Tryz.results50, go_sem, s0, s1, s2]) rfl ⟨g, rfl, ?_, ?_, ?_⟩
  · simp; omega
  · intro j hj
    refine owns_cell (ownsRow_setCell_below (ownsRow_setCell_below (ownsRow_setCell_below hown5 (by dsimp only; omega) _) (by dsimp only; omega) _) (by dsimp only; omega) _) ?_
    rw [List.getElem?_map, placesTo_get WW (WW * HH) j hj, Option.map_some]
  · exact (((HB0.out.trans (HB3.out.mono (by omega))).trans (hb5.mono (by omega))).setCell (p := ⟨w.heap.size + 1 + 1, 0, none⟩) (by dsimp only; omega) _ |>.setCell (p := ⟨w.heap.size + 1 + 1, 1, none⟩) (by dsimp only; omega) _).setCell (p := ⟨w.heap.size + 1 + 1, 2, none⟩) (by dsimp only; omega) _
end Go.Proofs.YtfdkmmllemkogaaGreatDoor
