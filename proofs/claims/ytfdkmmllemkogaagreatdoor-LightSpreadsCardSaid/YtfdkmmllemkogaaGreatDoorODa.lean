/-
  Contracts of the reference's Level anywhere, of window, Part and Placed.
-/
import Derived.Test.YtfdkmmllemkogaaGreatDoorOBx
import Derived.Test.YtfdkmmllemkogaaGreatDoorOBe
import Derived.Test.YtfdkmmllemkogaaGreatDoorOWk
namespace Go.Proofs.YtfdkmmllemkogaaGreatDoor
open Go.RowKit
set_option linter.unusedVariables false
set_option linter.unusedSimpArgs false

/-- The integer at a place, and 0 where there is none. -/
def levelK (W H : Nat) (ks : List Int) (X Y : Int) : Int := if 0 ≤ X ∧ X < W ∧ 0 ≤ Y ∧ Y < H then ks[Y.toNat * W + X.toNat]?.getD 0 else 0
theorem levelK_le {ks : List Int} {n : Nat} (hl : ks.length = n) (hs : ∀ j, j < n → (ks[j]?.getD 0).natAbs ≤ 16384) (W H : Nat) (X Y : Int) : (levelK W H ks X Y).natAbs ≤ 16384 := by
  unfold levelK
  split
  · exact ks_at hl hs _
  · decide
def winL (W H DW N : Nat) (ks : List Int) (X Y : Int) : List Int := (List.range N).map (fun j => levelK W H ks (X + ((j % DW : Nat) : Int)) (Y + ((j / DW : Nat) : Int)))
theorem idx_div {D x y : Nat} (hx : x < D) : (y * D + x) / D = y := by rw [Nat.mul_comm, Nat.mul_add_div (by omega), Nat.div_eq_of_lt hx]; rfl
theorem idx_mod {D x y : Nat} (hx : x < D) : (y * D + x) % D = x := by rw [Nat.mul_comm, Nat.mul_add_mod, Nat.mod_eq_of_lt hx]

set_option maxRecDepth 100000 in
set_option maxHeartbeats 3200000 in
theorem refLevel_all (W H : Nat) (b o n c : Nat) (xs : List Nat) (ks : List Int) (w : World) (hw : RightMap w W H b o n xs ks) (hb : b < w.heap.size) (X Y : Int) :
    Calls Tryz.prog 46 #[.agg #[.int .i64 W, .int .i64 H, .slice (some ⟨b, o, none⟩) n c], .int .i64 X, .int .i64 Y] w fun e w' => e = .returned (.int .i64 (levelK W H ks X Y)) ∧ Below w.heap.size w w' := by
  unfold levelK
  by_cases h1 : X < 0
  · rw [if_neg (by omega)]
    clear hw
    go_enter Tryz.func46, Tryz.ntmps46
    go_wp2
    go_ret
    exact ⟨rfl, (Below.refl _ w).alloc (Nat.le_refl _) _⟩
  by_cases h2 : (W : Int) ≤ X
  · rw [if_neg (by omega)]
    clear hw
    go_enter Tryz.func46, Tryz.ntmps46
    go_wp2
    go_ret
    exact ⟨rfl, (Below.refl _ w).alloc (Nat.le_refl _) _⟩
  by_cases h3 : Y < 0
  · rw [if_neg (by omega)]
    clear hw
    go_enter Tryz.func46, Tryz.ntmps46
    go_wp2
    go_ret
    exact ⟨rfl, (Below.refl _ w).alloc (Nat.le_refl _) _⟩
  by_cases h4 : (H : Int) ≤ Y
  · rw [if_neg (by omega)]
    clear hw
    go_enter Tryz.func46, Tryz.ntmps46
    go_wp2
    go_ret
    exact ⟨rfl, (Below.refl _ w).alloc (Nat.le_refl _) _⟩
  · rw [if_pos (by omega)]
    obtain ⟨Xn, rfl⟩ := Int.eq_ofNat_of_zero_le (show 0 ≤ X by omega)
    obtain ⟨Yn, rfl⟩ := Int.eq_ofNat_of_zero_le (show 0 ≤ Y by omega)
    exact refLevel_any W H b o n c xs ks w hw hb Xn Yn (by omega) (by omega)

set_option maxRecDepth 100000 in
set_option maxHeartbeats 6400000 in
theorem window_any (W H : Nat) (b o n c : Nat) (xs : List Nat) (ks : List Int) (w : World) (hA : RightMap w W H b o n xs ks) (hb : b < w.heap.size) (DW DH N : Nat) (X Y : Int) (hDW : 1 ≤ DW ∧ DW ≤ 64) (hDH : 1 ≤ DH ∧ DH ≤ 64) (hX : X.natAbs ≤ 64) (hY : Y.natAbs ≤ 64) (hN : DH * DW = N) :
    Calls Tryz.prog 137 #[.agg #[.int .i64 W, .int .i64 H, .slice (some ⟨b, o, none⟩) n c], .int .i64 DW, .int .i64 DH, .int .i64 X, .int .i64 Y] w fun e w' =>
      ∃ X' Y' a n' c', e = .returned (.agg #[.int .i64 X', .int .i64 Y', .slice a n' c']) ∧ ResV w' 0 DW DH (winL W H DW N ks X Y) X' Y' a n' c' ∧ Below w.heap.size w w' := by
  obtain ⟨i0, hi, hz0, hz1, hz2⟩ := info_parts Tryz.infoInt
  have hN' : DH * DW = N := hN
  have hsm : N ≤ 4096 := by rw [← hN]; exact Nat.le_trans (Nat.mul_le_mul hDH.2 hDW.2) (by decide)
  obtain ⟨W0, hW0⟩ : ∃ W0, (w.alloc (.cells #[.int .i64 W, .int .i64 H, .slice (some ⟨b, o, none⟩) n c] 48)).alloc (.cells #[.int .i64 0, .int .i64 0, .slice none 0 0] 48) = W0 := ⟨_, rfl⟩
  have hB0 : Below w.heap.size w W0 := by rw [← hW0]; exact ((Below.refl _ w).alloc (Nat.le_refl _) _).alloc (by simp) _
  have hS0 : W0.heap.size = w.heap.size + 2 := by rw [← hW0]; simp
  have a0 : W0.cell? ⟨w.heap.size, 0, none⟩ = some (.int .i64 W) := by rw [← hW0]; simp [go_sem]
  have a1 : W0.cell? ⟨w.heap.size, 1, none⟩ = some (.int .i64 H) := by rw [← hW0]; simp [go_sem]
  have a2 : W0.cell? ⟨w.heap.size, 2, none⟩ = some (.slice (some ⟨b, o, none⟩) n c) := by rw [← hW0]; simp [go_sem]
  have bR : W0.heap[w.heap.size + 1]? = some (.cells #[.int .i64 0, .int .i64 0, .slice none 0 0] 48 (0, 0)) := by rw [← hW0]; exact blk_alloc_new1 _ _ _
  have KL : Hid (∀ (wr : World) (x y : Nat), Below (w.heap.size + 2) W0 wr → x < DW → y < DH → Calls Tryz.prog 46 #[.agg #[.int .i64 W, .int .i64 H, .slice (some ⟨b, o, none⟩) n c], .int .i64 (X + (x : Int)), .int .i64 (Y + (y : Int))] wr fun e w' => e = .returned (.int .i64 ((winL W H DW N ks X Y)[y * DW + x]?.getD 0)) ∧ Below wr.heap.size wr w') :=
    Lib.hid fun wr x y h hx hy => by
      have h2 := hB0.trans (h.mono (by omega))
      have hz := h2.size
      have hj : y * DW + x < N := idx_lt (p := (x, y)) hx hy (by rw [Nat.mul_comm]; exact hN')
      have hL := refLevel_all W H b o n c xs ks wr (hA.below h2 hb) (by omega) (X + (x : Int)) (Y + (y : Int))
      rw [show (winL W H DW N ks X Y)[y * DW + x]?.getD 0 = levelK W H ks (X + (x : Int)) (Y + (y : Int)) from by unfold winL; rw [range_get _ _ _ hj, idx_div hx, idx_mod hx]]
      exact hL
  have hlen : (winL W H DW N ks X Y).length = N := by unfold winL; simp
  have hsize : ∀ j, j < N → ((winL W H DW N ks X Y)[j]?.getD 0).natAbs ≤ 16384 := fun j hj => by
    unfold winL
    rw [range_get _ _ _ hj]
    exact levelK_le hA.lenk hA.sizes _ _ _ _
  have hle : largeErr N (winL W H DW N ks X Y) = 0 := by unfold largeErr; rw [if_pos hsize]
  have KM : Hid (∀ (wr : World) (v : Value), wr.ownsRow (w.heap.size + 2) 3 1 v N ((winL W H DW N ks X Y).map (Value.int .i64)) → Calls Tryz.prog 141 #[.int .i64 DW, .int .i64 DH, v] wr fun e w' =>
      ∃ X' Y' a' n' c', e = .returned (.tuple #[.agg #[.int .i64 X', .int .i64 Y', .slice a' n' c'], .int .i64 0]) ∧ ResV w' 0 DW DH (winL W H DW N ks X Y) X' Y' a' n' c' ∧ Below wr.heap.size wr w') :=
    Lib.hid fun wr v hown => by
      obtain ⟨av, cv, rfl⟩ := owns_slice hown
      have h := made_all DW DH av N cv _ (winL W H DW N ks X Y) hlen (by rw [← hN']; exact Nat.mul_pos (by omega) (by omega)) hsm wr hown
      rw [hle] at h
      exact h
  have HB0 := Lib.hid hB0
  have HS0 := Lib.hid hS0
  have HBR := Lib.hid bR
  have HLEN := Lib.hid hlen
  have HSZ := Lib.hid hsize
  have HN' := Lib.hid hN'
  clear hA hB0 hS0 bR hN' hlen hsize hle
  go_enter Tryz.func137, Tryz.ntmps137
  go_upto_region 1 with fail
  try rw [hW0]
  clear hW0
  go_wp2_with fail
  go_loopw [11, 12] (fun out i wr => ∃ y : Nat, y ≤ DH ∧ i = .int .i64 y ∧ wr.ownsRow (w.heap.size + 2) 3 1 out (y * DW) (((List.range (y * DW)).map (fun j => (winL W H DW N ks X Y)[j]?.getD 0)).map (Value.int .i64)) ∧ Below (w.heap.size + 2) W0 wr)
    (fun _ i _ => DH - (intOf i).toNat)
  case atStart => exact ⟨0, Nat.zero_le _, rfl, by rw [Nat.zero_mul]; exact World.ownsRow_nil _ _ _ _, Below.refl _ _⟩
  case round =>
    obtain ⟨y, hy, rfl, hown, hnx⟩ := hrel
    have a0' := (hnx.cell (p := ⟨w.heap.size, 0, none⟩) (by show w.heap.size < _; omega)).trans a0
    have a1' := (hnx.cell (p := ⟨w.heap.size, 1, none⟩) (by show w.heap.size < _; omega)).trans a1
    by_cases hlt : y < DH
    · have HO := Lib.hid hown
      have HNX := Lib.hid hnx
      have hd : decide ((y : Int) < (DH : Int)) = true := decide_eq_true (by omega)
      clear hown hnx
      go_wp2_with fail
      try simp only [hd]
      clear hd
      go_loopw [11, 13] (fun out i wq => ∃ x : Nat, x ≤ DW ∧ i = .int .i64 x ∧ wq.ownsRow (w.heap.size + 2) 3 1 out (y * DW + x) (((List.range (y * DW + x)).map (fun j => (winL W H DW N ks X Y)[j]?.getD 0)).map (Value.int .i64)) ∧ Below (w.heap.size + 2) W0 wq)
        (fun _ i _ => DW - (intOf i).toNat)
      case atStart => exact ⟨0, Nat.zero_le _, rfl, HO.out, HNX.out⟩
      case round =>
        obtain ⟨x, hx, rfl, hown, hnx⟩ := hrel
        have c0' := (hnx.cell (p := ⟨w.heap.size, 0, none⟩) (by show w.heap.size < _; omega)).trans a0
        have c1' := (hnx.cell (p := ⟨w.heap.size, 1, none⟩) (by show w.heap.size < _; omega)).trans a1
        have c2' := (hnx.cell (p := ⟨w.heap.size, 2, none⟩) (by show w.heap.size < _; omega)).trans a2
        clear a0' a1'
        by_cases hlx : x < DW
        · obtain ⟨av, cv, rfl⟩ := owns_slice hown
          have hj : y * DW + x < N := idx_lt (p := (x, y)) hlx hlt (by rw [Nat.mul_comm]; exact HN'.out)
          have KLL := Lib.hid (KL.out wr x y hnx hlx hlt)
          have hsz : w.heap.size + 2 ≤ wr.heap.size := by have := hnx.size; have := HS0.out; omega
          have HE := Lib.hid (list_succ (fun j => (winL W H DW N ks X Y)[j]?.getD 0) (y * DW + x))
          generalize hJ : y * DW + x = J at *
          go_wp2_with (first
            | ((go_at_call 46; refine KLL.out.mono ?_; rintro e w1 ⟨rfl, hb1⟩
                have hown1 := owns_kept hown hb1 (Nat.le_refl _)
                have hs1 := hb1.size))
            | (at_builtin; refine wpList_append_own _ rfl (.tmp 26) (.tmp 35) 25 rfl (w.heap.size + 2) 3 i0 (.int .i64 0) 1 8 Tryz.underlying25 hi hz0 hz1 hz2 rfl (by decide) _ J _ rfl (hown1.alloc _) ⟨w1.heap.size, 0, none⟩ 1 1 [.int .i64 ((winL W H DW N ks X Y)[J]?.getD 0)] rfl rfl (cell_one_new _ _ _) (by intro u hu; simp at hu; subst hu; rfl) (by unfold maxLen; omega) (by omega) (by simp; omega) ?_; intro v' w2 hown2 hgrow2 _))
          have hlt' := hown1.lt
          go_roundw
          case rel => exact ⟨x + 1, by omega, by go_num, by rw [← Nat.add_assoc, hJ, HE.out]; exact hown2, ((hnx.trans (hb1.mono hsz)).alloc (by omega) _).grown hgrow2 (by simp; omega) (fun j hj => (hlt' j hj).1)⟩
          case measure => simp [intOf]; omega
        · obtain rfl : x = DW := by omega
          go_wp2_with fail
          go_roundw
          case rel => exact ⟨y + 1, by omega, by go_num, by rw [Nat.succ_mul]; exact hown, hnx⟩
          case measure => simp [intOf]; omega
    · obtain rfl : DH = y := by omega
      rw [HN'.out, show ((List.range N).map (fun j => (winL W H DW N ks X Y)[j]?.getD 0)) = winL W H DW N ks X Y from by
        unfold winL
        refine List.map_congr_left (fun j hj => ?_)
        exact range_get _ _ j (List.mem_range.1 hj)] at hown
      obtain ⟨av, cv, rfl⟩ := owns_slice hown
      have KMM := Lib.hid (KM.out wr _ hown)
      have hs2 : w.heap.size + 2 ≤ wr.heap.size := by have := hnx.size; have := HS0.out; omega
      have bR1 := (hnx.block (w.heap.size + 1) (by omega)).trans HBR.out
      have HNX := Lib.hid hnx
      have HBR1 := Lib.hid bR1
      clear hown hnx bR1
      go_wp2_with ((go_at_call 141; refine KMM.out.mono ?_; rintro e w1 ⟨X', Y', a', n', c', rfl, hres, hb1⟩
                    have bR2 := (hb1.block (w.heap.size + 1) (by omega)).trans HBR1.out
                    have hs1 := hb1.size
                    have bRx := (Below.heap_alloc w1 (.cells #[.int .i64 X', .int .i64 Y', .slice a' n' c'] 48) (w.heap.size + 1) (by omega)).trans bR2
                    obtain ⟨W2, hW2⟩ : ∃ W2, w1.alloc (.cells #[.int .i64 X', .int .i64 Y', .slice a' n' c'] 48) = W2 := ⟨_, rfl⟩
                    rw [hW2] at bRx
                    have q0 : W2.frozen? ⟨w.heap.size + 1, 0, none⟩ = false := by simp [World.frozen?, bRx]
                    have q1 : W2.frozen? ⟨w.heap.size + 1, 1, none⟩ = false := by simp [World.frozen?, bRx]
                    have q2 : W2.frozen? ⟨w.heap.size + 1, 2, none⟩ = false := by simp [World.frozen?, bRx]
                    have p0 : W2.cell? ⟨w.heap.size + 1, 0, none⟩ = some (.int .i64 0) := by rw [cell_of_row W2 _ 0 _ _ (0, 0) bRx]; rfl
                    have p1 : W2.cell? ⟨w.heap.size + 1, 1, none⟩ = some (.int .i64 0) := by rw [cell_of_row W2 _ 1 _ _ (0, 0) bRx]; rfl
                    have p2 : W2.cell? ⟨w.heap.size + 1, 2, none⟩ = some (.slice none 0 0) := by rw [cell_of_row W2 _ 2 _ _ (0, 0) bRx]; rfl
                    have bM2 : W2.heap[w1.heap.size]? = some (.cells #[.int .i64 X', .int .i64 Y', .slice a' n' c'] 48 (0, 0)) := by rw [← hW2]; exact blk_alloc_new _ _
                    have m0 : W2.cell? ⟨w1.heap.size, 0, none⟩ = some (.int .i64 X') := by rw [cell_of_row W2 _ 0 _ _ (0, 0) bM2]; rfl
                    have m1 : W2.cell? ⟨w1.heap.size, 1, none⟩ = some (.int .i64 Y') := by rw [cell_of_row W2 _ 1 _ _ (0, 0) bM2]; rfl
                    have m2 : W2.cell? ⟨w1.heap.size, 2, none⟩ = some (.slice a' n' c') := by rw [cell_of_row W2 _ 2 _ _ (0, 0) bM2]; rfl
                    have hb2 : Below w1.heap.size w1 W2 := by rw [← hW2]; exact (Below.refl _ _).alloc (Nat.le_refl _) _
                    have HR2 := Lib.hid bRx
                    have HRES := Lib.hid (hres.kept hb2)
                    have HB2 := Lib.hid ((HNX.out.trans (hb1.mono hs2)).trans (hb2.mono (by omega)))
                    have HS2 := Lib.hid hs2
                    clear bRx bR2 bM2 hres hb1 hb2
                    try rw [hW2]))
      obtain ⟨WF, hWF⟩ : ∃ WF, (((W2.setCell ⟨w.heap.size + 1, 0, none⟩ (.int .i64 X')).setCell ⟨w.heap.size + 1, 1, none⟩ (.int .i64 Y')).setCell ⟨w.heap.size + 1, 2, none⟩ (.slice a' n' c')) = WF := ⟨_, rfl⟩
      have rF : WF.heap[w.heap.size + 1]? = some (.cells #[.int .i64 X', .int .i64 Y', .slice a' n' c'] 48 (0, 0)) := by rw [← hWF]; exact blk_set3 HR2.out _ _ _
      have bF : Below w.heap.size w WF := by rw [← hWF]; exact below_set3 (HB0.out.trans (HB2.out.mono (by omega))) (by omega) _ _ _
      have vF : ResV WF 0 DW DH (winL W H DW N ks X Y) X' Y' a' n' c' := by rw [← hWF]; exact HRES.out.stored HR2.out (OneBlk.set3 _ _ _ _ _)
      rw [hWF]
      exact bodyPost_ret (v := .agg #[.int .i64 X', .int .i64 Y', .slice a' n' c']) (results_cell_row Tryz.results137 _ _ (w.heap.size + 1) 48 _ (0, 0) _ rfl rF Tryz.underlying48 rfl (by kernel_rfl)) rfl ⟨_, _, _, _, _, rfl, vF, bF⟩

end Go.Proofs.YtfdkmmllemkogaaGreatDoor
