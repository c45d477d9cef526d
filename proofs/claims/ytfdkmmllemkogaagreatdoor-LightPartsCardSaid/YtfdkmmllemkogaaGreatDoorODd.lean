/-
  Contracts of the reference's Part and Placed.
-/
import Derived.Test.YtfdkmmllemkogaaGreatDoorODb
namespace Go.Proofs.YtfdkmmllemkogaaGreatDoor
open Go.RowKit
set_option linter.unusedVariables false
set_option linter.unusedSimpArgs false

set_option maxRecDepth 100000 in
set_option maxHeartbeats 6400000 in
theorem refPart_res (W H : Int) (a : Option Addr) (n c : Nat) (xs : List Nat) (cf ct rf rt : Int) (w : World) (hM : AnyMap w a n c xs) (h0 : mapErr W H n xs = 0) (h1 : firstNZ [spanErr cf ct W, spanErr rf rt H] = 0) :
    AnswersMap 53 #[.agg #[.int .i64 W, .int .i64 H, .slice a n c], .agg #[.int .i64 cf, .int .i64 ct], .agg #[.int .i64 rf, .int .i64 rt]] w (ct - cf) (rt - rf) (partL W H (xs.map kOf) cf ct rf rt) := by
  obtain ⟨h2, h3⟩ := firstNZ_two h1
  obtain ⟨s1, s2, s3⟩ := spanErr_zero h2
  obtain ⟨s4, s5, s6⟩ := spanErr_zero h3
  obtain ⟨W0, hW0⟩ : ∃ W0, ((((w.alloc (.cells #[.int .i64 W, .int .i64 H, .slice a n c] 48)).alloc (.cells #[.int .i64 cf, .int .i64 ct] 70)).alloc (.cells #[.int .i64 rf, .int .i64 rt] 70)).alloc (.cells #[.int .i64 0, .int .i64 0, .slice none 0 0] 48)) = W0 := ⟨_, rfl⟩
  have hB0 : Below w.heap.size w W0 := by rw [← hW0]; exact (((((Below.refl _ w).alloc (Nat.le_refl _) _).alloc (by simp) _).alloc (by simp <;> omega) _).alloc (by simp <;> omega) _)
  have hS0 : W0.heap.size = w.heap.size + 4 := by rw [← hW0]; simp
  have b0c0 : W0.cell? ⟨w.heap.size, 0, none⟩ = some (.int .i64 W) := by rw [← hW0]; simp [go_sem]
  have b0c1 : W0.cell? ⟨w.heap.size, 1, none⟩ = some (.int .i64 H) := by rw [← hW0]; simp [go_sem]
  have b0c2 : W0.cell? ⟨w.heap.size, 2, none⟩ = some (.slice a n c) := by rw [← hW0]; simp [go_sem]
  have b1c0 : W0.cell? ⟨w.heap.size + 1, 0, none⟩ = some (.int .i64 cf) := by rw [← hW0]; simp [go_sem]
  have b1c1 : W0.cell? ⟨w.heap.size + 1, 1, none⟩ = some (.int .i64 ct) := by rw [← hW0]; simp [go_sem]
  have b2c0 : W0.cell? ⟨w.heap.size + 1 + 1, 0, none⟩ = some (.int .i64 rf) := by rw [← hW0]; simp [go_sem]
  have b2c1 : W0.cell? ⟨w.heap.size + 1 + 1, 1, none⟩ = some (.int .i64 rt) := by rw [← hW0]; simp [go_sem]
  have bz0 : W0.heap[w.heap.size + 1 + 1 + 1]? = some (.cells #[.int .i64 0, .int .i64 0, .slice none 0 0] 48 (0, 0)) := by rw [← hW0]; have h := blk_alloc_new (((w.alloc (.cells #[.int .i64 W, .int .i64 H, .slice a n c] 48)).alloc (.cells #[.int .i64 cf, .int .i64 ct] 70)).alloc (.cells #[.int .i64 rf, .int .i64 rt] 70)) (.cells #[.int .i64 0, .int .i64 0, .slice none 0 0] 48); simpa using h
  have KW : Hid (Calls Tryz.prog 137 #[.agg #[.int .i64 W, .int .i64 H, .slice a n c], .int .i64 (ct - cf), .int .i64 (rt - rf), .int .i64 cf, .int .i64 rf] W0 fun e w' =>
      ∃ X Y a' n' c', e = .returned (.agg #[.int .i64 X, .int .i64 Y, .slice a' n' c']) ∧ ResV w' 0 (ct - cf) (rt - rf) (partL W H (xs.map kOf) cf ct rf rt) X Y a' n' c' ∧ Below W0.heap.size W0 w') := Lib.hid (by
    obtain ⟨b, o, rfl, hb, hR⟩ := (hM.below hB0 (Nat.le_refl _)).rightK h0
    have hw := hR.wid
    have hh := hR.hei
    obtain ⟨Wn, rfl⟩ := Int.eq_ofNat_of_zero_le (show 0 ≤ W by omega)
    obtain ⟨Hn, rfl⟩ := Int.eq_ofNat_of_zero_le (show 0 ≤ H by omega)
    obtain ⟨DW, hDW⟩ := Int.eq_ofNat_of_zero_le (show 0 ≤ ct - cf by omega)
    obtain ⟨DH, hDH⟩ := Int.eq_ofNat_of_zero_le (show 0 ≤ rt - rf by omega)
    have h := window_any Wn Hn b o n c xs _ W0 hR hb DW DH (DH * DW) cf rf (by omega) (by omega) (by omega) (by omega) rfl
    unfold partL
    rw [hDW, hDH]
    exact h)
  have hW : 1 ≤ W ∧ W ≤ 64 ∧ 1 ≤ H ∧ H ≤ 64 := by
    obtain ⟨b, o, _, hb, hR⟩ := hM.rightK h0
    exact ⟨hR.wid.1, hR.wid.2, hR.hei.1, hR.hei.2⟩
  have HB0 := Lib.hid hB0
  have HZB := Lib.hid bz0
  clear hM h0 h1 h2 h3 hB0 bz0
  unfold AnswersMap
  go_enter Tryz.func53, Tryz.ntmps53
  go_upto_region 1 with fail
  try rw [hW0]
  clear hW0
  go_wp2_with ((go_at_call 137; refine KW.out.mono ?_; rintro e w1 ⟨X, Y, a', n', c', rfl, hres, hb1⟩
                have bP := (hb1.block (w.heap.size + 1 + 1 + 1) (by omega)).trans HZB.out
                have q0 : w1.frozen? ⟨w.heap.size + 1 + 1 + 1, 0, none⟩ = false := by simp [World.frozen?, bP]
                have q1 : w1.frozen? ⟨w.heap.size + 1 + 1 + 1, 1, none⟩ = false := by simp [World.frozen?, bP]
                have q2 : w1.frozen? ⟨w.heap.size + 1 + 1 + 1, 2, none⟩ = false := by simp [World.frozen?, bP]
                have p0 : w1.cell? ⟨w.heap.size + 1 + 1 + 1, 0, none⟩ = some (.int .i64 0) := by rw [cell_of_row w1 _ 0 _ _ (0, 0) bP]; rfl
                have p1 : w1.cell? ⟨w.heap.size + 1 + 1 + 1, 1, none⟩ = some (.int .i64 0) := by rw [cell_of_row w1 _ 1 _ _ (0, 0) bP]; rfl
                have p2 : w1.cell? ⟨w.heap.size + 1 + 1 + 1, 2, none⟩ = some (.slice none 0 0) := by rw [cell_of_row w1 _ 2 _ _ (0, 0) bP]; rfl
                have HBP := Lib.hid bP
                clear bP))
  obtain ⟨WF, hWF⟩ : ∃ WF, (((w1.setCell ⟨w.heap.size + 1 + 1 + 1, 0, none⟩ (.int .i64 X)).setCell ⟨w.heap.size + 1 + 1 + 1, 1, none⟩ (.int .i64 Y)).setCell ⟨w.heap.size + 1 + 1 + 1, 2, none⟩ (.slice a' n' c')) = WF := ⟨_, rfl⟩
  have rF : WF.heap[w.heap.size + 1 + 1 + 1]? = some (.cells #[.int .i64 X, .int .i64 Y, .slice a' n' c'] 48 (0, 0)) := by rw [← hWF]; exact blk_set3 HBP.out _ _ _
  have bF : Below w.heap.size w WF := by rw [← hWF]; exact below_set3 (HB0.out.trans (hb1.mono (by omega))) (by omega) _ _ _
  have vF : ResV WF 0 (ct - cf) (rt - rf) (partL W H (xs.map kOf) cf ct rf rt) X Y a' n' c' := by rw [← hWF]; exact hres.stored HBP.out (OneBlk.set3 _ _ _ _ _)
  rw [hWF]
  exact bodyPost_ret (v := .agg #[.int .i64 X, .int .i64 Y, .slice a' n' c']) (results_cell_row Tryz.results53 _ _ (w.heap.size + 1 + 1 + 1) 48 _ (0, 0) _ rfl rF Tryz.underlying48 rfl (by kernel_rfl)) rfl ⟨_, _, _, _, _, rfl, vF, bF⟩

set_option maxRecDepth 100000 in
set_option maxHeartbeats 6400000 in
theorem refPlaced_ok (W H : Int) (a : Option Addr) (n c : Nat) (xs : List Nat) (ww hh px py : Int) (w : World) (hM : AnyMap w a n c xs) (h0 : firstNZ [mapErr W H n xs, rangeErr ww 1 64, rangeErr hh 1 64] = 0) (hp : placedOk W H ww hh px py) :
    Answers 54 #[.agg #[.int .i64 W, .int .i64 H, .slice a n c], .int .i64 ww, .int .i64 hh, .agg #[.int .i64 px, .int .i64 py]] w 0 ww hh (placedIL W H (xs.map kOf) ww hh px py) := by
  obtain ⟨h1, h2, h3⟩ := firstNZ_three h0
  have r1 := rangeErr_zero h2
  have r2 := rangeErr_zero h3
  have hW : 1 ≤ W ∧ W ≤ 64 ∧ 1 ≤ H ∧ H ≤ 64 := by
    obtain ⟨b, o, _, hb, hR⟩ := hM.rightK h1
    exact ⟨hR.wid.1, hR.wid.2, hR.hei.1, hR.hei.2⟩
  obtain ⟨p1, p2, p3, p4⟩ := hp
  obtain ⟨W0, hW0⟩ : ∃ W0, (((w.alloc (.cells #[.int .i64 W, .int .i64 H, .slice a n c] 48)).alloc (.cells #[.int .i64 px, .int .i64 py] 50)).alloc (.cells #[.int .i64 0, .int .i64 0, .slice none 0 0] 48)) = W0 := ⟨_, rfl⟩
  have hB0 : Below w.heap.size w W0 := by rw [← hW0]; exact ((((Below.refl _ w).alloc (Nat.le_refl _) _).alloc (by simp) _).alloc (by simp <;> omega) _)
  have hS0 : W0.heap.size = w.heap.size + 3 := by rw [← hW0]; simp
  have b0c0 : W0.cell? ⟨w.heap.size, 0, none⟩ = some (.int .i64 W) := by rw [← hW0]; simp [go_sem]
  have b0c1 : W0.cell? ⟨w.heap.size, 1, none⟩ = some (.int .i64 H) := by rw [← hW0]; simp [go_sem]
  have b0c2 : W0.cell? ⟨w.heap.size, 2, none⟩ = some (.slice a n c) := by rw [← hW0]; simp [go_sem]
  have b1c0 : W0.cell? ⟨w.heap.size + 1, 0, none⟩ = some (.int .i64 px) := by rw [← hW0]; simp [go_sem]
  have b1c1 : W0.cell? ⟨w.heap.size + 1, 1, none⟩ = some (.int .i64 py) := by rw [← hW0]; simp [go_sem]
  have bz0 : W0.heap[w.heap.size + 1 + 1]? = some (.cells #[.int .i64 0, .int .i64 0, .slice none 0 0] 48 (0, 0)) := by rw [← hW0]; have h := blk_alloc_new ((w.alloc (.cells #[.int .i64 W, .int .i64 H, .slice a n c] 48)).alloc (.cells #[.int .i64 px, .int .i64 py] 50)) (.cells #[.int .i64 0, .int .i64 0, .slice none 0 0] 48); simpa using h
  have KW : Hid (Calls Tryz.prog 137 #[.agg #[.int .i64 W, .int .i64 H, .slice a n c], .int .i64 ww, .int .i64 hh, .int .i64 (-px), .int .i64 (-py)] W0 fun e w' =>
      ∃ X Y a' n' c', e = .returned (.agg #[.int .i64 X, .int .i64 Y, .slice a' n' c']) ∧ ResV w' 0 ww hh (placedIL W H (xs.map kOf) ww hh px py) X Y a' n' c' ∧ Below W0.heap.size W0 w') := Lib.hid (by
    obtain ⟨b, o, rfl, hb, hR⟩ := (hM.below hB0 (Nat.le_refl _)).rightK h1
    obtain ⟨Wn, rfl⟩ := Int.eq_ofNat_of_zero_le (show 0 ≤ W by omega)
    obtain ⟨Hn, rfl⟩ := Int.eq_ofNat_of_zero_le (show 0 ≤ H by omega)
    obtain ⟨DW, rfl⟩ := Int.eq_ofNat_of_zero_le (show 0 ≤ ww by omega)
    obtain ⟨DH, rfl⟩ := Int.eq_ofNat_of_zero_le (show 0 ≤ hh by omega)
    exact window_any Wn Hn b o n c xs _ W0 hR hb DW DH (DH * DW) (-px) (-py) (by omega) (by omega) (by omega) (by omega) rfl)
  have HB0 := Lib.hid hB0
  have HZB := Lib.hid bz0
  have t1 : ¬ (px < 0) := by omega
  have t2 : ¬ (ww - W < px) := by omega
  have t3 : ¬ (py < 0) := by omega
  have t4 : ¬ (hh - H < py) := by omega
  clear hM h0 h1 h2 h3 hB0 bz0
  unfold Answers
  go_enter Tryz.func54, Tryz.ntmps54
  go_upto_region 1 with fail
  try rw [hW0]
  clear hW0
  go_wp2_with ((go_at_call 137; refine KW.out.mono ?_; rintro e w1 ⟨X, Y, a', n', c', rfl, hres, hb1⟩
                have bP := (hb1.block (w.heap.size + 1 + 1) (by omega)).trans HZB.out
                have q0 : w1.frozen? ⟨w.heap.size + 1 + 1, 0, none⟩ = false := by simp [World.frozen?, bP]
                have q1 : w1.frozen? ⟨w.heap.size + 1 + 1, 1, none⟩ = false := by simp [World.frozen?, bP]
                have q2 : w1.frozen? ⟨w.heap.size + 1 + 1, 2, none⟩ = false := by simp [World.frozen?, bP]
                have p0 : w1.cell? ⟨w.heap.size + 1 + 1, 0, none⟩ = some (.int .i64 0) := by rw [cell_of_row w1 _ 0 _ _ (0, 0) bP]; rfl
                have p1 : w1.cell? ⟨w.heap.size + 1 + 1, 1, none⟩ = some (.int .i64 0) := by rw [cell_of_row w1 _ 1 _ _ (0, 0) bP]; rfl
                have p2 : w1.cell? ⟨w.heap.size + 1 + 1, 2, none⟩ = some (.slice none 0 0) := by rw [cell_of_row w1 _ 2 _ _ (0, 0) bP]; rfl
                have HBP := Lib.hid bP
                clear bP))
  obtain ⟨WF, hWF⟩ : ∃ WF, (((w1.setCell ⟨w.heap.size + 1 + 1, 0, none⟩ (.int .i64 X)).setCell ⟨w.heap.size + 1 + 1, 1, none⟩ (.int .i64 Y)).setCell ⟨w.heap.size + 1 + 1, 2, none⟩ (.slice a' n' c')) = WF := ⟨_, rfl⟩
  have rF : WF.heap[w.heap.size + 1 + 1]? = some (.cells #[.int .i64 X, .int .i64 Y, .slice a' n' c'] 48 (0, 0)) := by rw [← hWF]; exact blk_set3 HBP.out _ _ _
  have bF : Below w.heap.size w WF := by rw [← hWF]; exact below_set3 (HB0.out.trans (hb1.mono (by omega))) (by omega) _ _ _
  have vF : ResV WF 0 ww hh (placedIL W H (xs.map kOf) ww hh px py) X Y a' n' c' := by rw [← hWF]; exact hres.stored HBP.out (OneBlk.set3 _ _ _ _ _)
  rw [hWF]
  exact bodyPost_ret (v := .tuple #[.agg #[.int .i64 X, .int .i64 Y, .slice a' n' c'], .int .i64 0]) (results_row_tmp Tryz.results54 _ _ (w.heap.size + 1 + 1) 48 _ (0, 0) _ rfl rF Tryz.underlying48 rfl (by kernel_rfl)) rfl ⟨_, _, _, _, _, rfl, vF, bF⟩

set_option maxRecDepth 100000 in
set_option maxHeartbeats 6400000 in
theorem refPlaced_span (W H : Int) (a : Option Addr) (n c : Nat) (xs : List Nat) (ww hh px py : Int) (w : World) (hM : AnyMap w a n c xs) (h0 : firstNZ [mapErr W H n xs, rangeErr ww 1 64, rangeErr hh 1 64] = 0) (hp : ¬ placedOk W H ww hh px py) :
    Calls Tryz.prog 54 #[.agg #[.int .i64 W, .int .i64 H, .slice a n c], .int .i64 ww, .int .i64 hh, .agg #[.int .i64 px, .int .i64 py]] w fun e w' =>
      e = .returned (.tuple #[.agg #[.int .i64 0, .int .i64 0, .slice none 0 0], .int .i64 14]) ∧ Below w.heap.size w w' := by
  obtain ⟨h1, h2, h3⟩ := firstNZ_three h0
  have r1 := rangeErr_zero h2
  have r2 := rangeErr_zero h3
  have hW : 1 ≤ W ∧ W ≤ 64 ∧ 1 ≤ H ∧ H ≤ 64 := by
    obtain ⟨b, o, _, hb, hR⟩ := hM.rightK h1
    exact ⟨hR.wid.1, hR.wid.2, hR.hei.1, hR.hei.2⟩
  have hq : ¬ (0 ≤ px ∧ px ≤ ww - W ∧ 0 ≤ py ∧ py ≤ hh - H) := hp
  obtain ⟨W0, hW0⟩ : ∃ W0, (((w.alloc (.cells #[.int .i64 W, .int .i64 H, .slice a n c] 48)).alloc (.cells #[.int .i64 px, .int .i64 py] 50)).alloc (.cells #[.int .i64 0, .int .i64 0, .slice none 0 0] 48)) = W0 := ⟨_, rfl⟩
  have hB0 : Below w.heap.size w W0 := by rw [← hW0]; exact ((((Below.refl _ w).alloc (Nat.le_refl _) _).alloc (by simp) _).alloc (by simp <;> omega) _)
  have hS0 : W0.heap.size = w.heap.size + 3 := by rw [← hW0]; simp
  have b0c0 : W0.cell? ⟨w.heap.size, 0, none⟩ = some (.int .i64 W) := by rw [← hW0]; simp [go_sem]
  have b0c1 : W0.cell? ⟨w.heap.size, 1, none⟩ = some (.int .i64 H) := by rw [← hW0]; simp [go_sem]
  have b0c2 : W0.cell? ⟨w.heap.size, 2, none⟩ = some (.slice a n c) := by rw [← hW0]; simp [go_sem]
  have b1c0 : W0.cell? ⟨w.heap.size + 1, 0, none⟩ = some (.int .i64 px) := by rw [← hW0]; simp [go_sem]
  have b1c1 : W0.cell? ⟨w.heap.size + 1, 1, none⟩ = some (.int .i64 py) := by rw [← hW0]; simp [go_sem]
  have bz0 : W0.heap[w.heap.size + 1 + 1]? = some (.cells #[.int .i64 0, .int .i64 0, .slice none 0 0] 48 (0, 0)) := by rw [← hW0]; have h := blk_alloc_new ((w.alloc (.cells #[.int .i64 W, .int .i64 H, .slice a n c] 48)).alloc (.cells #[.int .i64 px, .int .i64 py] 50)) (.cells #[.int .i64 0, .int .i64 0, .slice none 0 0] 48); simpa using h
  have bP := bz0
  have q0 : W0.frozen? ⟨w.heap.size + 1 + 1, 0, none⟩ = false := by simp [World.frozen?, bP]
  have q1 : W0.frozen? ⟨w.heap.size + 1 + 1, 1, none⟩ = false := by simp [World.frozen?, bP]
  have q2 : W0.frozen? ⟨w.heap.size + 1 + 1, 2, none⟩ = false := by simp [World.frozen?, bP]
  have p0 : W0.cell? ⟨w.heap.size + 1 + 1, 0, none⟩ = some (.int .i64 0) := by rw [cell_of_row W0 _ 0 _ _ (0, 0) bP]; rfl
  have p1 : W0.cell? ⟨w.heap.size + 1 + 1, 1, none⟩ = some (.int .i64 0) := by rw [cell_of_row W0 _ 1 _ _ (0, 0) bP]; rfl
  have p2 : W0.cell? ⟨w.heap.size + 1 + 1, 2, none⟩ = some (.slice none 0 0) := by rw [cell_of_row W0 _ 2 _ _ (0, 0) bP]; rfl
  have HBP := Lib.hid bP
  clear bP
  have HB0 := Lib.hid hB0
  clear hM h0 h1 h2 h3 hB0 bz0 hp
  go_enter Tryz.func54, Tryz.ntmps54
  go_upto_region 1 with fail
  try rw [hW0]
  clear hW0
  by_cases t1 : px < 0
  · go_wp2_with fail
    obtain ⟨WF, hWF⟩ : ∃ WF, (((W0.setCell ⟨w.heap.size + 1 + 1, 0, none⟩ (.int .i64 0)).setCell ⟨w.heap.size + 1 + 1, 1, none⟩ (.int .i64 0)).setCell ⟨w.heap.size + 1 + 1, 2, none⟩ (.slice none 0 0)) = WF := ⟨_, rfl⟩
    have rF : WF.heap[w.heap.size + 1 + 1]? = some (.cells #[.int .i64 0, .int .i64 0, .slice none 0 0] 48 (0, 0)) := by rw [← hWF]; exact blk_set3 HBP.out _ _ _
    have bF : Below w.heap.size w WF := by rw [← hWF]; exact below_set3 HB0.out (by omega) _ _ _
    rw [hWF]
    exact bodyPost_ret (v := .tuple #[.agg #[.int .i64 0, .int .i64 0, .slice none 0 0], .int .i64 14]) (results_row_tmp Tryz.results54 _ _ (w.heap.size + 1 + 1) 48 _ (0, 0) _ rfl rF Tryz.underlying48 rfl (by kernel_rfl)) rfl ⟨rfl, bF⟩
  by_cases t3 : py < 0
  · go_wp2_with fail
    obtain ⟨WF, hWF⟩ : ∃ WF, (((W0.setCell ⟨w.heap.size + 1 + 1, 0, none⟩ (.int .i64 0)).setCell ⟨w.heap.size + 1 + 1, 1, none⟩ (.int .i64 0)).setCell ⟨w.heap.size + 1 + 1, 2, none⟩ (.slice none 0 0)) = WF := ⟨_, rfl⟩
    have rF : WF.heap[w.heap.size + 1 + 1]? = some (.cells #[.int .i64 0, .int .i64 0, .slice none 0 0] 48 (0, 0)) := by rw [← hWF]; exact blk_set3 HBP.out _ _ _
    have bF : Below w.heap.size w WF := by rw [← hWF]; exact below_set3 HB0.out (by omega) _ _ _
    rw [hWF]
    exact bodyPost_ret (v := .tuple #[.agg #[.int .i64 0, .int .i64 0, .slice none 0 0], .int .i64 14]) (results_row_tmp Tryz.results54 _ _ (w.heap.size + 1 + 1) 48 _ (0, 0) _ rfl rF Tryz.underlying48 rfl (by kernel_rfl)) rfl ⟨rfl, bF⟩
  by_cases t2 : ww - W < px
  · go_wp2_with fail
    obtain ⟨WF, hWF⟩ : ∃ WF, (((W0.setCell ⟨w.heap.size + 1 + 1, 0, none⟩ (.int .i64 0)).setCell ⟨w.heap.size + 1 + 1, 1, none⟩ (.int .i64 0)).setCell ⟨w.heap.size + 1 + 1, 2, none⟩ (.slice none 0 0)) = WF := ⟨_, rfl⟩
    have rF : WF.heap[w.heap.size + 1 + 1]? = some (.cells #[.int .i64 0, .int .i64 0, .slice none 0 0] 48 (0, 0)) := by rw [← hWF]; exact blk_set3 HBP.out _ _ _
    have bF : Below w.heap.size w WF := by rw [← hWF]; exact below_set3 HB0.out (by omega) _ _ _
    rw [hWF]
    exact bodyPost_ret (v := .tuple #[.agg #[.int .i64 0, .int .i64 0, .slice none 0 0], .int .i64 14]) (results_row_tmp Tryz.results54 _ _ (w.heap.size + 1 + 1) 48 _ (0, 0) _ rfl rF Tryz.underlying48 rfl (by kernel_rfl)) rfl ⟨rfl, bF⟩
  · have t4 : hh - H < py := by omega
    go_wp2_with fail
    obtain ⟨WF, hWF⟩ : ∃ WF, (((W0.setCell ⟨w.heap.size + 1 + 1, 0, none⟩ (.int .i64 0)).setCell ⟨w.heap.size + 1 + 1, 1, none⟩ (.int .i64 0)).setCell ⟨w.heap.size + 1 + 1, 2, none⟩ (.slice none 0 0)) = WF := ⟨_, rfl⟩
    have rF : WF.heap[w.heap.size + 1 + 1]? = some (.cells #[.int .i64 0, .int .i64 0, .slice none 0 0] 48 (0, 0)) := by rw [← hWF]; exact blk_set3 HBP.out _ _ _
    have bF : Below w.heap.size w WF := by rw [← hWF]; exact below_set3 HB0.out (by omega) _ _ _
    rw [hWF]
    exact bodyPost_ret (v := .tuple #[.agg #[.int .i64 0, .int .i64 0, .slice none 0 0], .int .i64 14]) (results_row_tmp Tryz.results54 _ _ (w.heap.size + 1 + 1) 48 _ (0, 0) _ rfl rF Tryz.underlying48 rfl (by kernel_rfl)) rfl ⟨rfl, bF⟩

theorem refPlaced_res (W H : Int) (a : Option Addr) (n c : Nat) (xs : List Nat) (ww hh px py : Int) (w : World) (hM : AnyMap w a n c xs) (h0 : firstNZ [mapErr W H n xs, rangeErr ww 1 64, rangeErr hh 1 64] = 0) :
    Answers 54 #[.agg #[.int .i64 W, .int .i64 H, .slice a n c], .int .i64 ww, .int .i64 hh, .agg #[.int .i64 px, .int .i64 py]] w (placedErr W H n xs ww hh px py) ww hh (placedIL W H (xs.map kOf) ww hh px py) := by
  unfold placedErr
  rw [if_pos h0]
  by_cases hp : placedOk W H ww hh px py
  · rw [if_pos hp]
    exact refPlaced_ok W H a n c xs ww hh px py w hM h0 hp
  · rw [if_neg hp]
    refine (refPlaced_span W H a n c xs ww hh px py w hM h0 hp).mono ?_
    rintro e w' ⟨rfl, hb'⟩
    exact ⟨_, _, _, _, _, rfl, ResV.none _ _ _ _ _ (by decide), hb'⟩
end Go.Proofs.YtfdkmmllemkogaaGreatDoor
