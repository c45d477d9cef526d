/-
  Contract of the reference's Made for any integers: the map, or the error of a large one.
-/
import Derived.Test.YtfdkmmllemkogaaGreatDoorOBn
namespace Go.Proofs.YtfdkmmllemkogaaGreatDoor
open Go.RowKit
set_option linter.unusedVariables false
set_option linter.unusedSimpArgs false

theorem isLarge_yes (k : Int) (hk : 16384 < k.natAbs) (w : World) :
    Calls Tryz.prog 161 #[.int .i64 k] w fun e w' => e = .returned (.bool true) ∧ w = w' := by
  by_cases t1 : 16384 < k
  · clear hk
    go_enter Tryz.func161, Tryz.ntmps161
    go_wp2
    go_ret
    exact ⟨rfl, rfl⟩
  · have t2 : k < -16384 := by omega
    clear hk
    go_enter Tryz.func161, Tryz.ntmps161
    go_wp2
    go_ret
    exact ⟨rfl, rfl⟩

set_option maxRecDepth 100000 in
set_option maxHeartbeats 6400000 in
theorem made_large (W H : Int) (a : Option Addr) (n c : Nat) (ls : List Int) (hl : ls.length = n) (hm : n ≤ 4096) (hs : ¬ ∀ j, j < n → (ls[j]?.getD 0).natAbs ≤ 16384) (w : World)
    (hc : ∀ j, j < n → ∃ b o, a = some ⟨b, o, none⟩ ∧ b < w.heap.size ∧ w.cell? ⟨b, o + j, none⟩ = some (.int .i64 (ls[j]?.getD 0))) :
    Calls Tryz.prog 141 #[.int .i64 W, .int .i64 H, .slice a n c] w fun e w' =>
      e = .returned (.tuple #[.agg #[.int .i64 0, .int .i64 0, .slice none 0 0], .int .i64 4]) ∧ Below w.heap.size w w' := by
  obtain ⟨i0, hi, hz0, hz1, hz2⟩ := info_parts Tryz.infoF32
  have HL := Lib.hid hl
  obtain ⟨j0, hj0, hlg, hbf⟩ := first_large hs
  have HS := Lib.hid hbf
  have HLG := Lib.hid hlg
  have HC := Lib.hid hc
  clear hl hs hc hbf hlg
  go_enter Tryz.func141, Tryz.ntmps141
  go_wp2
  obtain ⟨W0, hW0⟩ : ∃ W0, (w.alloc (.cells #[.int .i64 0, .int .i64 0, .slice none 0 0] 48)).alloc (.cells #[.int .i64 W, .int .i64 H, .slice none 0 0] 48) = W0 := ⟨_, rfl⟩
  have hB0 : Below w.heap.size w W0 := by rw [← hW0]; exact ((Below.refl _ w).alloc (Nat.le_refl _) _).alloc (by simp) _
  have hS0 : W0.heap.size = w.heap.size + 2 := by rw [← hW0]; simp
  have bR : W0.heap[w.heap.size]? = some (.cells #[.int .i64 0, .int .i64 0, .slice none 0 0] 48 (0, 0)) := by rw [← hW0]; exact blk_alloc_other (blk_alloc_new _ _) _
  have bM : W0.heap[w.heap.size + 1]? = some (.cells #[.int .i64 W, .int .i64 H, .slice none 0 0] 48 (0, 0)) := by rw [← hW0]; exact blk_alloc_new1 _ _ _
  rw [hW0]
  have HB0 := Lib.hid hB0
  have HBR := Lib.hid bR
  have HBM := Lib.hid bM
  clear hW0 hB0 bR bM
  go_loopw [9] (fun iv wr => ∃ (k : Nat) (v : Value), k ≤ j0 ∧ iv = .int .i64 k ∧ wr.heap[w.heap.size + 1]? = some (.cells #[.int .i64 W, .int .i64 H, v] 48 (0, 0)) ∧ wr.heap[w.heap.size]? = some (.cells #[.int .i64 0, .int .i64 0, .slice none 0 0] 48 (0, 0)) ∧
      wr.ownsRow (w.heap.size + 2) 23 1 v k ((ls.take k).map (fun k => Value.float .f32 (smpOf k))) ∧ Below w.heap.size w wr ∧ w.heap.size + 2 ≤ wr.heap.size) (fun i _ => n - (intOf i).toNat)
  case atStart => exact ⟨0, _, Nat.zero_le _, rfl, HBM.out, HBR.out, World.ownsRow_nil _ _ _ _, HB0.out, by omega⟩
  case round =>
    obtain ⟨k, v, hk, rfl, bM, bR, hown, hnx, hsz⟩ := hrel
    obtain ⟨av, cv, rfl⟩ := owns_slice hown
    have hkn : k < n := by omega
    by_cases hlt : k < j0
    · obtain ⟨b, o, rfl, hb, hcell0⟩ := HC.out k hkn
      have hcell : wr.cell? ⟨b, o + k, none⟩ = some (.int .i64 (ls[k]?.getD 0)) := (hnx.cell (p := ⟨b, o + k, none⟩) hb).trans hcell0
      have KI := Lib.hid (isLarge_no _ (HS.out k hlt))
      have KS := Lib.hid (refSample_any (ls[k]?.getD 0) (Nat.lt_of_le_of_lt (HS.out k hlt) (by decide)))
      obtain ⟨lk, hlk⟩ : ∃ lk, ls[k]?.getD 0 = lk := ⟨_, rfl⟩
      have HLK := Lib.hid hlk
      rw [hlk] at hcell KI KS
      have c2 : wr.cell? ⟨w.heap.size + 1, 2, none⟩ = some (.slice av k cv) := by rw [cell_of_row wr _ 2 _ _ (0, 0) bM]; rfl
      have hne : ¬ (b = w.heap.size + 1) := by omega
      have hne' : ¬ (w.heap.size + 1 = b) := by omega
      have hy1 : ¬ (w.heap.size + 1 = wr.heap.size) := by omega
      have hy2 : ¬ (wr.heap.size = w.heap.size + 1) := by omega
      have hy3 : ¬ (b = wr.heap.size) := by omega
      have hy4 : ¬ (wr.heap.size = b) := by omega
      have ca1 : ∀ o, (wr.alloc o).cell? ⟨w.heap.size + 1, 2, none⟩ = some (.slice av k cv) := fun o => (((Below.refl _ wr).alloc (Nat.le_refl _) _).cell (p := ⟨w.heap.size + 1, 2, none⟩) (by show w.heap.size + 1 < _; omega)).trans c2
      have h4 : (k : Int) < (n : Int) := by omega
      have h5 : (0 : Int) ≤ (k : Int) := by omega
      have hvb : (Value.slice av k cv).ownBlock ≠ some (w.heap.size + 1) := fun e => by have := (hown.lt _ e).1; omega
      have hvb2 : (Value.slice av k cv).ownBlock ≠ some b := fun e => by have := (hown.lt _ e).1; omega
      have hvb3 : (Value.slice av k cv).ownBlock ≠ some w.heap.size := fun e => by have := (hown.lt _ e).1; omega
      have HBM' := Lib.hid bM
      have HBR' := Lib.hid bR
      clear hcell0 hlk HC bM bR
      go_upto_region 7 with (go_at_call 161; refine (KI.out _).mono ?_; rintro e w' ⟨rfl, rfl⟩)
      go_region_law
        (first
          | (refine step_func (by rfl) 45 (.tmp 30) 3 (by rfl) _ _ (by rfl) (by kernel_rfl) (KS.out _) ?_)
          | ((refine step_append_lies _ (by rfl) (.tmp 26) (.tmp 32) 46 (by rfl) (w.heap.size + 2) 23 i0 (.float .f32 0) 1 4 Tryz.underlying46 hi hz0 hz1 hz2 (by rfl) (by omega) (.slice av k cv) k _ (by rfl) (hown.alloc _) ⟨wr.heap.size, 0, none⟩ 1 1 [.float .f32 (smpOf lk)] (by rfl) (by rfl) (cell_one_new _ _ _) (by intro u hu; simp at hu; subst hu; rfl) (by omega) (by unfold maxLen; omega) (by omega) (by simp; omega) (wr.heap.size + 1) (by simp) ?_; intro g cap w1 hown1 hgrow hat hglt
              have bM1 : w1.heap[w.heap.size + 1]? = some (.cells #[.int .i64 W, .int .i64 H, .slice av k cv] 48 (0, 0)) := (hgrow.block (w.heap.size + 1) (by simp; omega) (Ne.symm hvb)).trans ((((Below.refl _ wr).alloc (Nat.le_refl _) _).block (w.heap.size + 1) (by omega)).trans HBM'.out)
              have bR1 : w1.heap[w.heap.size]? = some (.cells #[.int .i64 0, .int .i64 0, .slice none 0 0] 48 (0, 0)) := (hgrow.block w.heap.size (by simp; omega) (Ne.symm hvb3)).trans ((((Below.refl _ wr).alloc (Nat.le_refl _) _).block w.heap.size (by omega)).trans HBR'.out)
              have c2w : w1.cell? ⟨w.heap.size + 1, 2, none⟩ = some (.slice av k cv) := by rw [cell_of_row w1 _ 2 _ _ (0, 0) bM1]; rfl
              have q2w : w1.frozen? ⟨w.heap.size + 1, 2, none⟩ = false := frozen_of_row _ _ _ _ _ bM1
              have ckw : w1.cell? ⟨b, o + k, none⟩ = some (.int .i64 lk) := (World.cell?_of_block (hgrow.block b (by simp; omega) (Ne.symm hvb2))).trans ((((Below.refl _ wr).alloc (Nat.le_refl _) _).cell (p := ⟨b, o + k, none⟩) (by show b < _; omega)).trans hcell)
              have HM1 := Lib.hid bM1
              have HR1 := Lib.hid bR1
              have HG := Lib.hid hgrow
              have HO1 := Lib.hid hown1
              clear bM1 bR1)))
      all_goals
        go_wp2_with fail
        have hS1 : wr.heap.size + 1 ≤ w1.heap.size := by have := HG.out.size; simpa using this
        have hlw := hown.lt
        have e1 : (ls.take (k + 1)).map (fun k => Value.float .f32 (smpOf k)) = (ls.take k).map (fun k => Value.float .f32 (smpOf k)) ++ [.float .f32 (smpOf lk)] := by
          rw [take_map_succ (fun k => Value.float .f32 (smpOf k)) ls k (by have := HL.out; omega) 0, HLK.out]
        have fB : Below w.heap.size w w1 := (hnx.alloc (by omega) _).drew.grown HG.out (by simp; omega) (fun j hj => by have := (hlw j hj).1; omega)
        have HE1 := Lib.hid e1
        have HFB := Lib.hid fB
        have HS1 := Lib.hid hS1
        clear e1 fB hS1 hlw
        go_roundw
        case rel => exact ⟨k + 1, _, by omega, by go_num, blk_last HM1.out _, (setCell_other (by omega)).trans HR1.out, by rw [HE1.out]; exact ownsRow_setCell_below HO1.out (by dsimp only; omega) _, HFB.out.setCell (p := ⟨w.heap.size + 1, 2, none⟩) (by show w.heap.size ≤ w.heap.size + 1; omega) _, by have := HS1.out; simp; omega⟩
        case measure => simp [intOf]; omega
    · obtain rfl : k = j0 := by omega
      obtain ⟨b, o, rfl, hb, hcell0⟩ := HC.out k hkn
      have hcell : wr.cell? ⟨b, o + k, none⟩ = some (.int .i64 (ls[k]?.getD 0)) := (hnx.cell (p := ⟨b, o + k, none⟩) hb).trans hcell0
      have KI := Lib.hid (isLarge_yes _ HLG.out)
      obtain ⟨lk, hlk⟩ : ∃ lk, ls[k]?.getD 0 = lk := ⟨_, rfl⟩
      rw [hlk] at hcell KI
      have hne : ¬ (b = w.heap.size + 1) := by omega
      have hne' : ¬ (w.heap.size + 1 = b) := by omega
      have h4 : (k : Int) < (n : Int) := by omega
      have h5 : (0 : Int) ≤ (k : Int) := by omega
      have r0 : wr.cell? ⟨w.heap.size, 0, none⟩ = some (.int .i64 0) := by rw [cell_of_row wr _ 0 _ _ (0, 0) bR]; rfl
      have r1 : wr.cell? ⟨w.heap.size, 1, none⟩ = some (.int .i64 0) := by rw [cell_of_row wr _ 1 _ _ (0, 0) bR]; rfl
      have r2 : wr.cell? ⟨w.heap.size, 2, none⟩ = some (.slice none 0 0) := by rw [cell_of_row wr _ 2 _ _ (0, 0) bR]; rfl
      have q0 : wr.frozen? ⟨w.heap.size, 0, none⟩ = false := frozen_of_row _ _ _ _ _ bR
      have q1 : wr.frozen? ⟨w.heap.size, 1, none⟩ = false := frozen_of_row _ _ _ _ _ bR
      have q2 : wr.frozen? ⟨w.heap.size, 2, none⟩ = false := frozen_of_row _ _ _ _ _ bR
      have HBR' := Lib.hid bR
      clear bM bR hcell0 hlk hown
      go_wp2_with (go_at_call 161; refine (KI.out _).mono ?_; rintro e w' ⟨rfl, rfl⟩)
      obtain ⟨WF, hWF⟩ : ∃ WF, (((wr.setCell ⟨w.heap.size, 0, none⟩ (.int .i64 0)).setCell ⟨w.heap.size, 1, none⟩ (.int .i64 0)).setCell ⟨w.heap.size, 2, none⟩ (.slice none 0 0)) = WF := ⟨_, rfl⟩
      have rF : WF.heap[w.heap.size]? = some (.cells #[.int .i64 0, .int .i64 0, .slice none 0 0] 48 (0, 0)) := by rw [← hWF]; exact blk_set3 HBR'.out _ _ _
      have bF : Below w.heap.size w WF := by
        rw [← hWF]
        exact ((hnx.setCell (p := ⟨w.heap.size, 0, none⟩) (Nat.le_refl _) _).setCell (p := ⟨w.heap.size, 1, none⟩) (Nat.le_refl _) _).setCell (p := ⟨w.heap.size, 2, none⟩) (Nat.le_refl _) _
      rw [hWF]
      exact bodyPost_ret (v := .tuple #[.agg #[.int .i64 0, .int .i64 0, .slice none 0 0], .int .i64 4]) (results_row_tmp Tryz.results141 _ _ w.heap.size 48 _ (0, 0) _ rfl rF Tryz.underlying48 rfl (by kernel_rfl)) rfl ⟨rfl, bF⟩

theorem owns_cells {w : World} {B T n c : Nat} {a : Option Addr} {ls : List Int} (hl : ls.length = n) (h : w.ownsRow B T 1 (.slice a n c) n (ls.map (Value.int .i64))) :
    ∀ j, j < n → ∃ b o, a = some ⟨b, o, none⟩ ∧ b < w.heap.size ∧ w.cell? ⟨b, o + j, none⟩ = some (.int .i64 (ls[j]?.getD 0)) := by
  intro j hj
  rcases h.2 with ⟨_, h0⟩ | ⟨g, cap, cur, e, _, hg, _⟩
  · omega
  · simp at e
    obtain ⟨rfl, rfl⟩ := e
    refine ⟨g, 0, rfl, (Array.getElem?_eq_some_iff.1 hg).1, ?_⟩
    rw [Nat.zero_add]
    refine owns_cell h ?_
    rw [List.getElem?_map, List.getElem?_eq_getElem (by omega)]; rfl

/-- Made of a row of its own: whatever the integers are. -/
theorem made_all (W H : Int) (a : Option Addr) (n c B : Nat) (ls : List Int) (hl : ls.length = n) (hn : 1 ≤ n) (hm : n ≤ 4096) (w : World) (ho : w.ownsRow B 3 1 (.slice a n c) n (ls.map (Value.int .i64))) :
    Calls Tryz.prog 141 #[.int .i64 W, .int .i64 H, .slice a n c] w fun e w' =>
      ∃ X Y a' n' c', e = .returned (.tuple #[.agg #[.int .i64 X, .int .i64 Y, .slice a' n' c'], .int .i64 (largeErr n ls)]) ∧ ResV w' (largeErr n ls) W H ls X Y a' n' c' ∧ Below w.heap.size w w' := by
  unfold largeErr
  by_cases hs : ∀ j, j < n → (ls[j]?.getD 0).natAbs ≤ 16384
  · rw [if_pos hs]
    refine (made_any W H a n c ls hl hm hs w (owns_cells hl ho)).mono ?_
    rintro e w' ⟨v, rfl, hown, hb⟩
    rcases hown.2 with ⟨_, h0⟩ | ⟨g, cap, cur, rfl, _, hg, _⟩
    · omega
    · refine ⟨_, _, _, _, _, rfl, ResV.some hl hm hs (Array.getElem?_eq_some_iff.1 hg).1 (fun j hj => ?_), hb⟩
      refine owns_cell hown ?_
      rw [List.getElem?_map, List.getElem?_eq_getElem (by omega)]; rfl
  · rw [if_neg hs]
    refine (made_large W H a n c ls hl hm hs w (owns_cells hl ho)).mono ?_
    rintro e w' ⟨rfl, hb⟩
    exact ⟨_, _, _, _, _, rfl, ResV.none _ _ _ _ _ (by decide), hb⟩
end Go.Proofs.YtfdkmmllemkogaaGreatDoor
