/-
  Contract of the reference's Made for any integers: the map, or the error of a large one.
-/
import Derived.Test.YthfiilfekofimaaGreatDoorDBn
import Derived.Test.YthfiilfekofimaaGreatDoorDBc
import Derived.Test.YthfiilfekofimaaGreatDoorDFlr
import Derived.Test.YthfiilfekofimaaGreatDoorDBf
import Derived.Shelf.Strings.Builder1
import Derived.Shelf.Strings.OnBuilder
import Derived.Shelf.LaysM
import Derived.Shelf.Strconv.Itoa3
import Derived.Test.YthfiilfekofimaaGreatDoorProg
import Derived.Lib.AppendIntMem
import Derived.Lib.ItoaLen
import Derived.Test.YthfiilfekofimaaGreatDoorDWd
import Derived.Test.YthfiilfekofimaaGreatDoorDXd
import Derived.Test.YthfiilfekofimaaGreatDoorDWu
namespace Go.Proofs.YthfiilfekofimaaGreatDoor
open Go.RowKit
set_option linter.unusedVariables false
set_option linter.unusedSimpArgs false

theorem isLarge_yes (k : Int) (hk : 16384 < k.natAbs) (w : World) :
    Calls Tryz.prog 58 #[.int .i64 k] w fun e w' => e = .returned (.bool true) ∧ w = w' := by
  by_cases t1 : 16384 < k
  · clear hk
    go_enter Tryz.func58, Tryz.ntmps58
    go_wp2
    go_ret
    exact ⟨rfl, rfl⟩
  · have t2 : k < -16384 := by omega
    clear hk
    go_enter Tryz.func58, Tryz.ntmps58
    go_wp2
    go_ret
    exact ⟨rfl, rfl⟩

set_option maxRecDepth 100000 in
set_option maxHeartbeats 6400000 in
theorem made_large (W H : Int) (a : Option Addr) (n c : Nat) (ls : List Int) (hl : ls.length = n) (hm : n ≤ 4096) (hs : ¬ ∀ j, j < n → (ls[j]?.getD 0).natAbs ≤ 16384) (w : World)
    (hc : ∀ j, j < n → ∃ b o, a = some ⟨b, o, none⟩ ∧ b < w.heap.size ∧ w.cell? ⟨b, o + j, none⟩ = some (.int .i64 (ls[j]?.getD 0))) :
    Calls Tryz.prog 85 #[.int .i64 W, .int .i64 H, .slice a n c] w fun e w' =>
      e = .returned (.tuple #[.agg #[.int .i64 0, .int .i64 0, .slice none 0 0], .int .i64 4]) ∧ Below w.heap.size w w' := by
  obtain ⟨i0, hi, hz0, hz1, hz2⟩ := info_parts Tryz.infoF32
  have HL := Lib.hid hl
  obtain ⟨j0, hj0, hlg, hbf⟩ := first_large hs
  have HS := Lib.hid hbf
  have HLG := Lib.hid hlg
  have HC := Lib.hid hc
  clear hl hs hc hbf hlg
  go_enter Tryz.func85, Tryz.ntmps85
  go_wp2
  obtain ⟨W0, hW0⟩ : ∃ W0, (w.alloc (.cells #[.int .i64 0, .int .i64 0, .slice none 0 0] 41)).alloc (.cells #[.int .i64 W, .int .i64 H, .slice none 0 0] 41) = W0 := ⟨_, rfl⟩
  have hB0 : Below w.heap.size w W0 := by rw [← hW0]; exact ((Below.refl _ w).alloc (Nat.le_refl _) _).alloc (by simp) _
  have hS0 : W0.heap.size = w.heap.size + 2 := by rw [← hW0]; simp
  have bR : W0.heap[w.heap.size]? = some (.cells #[.int .i64 0, .int .i64 0, .slice none 0 0] 41 (0, 0)) := by rw [← hW0]; exact blk_alloc_other (blk_alloc_new _ _) _
  have bM : W0.heap[w.heap.size + 1]? = some (.cells #[.int .i64 W, .int .i64 H, .slice none 0 0] 41 (0, 0)) := by rw [← hW0]; exact blk_alloc_new1 _ _ _
  rw [hW0]
  have HB0 := Lib.hid hB0
  have HBR := Lib.hid bR
  have HBM := Lib.hid bM
  clear hW0 hB0 bR bM
  go_loopw [9] (fun iv wr => ∃ (k : Nat) (v : Value), k ≤ j0 ∧ iv = .int .i64 k ∧ wr.heap[w.heap.size + 1]? = some (.cells #[.int .i64 W, .int .i64 H, v] 41 (0, 0)) ∧ wr.heap[w.heap.size]? = some (.cells #[.int .i64 0, .int .i64 0, .slice none 0 0] 41 (0, 0)) ∧
      wr.ownsRow (w.heap.size + 2) 22 1 v k ((ls.take k).map (fun k => Value.float .f32 (smpOf k))) ∧ Below w.heap.size w wr ∧ w.heap.size + 2 ≤ wr.heap.size) (fun i _ => n - (intOf i).toNat)
  case atStart => exact ⟨0, _, Nat.zero_le _, rfl, HBM.out, HBR.out, World.ownsRow_nil _ _ _ _, HB0.out, by omega⟩
  case round =>
    obtain ⟨k, v, hk, rfl, bM, bR, hown, hnx, hsz⟩ := hrel
    obtain ⟨av, cv, rfl⟩ := owns_slice hown
    have hkn : k < n := by omega
    by_cases hlt : k < j0
    · obtain ⟨b, o, rfl, hb, hcell0⟩ := HC.out k hkn
      have hcell : wr.cell? ⟨b, o + k, none⟩ = some (.int .i64 (ls[k]?.getD 0)) := (hnx.cell (p := ⟨b, o + k, none⟩) hb).trans hcell0
      have KI := Lib.hid (isLarge_no _ (HS.out k hlt))
      have KS := Lib.hid (refSample_any (ls[k]?.getD 0) (Nat.lt_of_le_of_lt (HS.out k hlt) (by decide)))
      obtain ⟨lk, hlk⟩ : ∃ lk, ls[k]?.getD 0 = lk := ⟨_, rfl⟩
      have HLK := Lib.hid hlk
      rw [hlk] at hcell KI KS
      have c2 : wr.cell? ⟨w.heap.size + 1, 2, none⟩ = some (.slice av k cv) := by rw [cell_of_row wr _ 2 _ _ (0, 0) bM]; rfl
      have hne : ¬ (b = w.heap.size + 1) := by omega
      have hne' : ¬ (w.heap.size + 1 = b) := by omega
      have hy1 : ¬ (w.heap.size + 1 = wr.heap.size) := by omega
      have hy2 : ¬ (wr.heap.size = w.heap.size + 1) := by omega
      have hy3 : ¬ (b = wr.heap.size) := by omega
      have hy4 : ¬ (wr.heap.size = b) := by omega
      have ca1 : ∀ o, (wr.alloc o).cell? ⟨w.heap.size + 1, 2, none⟩ = some (.slice av k cv) := fun o => (((Below.refl _ wr).alloc (Nat.le_refl _) _).cell (p := ⟨w.heap.size + 1, 2, none⟩) (by show w.heap.size + 1 < _; omega)).trans c2
      have h4 : (k : Int) < (n : Int) := by omega
      have h5 : (0 : Int) ≤ (k : Int) := by omega
      have hvb : (Value.slice av k cv).ownBlock ≠ some (w.heap.size + 1) := fun e => by have := (hown.lt _ e).1; omega
      have hvb2 : (Value.slice av k cv).ownBlock ≠ some b := fun e => by have := (hown.lt _ e).1; omega
      have hvb3 : (Value.slice av k cv).ownBlock ≠ some w.heap.size := fun e => by have := (hown.lt _ e).1; omega
      have HBM' := Lib.hid bM
      have HBR' := Lib.hid bR
      clear hcell0 hlk HC bM bR
      go_upto_region 7 with (go_at_call 58; refine (KI.out _).mono ?_; rintro e w' ⟨rfl, rfl⟩)
      go_region_law
        (first
          | (refine step_func (by rfl) 37 (.tmp 30) 3 (by rfl) _ _ (by rfl) (by kernel_rfl) (KS.out _) ?_)
          | ((refine step_append_lies _ (by rfl) (.tmp 26) (.tmp 32) 33 (by rfl) (w.heap.size + 2) 22 i0 (.float .f32 0) 1 4 Tryz.underlying33 hi hz0 hz1 hz2 (by rfl) (by omega) (.slice av k cv) k _ (by rfl) (hown.alloc _) ⟨wr.heap.size, 0, none⟩ 1 1 [.float .f32 (smpOf lk)] (by rfl) (by rfl) (cell_one_new _ _ _) (by intro u hu; simp at hu; subst hu; rfl) (by omega) (by unfold maxLen; omega) (by omega) (by simp; omega) (wr.heap.size + 1) (by simp) ?_; intro g cap w1 hown1 hgrow hat hglt
              have bM1 : w1.heap[w.heap.size + 1]? = some (.cells #[.int .i64 W, .int .i64 H, .slice av k cv] 41 (0, 0)) := (hgrow.block (w.heap.size + 1) (by simp; omega) (Ne.symm hvb)).trans ((((Below.refl _ wr).alloc (Nat.le_refl _) _).block (w.heap.size + 1) (by omega)).trans HBM'.out)
              have bR1 : w1.heap[w.heap.size]? = some (.cells #[.int .i64 0, .int .i64 0, .slice none 0 0] 41 (0, 0)) := (hgrow.block w.heap.size (by simp; omega) (Ne.symm hvb3)).trans ((((Below.refl _ wr).alloc (Nat.le_refl _) _).block w.heap.size (by omega)).trans HBR'.out)
              have c2w : w1.cell? ⟨w.heap.size + 1, 2, none⟩ = some (.slice av k cv) := by rw [cell_of_row w1 _ 2 _ _ (0, 0) bM1]; rfl
              have q2w : w1.frozen? ⟨w.heap.size + 1, 2, none⟩ = false := frozen_of_row _ _ _ _ _ bM1
              have ckw : w1.cell? ⟨b, o + k, none⟩ = some (.int .i64 lk) := (World.cell?_of_block (hgrow.block b (by simp; omega) (Ne.symm hvb2))).trans ((((Below.refl _ wr).alloc (Nat.le_refl _) _).cell (p := ⟨b, o + k, none⟩) (by show b < _; omega)).trans hcell)
              have HM1 := Lib.hid bM1
              have HR1 := Lib.hid bR1
              have HG := Lib.hid hgrow
              have HO1 := Lib.hid hown1
              clear bM1 bR1)))
      all_goals
        go_wp2_with fail
        have hS1 : wr.heap.size + 1 ≤ w1.heap.size := by have := HG.out.size; simpa using this
        have hlw := hown.lt
        have e1 : (ls.take (k + 1)).map (fun k => Value.float .f32 (smpOf k)) = (ls.take k).map (fun k => Value.float .f32 (smpOf k)) ++ [.float .f32 (smpOf lk)] := by
          rw [take_map_succ (fun k => Value.float .f32 (smpOf k)) ls k (by have := HL.out; omega) 0, HLK.out]
        have fB : Below w.heap.size w w1 := (hnx.alloc (by omega) _).drew.grown HG.out (by simp; omega) (fun j hj => by have := (hlw j hj).1; omega)
        have HE1 := Lib.hid e1
        have HFB := Lib.hid fB
        have HS1 := Lib.hid hS1
        clear e1 fB hS1 hlw
        go_roundw
        case rel => exact ⟨k + 1, _, by omega, by go_num, blk_last HM1.out _, (setCell_other (by omega)).trans HR1.out, by rw [HE1.out]; exact ownsRow_setCell_below HO1.out (by dsimp only; omega) _, HFB.out.setCell (p := ⟨w.heap.size + 1, 2, none⟩) (by show w.heap.size ≤ w.heap.size + 1; omega) _, by have := HS1.out; simp; omega⟩
        case measure => simp [intOf]; omega
    · obtain rfl : k = j0 := by omega
      obtain ⟨b, o, rfl, hb, hcell0⟩ := HC.out k hkn
      have hcell : wr.cell? ⟨b, o + k, none⟩ = some (.int .i64 (ls[k]?.getD 0)) := (hnx.cell (p := ⟨b, o + k, none⟩) hb).trans hcell0
      have KI := Lib.hid (isLarge_yes _ HLG.out)
      obtain ⟨lk, hlk⟩ : ∃ lk, ls[k]?.getD 0 = lk := ⟨_, rfl⟩
      rw [hlk] at hcell KI
      have hne : ¬ (b = w.heap.size + 1) := by omega
      have hne' : ¬ (w.heap.size + 1 = b) := by omega
      have h4 : (k : Int) < (n : Int) := by omega
      have h5 : (0 : Int) ≤ (k : Int) := by omega
      have r0 : wr.cell? ⟨w.heap.size, 0, none⟩ = some (.int .i64 0) := by rw [cell_of_row wr _ 0 _ _ (0, 0) bR]; rfl
      have r1 : wr.cell? ⟨w.heap.size, 1, none⟩ = some (.int .i64 0) := by rw [cell_of_row wr _ 1 _ _ (0, 0) bR]; rfl
      have r2 : wr.cell? ⟨w.heap.size, 2, none⟩ = some (.slice none 0 0) := by rw [cell_of_row wr _ 2 _ _ (0, 0) bR]; rfl
      have q0 : wr.frozen? ⟨w.heap.size, 0, none⟩ = false := frozen_of_row _ _ _ _ _ bR
      have q1 : wr.frozen? ⟨w.heap.size, 1, none⟩ = false := frozen_of_row _ _ _ _ _ bR
      have q2 : wr.frozen? ⟨w.heap.size, 2, none⟩ = false := frozen_of_row _ _ _ _ _ bR
      have HBR' := Lib.hid bR
      clear bM bR hcell0 hlk hown
      go_wp2_with (go_at_call 58; refine (KI.out _).mono ?_; rintro e w' ⟨rfl, rfl⟩)
      obtain ⟨WF, hWF⟩ : ∃ WF, (((wr.setCell ⟨w.heap.size, 0, none⟩ (.int .i64 0)).setCell ⟨w.heap.size, 1, none⟩ (.int .i64 0)).setCell ⟨w.heap.size, 2, none⟩ (.slice none 0 0)) = WF := ⟨_, rfl⟩
      have rF : WF.heap[w.heap.size]? = some (.cells #[.int .i64 0, .int .i64 0, .slice none 0 0] 41 (0, 0)) := by rw [← hWF]; exact blk_set3 HBR'.out _ _ _
      have bF : Below w.heap.size w WF := by
        rw [← hWF]
        exact ((hnx.setCell (p := ⟨w.heap.size, 0, none⟩) (Nat.le_refl _) _).setCell (p := ⟨w.heap.size, 1, none⟩) (Nat.le_refl _) _).setCell (p := ⟨w.heap.size, 2, none⟩) (Nat.le_refl _) _
      rw [hWF]
      exact bodyPost_ret (v := .tuple #[.agg #[.int .i64 0, .int .i64 0, .slice none 0 0], .int .i64 4]) (results_row_tmp Tryz.results85 _ _ w.heap.size 41 _ (0, 0) _ rfl rF Tryz.underlying41 rfl (by kernel_rfl)) rfl ⟨rfl, bF⟩

theorem owns_cells {w : World} {B T n c : Nat} {a : Option Addr} {ls : List Int} (hl : ls.length = n) (h : w.ownsRow B T 1 (.slice a n c) n (ls.map (Value.int .i64))) :
    ∀ j, j < n → ∃ b o, a = some ⟨b, o, none⟩ ∧ b < w.heap.size ∧ w.cell? ⟨b, o + j, none⟩ = some (.int .i64 (ls[j]?.getD 0)) := by
  intro j hj
  rcases h.2 with ⟨_, h0⟩ | ⟨g, cap, cur, e, _, hg, _⟩
  · omega
  · simp at e
    obtain ⟨rfl, rfl⟩ := e
    refine ⟨g, 0, rfl, (Array.getElem?_eq_some_iff.1 hg).1, ?_⟩
    rw [Nat.zero_add]
    refine owns_cell h ?_
    rw [List.getElem?_map, List.getElem?_eq_getElem (by omega)]; rfl

/-- Made of a row of its own: whatever the integers are. -/
theorem made_all (W H : Int) (a : Option Addr) (n c B : Nat) (ls : List Int) (hl : ls.length = n) (hn : 1 ≤ n) (hm : n ≤ 4096) (w : World) (ho : w.ownsRow B 3 1 (.slice a n c) n (ls.map (Value.int .i64))) :
    Calls Tryz.prog 85 #[.int .i64 W, .int .i64 H, .slice a n c] w fun e w' =>
      ∃ X Y a' n' c', e = .returned (.tuple #[.agg #[.int .i64 X, .int .i64 Y, .slice a' n' c'], .int .i64 (largeErr n ls)]) ∧ ResV w' (largeErr n ls) W H ls X Y a' n' c' ∧ Below w.heap.size w w' := by
  unfold largeErr
  by_cases hs : ∀ j, j < n → (ls[j]?.getD 0).natAbs ≤ 16384
  · rw [if_pos hs]
    refine (made_any W H a n c ls hl hm hs w (owns_cells hl ho)).mono ?_
    rintro e w' ⟨v, rfl, hown, hb⟩
    rcases hown.2 with ⟨_, h0⟩ | ⟨g, cap, cur, rfl, _, hg, _⟩
    · omega
    · refine ⟨_, _, _, _, _, rfl, ResV.some hl hm hs (Array.getElem?_eq_some_iff.1 hg).1 (fun j hj => ?_), hb⟩
      refine owns_cell hown ?_
      rw [List.getElem?_map, List.getElem?_eq_getElem (by omega)]; rfl
  · rw [if_neg hs]
    refine (made_large W H a n c ls hl hm hs w (owns_cells hl ho)).mono ?_
    rintro e w' ⟨rfl, hb⟩
    exact ⟨_, _, _, _, _, rfl, ResV.none _ _ _ _ _ (by decide), hb⟩
end Go.Proofs.YthfiilfekofimaaGreatDoor

/-
  Variables that hold maps: what a store of a map into one of them keeps.
-/
namespace Go.Proofs.YthfiilfekofimaaGreatDoor
open Go.RowKit
set_option linter.unusedVariables false
set_option linter.unusedSimpArgs false

/-- A world in which one block alone is another one. -/
structure OneBlk (w w' : World) (B : Nat) : Prop where
  other : ∀ k, k ≠ B → w'.heap[k]? = w.heap[k]?
  size : w'.heap.size = w.heap.size
theorem OneBlk.set3 (w : World) (B : Nat) (x y z : Value) : OneBlk w (((w.setCell ⟨B, 0, none⟩ x).setCell ⟨B, 1, none⟩ y).setCell ⟨B, 2, none⟩ z) B :=
  ⟨fun k hk => by simp [World.setCell, Array.getElem?_modify, Ne.symm hk], by simp⟩
theorem below_set3 {w w0 : World} {N B : Nat} (h : Below N w0 w) (hB : N ≤ B) (x y z : Value) : Below N w0 (((w.setCell ⟨B, 0, none⟩ x).setCell ⟨B, 1, none⟩ y).setCell ⟨B, 2, none⟩ z) :=
  ((h.setCell (p := ⟨B, 0, none⟩) hB _).setCell (p := ⟨B, 1, none⟩) hB _).setCell (p := ⟨B, 2, none⟩) hB _

/-- A result stays where a variable that holds a map is written. -/
theorem ResV.stored {w w' : World} {B : Nat} {x y : Int} {s : Value} {T : TypeId} (hB : w.heap[B]? = Option.some (.cells #[.int .i64 x, .int .i64 y, s] T (0, 0))) (ho : OneBlk w w' B) {r W H : Int} {ls : List Int} {X Y : Int} {a : Option Addr} {n c : Nat}
    (h : ResV w r W H ls X Y a n c) : ResV w' r W H ls X Y a n c :=
  ⟨h.bad, fun h0 => by
    obtain ⟨h1, h2, h3, h4, h5, g, h6, h7, h8⟩ := h.ok h0
    refine ⟨h1, h2, h3, h4, h5, g, h6, by rw [ho.size]; exact h7, fun j hj => ?_⟩
    by_cases hg : g = B
    · subst hg
      have h9 := h8 0 (by omega)
      rw [cell_of_row w g 0 _ _ (0, 0) hB] at h9
      simp at h9
    · rw [World.cell?_of_block (ho.other g hg)]
      exact h8 j hj⟩

/-- A variable that holds a result. -/
def ResBox (w : World) (B : Nat) (T : TypeId) (r W H : Int) (ls : List Int) : Prop :=
  ∃ X Y a n c, w.heap[B]? = some (.cells #[.int .i64 X, .int .i64 Y, .slice a n c] T (0, 0)) ∧ ResV w r W H ls X Y a n c
theorem ResBox.kept {w w' : World} {B : Nat} {T : TypeId} {r W H : Int} {ls : List Int} (h : ResBox w B T r W H ls) (hb : Below w.heap.size w w') : ResBox w' B T r W H ls := by
  obtain ⟨X, Y, a, n, c, h1, h2⟩ := h
  exact ⟨_, _, _, _, _, (hb.block _ (lt_of_blk h1)).trans h1, h2.kept hb⟩
theorem ResBox.new {w : World} {T : TypeId} {r W H : Int} {ls : List Int} {X Y : Int} {a : Option Addr} {n c : Nat} (h : ResV w r W H ls X Y a n c) : ResBox (w.alloc (.cells #[.int .i64 X, .int .i64 Y, .slice a n c] T)) w.heap.size T r W H ls :=
  ⟨_, _, _, _, _, blk_alloc_new _ _, h.kept ((Below.refl _ _).alloc (Nat.le_refl _) _)⟩

theorem ResBox.put {w : World} {B : Nat} {T : TypeId} {x y : Int} {s : Value} (hB : w.heap[B]? = some (.cells #[.int .i64 x, .int .i64 y, s] T (0, 0))) {r W H : Int} {ls : List Int} {X Y : Int} {a : Option Addr} {n c : Nat}
    (h : ResV w r W H ls X Y a n c) : ResBox (((w.setCell ⟨B, 0, none⟩ (.int .i64 X)).setCell ⟨B, 1, none⟩ (.int .i64 Y)).setCell ⟨B, 2, none⟩ (.slice a n c)) B T r W H ls :=
  ⟨_, _, _, _, _, blk_set3 hB _ _ _, h.stored hB (OneBlk.set3 w B _ _ _)⟩

/-- A variable of the reference that holds what a result must be, where there is no error. -/
def WantBox (w : World) (B : Nat) (r W H : Int) (ls : List Int) : Prop :=
  ∃ X Y a n c, w.heap[B]? = some (.cells #[.int .i64 X, .int .i64 Y, .slice a n c] 41 (0, 0)) ∧ (r = 0 → ResV w r W H ls X Y a n c)
theorem WantBox.kept {w w' : World} {B : Nat} {r W H : Int} {ls : List Int} (h : WantBox w B r W H ls) (hb : Below w.heap.size w w') : WantBox w' B r W H ls := by
  obtain ⟨X, Y, a, n, c, h1, h2⟩ := h
  exact ⟨_, _, _, _, _, (hb.block _ (lt_of_blk h1)).trans h1, fun h0 => (h2 h0).kept hb⟩
theorem WantBox.zero {w : World} {B : Nat} {r W H : Int} {ls : List Int} (h : w.heap[B]? = some (.cells #[.int .i64 0, .int .i64 0, .slice none 0 0] 41 (0, 0))) (hr : r ≠ 0) : WantBox w B r W H ls :=
  ⟨0, 0, none, 0, 0, h, fun h0 => absurd h0 hr⟩
/-- Another variable is written. -/
theorem WantBox.stored {w w' : World} {B B' : Nat} {x y : Int} {s : Value} {T : TypeId} (hB : w.heap[B]? = some (.cells #[.int .i64 x, .int .i64 y, s] T (0, 0))) (ho : OneBlk w w' B) (hne : B' ≠ B) {r W H : Int} {ls : List Int}
    (h : WantBox w B' r W H ls) : WantBox w' B' r W H ls := by
  obtain ⟨X, Y, a, n, c, h1, h2⟩ := h
  exact ⟨_, _, _, _, _, (ho.other _ hne).trans h1, fun h0 => (h2 h0).stored hB ho⟩
/-- The variable itself is written. -/
theorem WantBox.put {w : World} {B : Nat} {x y : Int} {s : Value} (hB : w.heap[B]? = some (.cells #[.int .i64 x, .int .i64 y, s] 41 (0, 0))) {r W H : Int} {ls : List Int} {X Y : Int} {a : Option Addr} {n c : Nat}
    (h : r = 0 → ResV w r W H ls X Y a n c) : WantBox (((w.setCell ⟨B, 0, none⟩ (.int .i64 X)).setCell ⟨B, 1, none⟩ (.int .i64 Y)).setCell ⟨B, 2, none⟩ (.slice a n c)) B r W H ls :=
  ⟨_, _, _, _, _, blk_set3 hB _ _ _, fun h0 => (h h0).stored hB (OneBlk.set3 w B _ _ _)⟩
end Go.Proofs.YthfiilfekofimaaGreatDoor

/-
  What calls that return maps answer; rows of one's own, written at a place; small laws that the rows of chapter 1 share.
-/
namespace Go.Proofs.YthfiilfekofimaaGreatDoor
open Go.RowKit
set_option linter.unusedVariables false
set_option linter.unusedSimpArgs false

theorem owns_set {w : World} {B T n N g : Nat} {xs : List Value} (h : w.ownsRow B T 1 (.slice (some ⟨g, 0, none⟩) n N) n xs) {k : Nat} (hk : k < n) (v : Value) : (w.setCell ⟨g, k, none⟩ v).ownsRow B T 1 (.slice (some ⟨g, 0, none⟩) n N) n (xs.set k v) := by
  have hl := h.1
  refine ⟨by simp [hl], ?_⟩
  rcases h.2 with ⟨h, _⟩ | ⟨g', cap, cur, e, hB, hg, hnc, hcm, hcs, ht⟩
  · cases h
  · simp at e
    obtain ⟨rfl, rfl⟩ := e
    refine .inr ⟨g, N, cur.setIfInBounds k v, rfl, hB, ?_, hnc, hcm, by simpa using hcs, ?_⟩
    · rw [setCell_eq_setRow w g k cur T (0, 0) v hg]
      exact setRow_heap w g cur _ T _ hg
    · simp only [Array.toList_setIfInBounds, Nat.mul_one] at ht ⊢
      rw [List.take_set, ht]
theorem owns_free {w : World} {B T n N g : Nat} {xs : List Value} (h : w.ownsRow B T 1 (.slice (some ⟨g, 0, none⟩) n N) n xs) (j : Nat) : w.frozen? ⟨g, j, none⟩ = false := by
  rcases h.2 with ⟨h, _⟩ | ⟨g', cap, cur, e, hB, hg, hnc, hcm, hcs, ht⟩
  · cases h
  · simp at e
    obtain ⟨rfl, rfl⟩ := e
    simp [World.frozen?, hg]
theorem owns_someB {w : World} {B T n : Nat} {v : Value} {xs : List Value} (h : w.ownsRow B T 1 v n xs) (hn : 1 ≤ n) : ∃ g c, v = .slice (some ⟨g, 0, none⟩) n c ∧ B ≤ g ∧ g < w.heap.size := by
  rcases h.2 with ⟨_, h0⟩ | ⟨g, cap, cur, e, hB, hg, _⟩
  · omega
  · exact ⟨g, cap, e, hB, (Array.getElem?_eq_some_iff.1 hg).1⟩

/-- What a call that returns a map and an error answers. -/
def Answers (f : FuncId) (args : Array Value) (w : World) (r W H : Int) (ls : List Int) : Prop :=
  Calls Tryz.prog f args w fun e w' => ∃ X Y a n c, e = .returned (.tuple #[.agg #[.int .i64 X, .int .i64 Y, .slice a n c], .int .i64 r]) ∧ ResV w' r W H ls X Y a n c ∧ Below w.heap.size w w'
/-- What a call of the reference that returns a map answers. -/
def AnswersMap (f : FuncId) (args : Array Value) (w : World) (W H : Int) (ls : List Int) : Prop :=
  Calls Tryz.prog f args w fun e w' => ∃ X Y a n c, e = .returned (.agg #[.int .i64 X, .int .i64 Y, .slice a n c]) ∧ ResV w' 0 W H ls X Y a n c ∧ Below w.heap.size w w'

theorem check_of (W H : Int) (a : Option Addr) (n c : Nat) (xs : List Nat) (w : World) (hM : AnyMap w a n c xs) : ∀ w1 : World, Below w.heap.size w w1 → Calls Tryz.prog 67 #[.agg #[.int .i64 W, .int .i64 H, .slice a n c]] w1 fun e w' => e = .returned (.int .i64 (mapErr W H n xs)) ∧ Below w1.heap.size w1 w' :=
  fun w1 h1 => checkMap_map W H a n c xs w1 (hM.below h1 (Nat.le_refl _))

theorem ks_at {ks : List Int} {n : Nat} (hl : ks.length = n) (hs : ∀ j, j < n → (ks[j]?.getD 0).natAbs ≤ 16384) (i : Nat) : (ks[i]?.getD 0).natAbs ≤ 16384 := by
  by_cases hh : i < n
  · exact hs _ hh
  · rw [List.getElem?_eq_none (by omega)]; decide

theorem firstNZ_three {a b c : Int} (h : firstNZ [a, b, c] = 0) : a = 0 ∧ b = 0 ∧ c = 0 := by
  have := firstNZ_all h
  exact ⟨this a (by simp), this b (by simp), this c (by simp)⟩

theorem list_succ (f : Nat → Int) (k : Nat) : ((List.range (k + 1)).map f).map (Value.int .i64) = ((List.range k).map f).map (Value.int .i64) ++ [.int .i64 (f k)] := by
  rw [List.range_succ]; simp
end Go.Proofs.YthfiilfekofimaaGreatDoor

/-
  Contracts of the reference's Level anywhere, of window, Part and Placed.
-/
namespace Go.Proofs.YthfiilfekofimaaGreatDoor
open Go.RowKit
set_option linter.unusedVariables false
set_option linter.unusedSimpArgs false

/-- The integer at a place, and 0 where there is none. -/
def levelK (W H : Nat) (ks : List Int) (X Y : Int) : Int := if 0 ≤ X ∧ X < W ∧ 0 ≤ Y ∧ Y < H then ks[Y.toNat * W + X.toNat]?.getD 0 else 0
theorem levelK_le {ks : List Int} {n : Nat} (hl : ks.length = n) (hs : ∀ j, j < n → (ks[j]?.getD 0).natAbs ≤ 16384) (W H : Nat) (X Y : Int) : (levelK W H ks X Y).natAbs ≤ 16384 := by
  unfold levelK
  split
  · exact ks_at hl hs _
  · decide
def winL (W H DW N : Nat) (ks : List Int) (X Y : Int) : List Int := (List.range N).map (fun j => levelK W H ks (X + ((j % DW : Nat) : Int)) (Y + ((j / DW : Nat) : Int)))
theorem idx_div {D x y : Nat} (hx : x < D) : (y * D + x) / D = y := by rw [Nat.mul_comm, Nat.mul_add_div (by omega), Nat.div_eq_of_lt hx]; rfl
theorem idx_mod {D x y : Nat} (hx : x < D) : (y * D + x) % D = x := by rw [Nat.mul_comm, Nat.mul_add_mod, Nat.mod_eq_of_lt hx]

set_option maxRecDepth 100000 in
set_option maxHeartbeats 3200000 in
theorem refLevel_all (W H : Nat) (b o n c : Nat) (xs : List Nat) (ks : List Int) (w : World) (hw : RightMap w W H b o n xs ks) (hb : b < w.heap.size) (X Y : Int) :
    Calls Tryz.prog 83 #[.agg #[.int .i64 W, .int .i64 H, .slice (some ⟨b, o, none⟩) n c], .int .i64 X, .int .i64 Y] w fun e w' => e = .returned (.int .i64 (levelK W H ks X Y)) ∧ Below w.heap.size w w' := by
  unfold levelK
  by_cases h1 : X < 0
  · rw [if_neg (by omega)]
    clear hw
    go_enter Tryz.func83, Tryz.ntmps83
    go_wp2
    go_ret
    exact ⟨rfl, (Below.refl _ w).alloc (Nat.le_refl _) _⟩
  by_cases h2 : (W : Int) ≤ X
  · rw [if_neg (by omega)]
    clear hw
    go_enter Tryz.func83, Tryz.ntmps83
    go_wp2
    go_ret
    exact ⟨rfl, (Below.refl _ w).alloc (Nat.le_refl _) _⟩
  by_cases h3 : Y < 0
  · rw [if_neg (by omega)]
    clear hw
    go_enter Tryz.func83, Tryz.ntmps83
    go_wp2
    go_ret
    exact ⟨rfl, (Below.refl _ w).alloc (Nat.le_refl _) _⟩
  by_cases h4 : (H : Int) ≤ Y
  · rw [if_neg (by omega)]
    clear hw
    go_enter Tryz.func83, Tryz.ntmps83
    go_wp2
    go_ret
    exact ⟨rfl, (Below.refl _ w).alloc (Nat.le_refl _) _⟩
  · rw [if_pos (by omega)]
    obtain ⟨Xn, rfl⟩ := Int.eq_ofNat_of_zero_le (show 0 ≤ X by omega)
    obtain ⟨Yn, rfl⟩ := Int.eq_ofNat_of_zero_le (show 0 ≤ Y by omega)
    exact refLevel_any W H b o n c xs ks w hw hb Xn Yn (by omega) (by omega)

end Go.Proofs.YthfiilfekofimaaGreatDoor

/-
  The shelf's contracts of strings.Join, Builder.String and strconv.Itoa over this program, as the kit's command lays them in plain words.
-/
namespace Go.Proofs
open Go.Shelf
def Tryz.lays169_ren : Go.Shelf.Ren := ⟨fun | 169 => 72 | n => n, fun | 70 => 132 | 9 => 9 | 0 => 0 | 72 => 134 | 37 => 84 | 127 => 206 | 3 => 3 | 5 => 5 | n => n, fun | n => n⟩
theorem Tryz.lays169 : Go.Proofs.Lays.n169 Tryz.prog Tryz.lays169_ren := {
  mixed := by kernel_rfl
  f169 := Tryz.func72.trans (congrArg some (by kernel_rfl))
  t0 := Tryz.underlying0
  a0 := Tryz.isAgg0
  z0 := Tryz.sizeOf0
  v0 := Tryz.zeroValue0
  t3 := Tryz.underlying3
  a3 := Tryz.isAgg3
  z3 := Tryz.sizeOf3
  v3 := Tryz.zeroValue3
  t9 := Tryz.underlying9
  a9 := Tryz.isAgg9
  z9 := Tryz.sizeOf9
  v9 := Tryz.zeroValue9
  t37 := Tryz.underlying84
  a37 := Tryz.isAgg84
  z37 := Tryz.sizeOf84
  v37 := Tryz.zeroValue84
  t70 := Tryz.underlying132
  a70 := Tryz.isAgg132
  z70 := Tryz.sizeOf132
  v70 := Tryz.zeroValue132
  t72 := Tryz.underlying134
  a72 := Tryz.isAgg134
  z72 := Tryz.sizeOf134
  v72 := Tryz.zeroValue134
  t127 := Tryz.underlying206
  a127 := Tryz.isAgg206
  z127 := Tryz.sizeOf206
  v127 := Tryz.zeroValue206 }
theorem Tryz.Builder_Extra_169 : Builder.Extra Tryz.prog Tryz.lays169_ren := {
  sizeBuilder := by kernel_rfl
  liesBuilder := by kernel_rfl
  t5 := Tryz.underlying5
  a5 := Tryz.isAgg5
  z5 := Tryz.sizeOf5
  v5 := Tryz.zeroValue5
  infoByte := by kernel_rfl
  cellsByte := by kernel_rfl
  sizeByte := by kernel_rfl
  neB5 := by decide }
open Go.RowKit in
theorem Tryz.Builder_String_any (B b : Nat) (l : List UInt8) (w : World) (h : Lib.IsBuilder 134 5 B b (Lib.byteCells l) w) (hBw : B ≤ w.heap.size) :
    Calls Tryz.prog 72 #[.pointer (some ⟨b, 0, none⟩)] w fun e w' => e = .returned (.string ⟨l.toArray⟩) ∧ Below B w w' := Any.Builder_String_any Tryz.lays169 Tryz.Builder_Extra_169 B b l w h hBw
def Tryz.lays156_ren : Go.Shelf.Ren := ⟨fun | 156 => 132 | 165 => 163 | 166 => 68 | 169 => 72 | 240 => 131 | 241 => 177 | 276 => 162 | 277 => 186 | n => n, fun | 31 => 110 | 9 => 9 | 3 => 3 | 4 => 4 | 0 => 0 | 20 => 20 | 72 => 134 | 76 => 137 | 70 => 132 | 37 => 84 | 75 => 136 | 127 => 206 | 164 => 231 | 5 => 5 | 80 => 146 | n => n, fun | n => n⟩
theorem Tryz.lays156 : Go.Proofs.Lays.n156 Tryz.prog Tryz.lays156_ren := {
  mixed := by kernel_rfl
  f156 := Tryz.func132.trans (congrArg some (by kernel_rfl))
  f165 := Tryz.func163.trans (congrArg some (by kernel_rfl))
  f166 := Tryz.func68.trans (congrArg some (by kernel_rfl))
  f169 := Tryz.func72.trans (congrArg some (by kernel_rfl))
  f240 := Tryz.func131.trans (congrArg some (by kernel_rfl))
  f241 := Tryz.func177.trans (congrArg some (by kernel_rfl))
  f276 := Tryz.func162.trans (congrArg some (by kernel_rfl))
  f277 := Tryz.func186.trans (congrArg some (by kernel_rfl))
  t0 := Tryz.underlying0
  a0 := Tryz.isAgg0
  z0 := Tryz.sizeOf0
  v0 := Tryz.zeroValue0
  t3 := Tryz.underlying3
  a3 := Tryz.isAgg3
  z3 := Tryz.sizeOf3
  v3 := Tryz.zeroValue3
  t4 := Tryz.underlying4
  a4 := Tryz.isAgg4
  z4 := Tryz.sizeOf4
  v4 := Tryz.zeroValue4
  t9 := Tryz.underlying9
  a9 := Tryz.isAgg9
  z9 := Tryz.sizeOf9
  v9 := Tryz.zeroValue9
  t20 := Tryz.underlying20
  a20 := Tryz.isAgg20
  z20 := Tryz.sizeOf20
  v20 := Tryz.zeroValue20
  t31 := Tryz.underlying110
  a31 := Tryz.isAgg110
  z31 := Tryz.sizeOf110
  v31 := Tryz.zeroValue110
  t37 := Tryz.underlying84
  a37 := Tryz.isAgg84
  z37 := Tryz.sizeOf84
  v37 := Tryz.zeroValue84
  t70 := Tryz.underlying132
  a70 := Tryz.isAgg132
  z70 := Tryz.sizeOf132
  v70 := Tryz.zeroValue132
  t72 := Tryz.underlying134
  a72 := Tryz.isAgg134
  z72 := Tryz.sizeOf134
  v72 := Tryz.zeroValue134
  t75 := Tryz.underlying136
  a75 := Tryz.isAgg136
  z75 := Tryz.sizeOf136
  v75 := Tryz.zeroValue136
  t76 := Tryz.underlying137
  a76 := Tryz.isAgg137
  z76 := Tryz.sizeOf137
  v76 := Tryz.zeroValue137
  t127 := Tryz.underlying206
  a127 := Tryz.isAgg206
  z127 := Tryz.sizeOf206
  v127 := Tryz.zeroValue206
  t164 := Tryz.underlying231
  a164 := Tryz.isAgg231
  z164 := Tryz.sizeOf231
  v164 := Tryz.zeroValue231 }
theorem Tryz.Builder_Extra_156 : Builder.Extra Tryz.prog Tryz.lays156_ren := {
  sizeBuilder := by kernel_rfl
  liesBuilder := by kernel_rfl
  t5 := Tryz.underlying5
  a5 := Tryz.isAgg5
  z5 := Tryz.sizeOf5
  v5 := Tryz.zeroValue5
  infoByte := by kernel_rfl
  cellsByte := by kernel_rfl
  sizeByte := by kernel_rfl
  neB5 := by decide }
open Go.RowKit in
theorem Tryz.strings_Join_none (a : Option Addr) (c : Nat) (sep : ByteArray) (w : World) :
    Calls Tryz.prog 132 #[.slice a 0 c, .string sep] w fun e w' => e = .returned (.string ⟨#[]⟩) ∧ w' = w := Any.strings_Join_none Tryz.lays156 Tryz.Builder_Extra_156 a c sep w
open Go.RowKit in
theorem Tryz.strings_Join (bk o c : Nat) (xs : List ByteArray) (sep : ByteArray) (w : World) (hcells : ∀ (j : Nat) x, xs[j]? = some x → w.cell? ⟨bk, o + j, none⟩ = some (.string x)) (hbk : bk < w.heap.size) (hN : xs.length ≤ 140737488355328) (hcap : xs.length ≤ c) (hlen : (Lib.join (xs.map (·.data.toList)) sep.data.toList).length ≤ 140737488355328) :
    Calls Tryz.prog 132 #[.slice (some ⟨bk, o, none⟩) xs.length c, .string sep] w fun e w' => e = .returned (.string ⟨(Lib.join (xs.map (·.data.toList)) sep.data.toList).toArray⟩) ∧ Below w.heap.size w w' := Any.strings_Join Tryz.lays156 Tryz.Builder_Extra_156 bk o c xs sep w hcells hbk hN hcap hlen
def Tryz.laysM171_ren : Go.Shelf.Ren := ⟨fun | 171 => 134 | 243 => 164 | 246 => 178 | 283 => 187 | 284 => 188 | 285 => 189 | 286 => 190 | 129 => 200 | 317 => 199 | 318 => 201 | 319 => 202 | 320 => 203 | 337 => 217 | 338 => 218 | n => n, fun | 3 => 3 | 9 => 9 | 2 => 2 | 4 => 4 | 171 => 93 | 0 => 0 | 53 => 240 | 37 => 84 | 5 => 5 | 173 => 251 | 212 => 258 | 51 => 190 | 20 => 20 | 213 => 259 | 46 => 225 | 232 => 280 | 233 => 281 | n => n, fun | 17 => 2 | 18 => 5 | 19 => 6 | n => n⟩
theorem Tryz.laysM171 : Go.Proofs.LaysM.n171 Tryz.prog Tryz.laysM171_ren := {
  mixed := by kernel_rfl
  f129 := Tryz.func200.trans (congrArg some (by kernel_rfl))
  f171 := Tryz.func134.trans (congrArg some (by kernel_rfl))
  f243 := Tryz.func164.trans (congrArg some (by kernel_rfl))
  f246 := Tryz.func178.trans (congrArg some (by kernel_rfl))
  f283 := Tryz.func187.trans (congrArg some (by kernel_rfl))
  f284 := Tryz.func188.trans (congrArg some (by kernel_rfl))
  f285 := Tryz.func189.trans (congrArg some (by kernel_rfl))
  f286 := Tryz.func190.trans (congrArg some (by kernel_rfl))
  f317 := Tryz.func199.trans (congrArg some (by kernel_rfl))
  f318 := Tryz.func201.trans (congrArg some (by kernel_rfl))
  f319 := Tryz.func202.trans (congrArg some (by kernel_rfl))
  f320 := Tryz.func203.trans (congrArg some (by kernel_rfl))
  f337 := Tryz.func217.trans (congrArg some (by kernel_rfl))
  f338 := Tryz.func218.trans (congrArg some (by kernel_rfl))
  t0 := Tryz.underlying0
  a0 := Tryz.isAgg0
  z0 := Tryz.sizeOf0
  v0 := Tryz.zeroValue0
  t2 := Tryz.underlying2
  a2 := Tryz.isAgg2
  z2 := Tryz.sizeOf2
  v2 := Tryz.zeroValue2
  t3 := Tryz.underlying3
  a3 := Tryz.isAgg3
  z3 := Tryz.sizeOf3
  v3 := Tryz.zeroValue3
  t4 := Tryz.underlying4
  a4 := Tryz.isAgg4
  z4 := Tryz.sizeOf4
  v4 := Tryz.zeroValue4
  t5 := Tryz.underlying5
  a5 := Tryz.isAgg5
  z5 := Tryz.sizeOf5
  v5 := Tryz.zeroValue5
  t9 := Tryz.underlying9
  a9 := Tryz.isAgg9
  z9 := Tryz.sizeOf9
  v9 := Tryz.zeroValue9
  t20 := Tryz.underlying20
  a20 := Tryz.isAgg20
  z20 := Tryz.sizeOf20
  v20 := Tryz.zeroValue20
  t37 := Tryz.underlying84
  a37 := Tryz.isAgg84
  z37 := Tryz.sizeOf84
  v37 := Tryz.zeroValue84
  t46 := Tryz.underlying225
  a46 := Tryz.isAgg225
  z46 := Tryz.sizeOf225
  v46 := Tryz.zeroValue225
  t51 := Tryz.underlying190
  a51 := Tryz.isAgg190
  z51 := Tryz.sizeOf190
  v51 := Tryz.zeroValue190
  t53 := Tryz.underlying240
  a53 := Tryz.isAgg240
  z53 := Tryz.sizeOf240
  v53 := Tryz.zeroValue240
  t171 := Tryz.underlying93
  a171 := Tryz.isAgg93
  z171 := Tryz.sizeOf93
  v171 := Tryz.zeroValue93
  t173 := Tryz.underlying251
  a173 := Tryz.isAgg251
  z173 := Tryz.sizeOf251
  v173 := Tryz.zeroValue251
  t212 := Tryz.underlying258
  a212 := Tryz.isAgg258
  z212 := Tryz.sizeOf258
  v212 := Tryz.zeroValue258
  t213 := Tryz.underlying259
  a213 := Tryz.isAgg259
  z213 := Tryz.sizeOf259
  t232 := Tryz.underlying280
  a232 := Tryz.isAgg280
  z232 := Tryz.sizeOf280
  v232 := Tryz.zeroValue280
  t233 := Tryz.underlying281
  a233 := Tryz.isAgg281
  z233 := Tryz.sizeOf281
  v233 := Tryz.zeroValue281
  g17 := by kernel_rfl
  g18 := by kernel_rfl
  g19 := by kernel_rfl
  i0 := by kernel_rfl
  i2 := by kernel_rfl
  i3 := by kernel_rfl
  i4 := by kernel_rfl
  i5 := by kernel_rfl
  i9 := by kernel_rfl
  i20 := by kernel_rfl
  i37 := by kernel_rfl
  i46 := by kernel_rfl
  i51 := by kernel_rfl
  i53 := by kernel_rfl
  i171 := by kernel_rfl
  i173 := by kernel_rfl
  i212 := by kernel_rfl
  i232 := by kernel_rfl
  i233 := by kernel_rfl
  m17 := by kernel_rfl
  m18 := by kernel_rfl
  m19 := by kernel_rfl }
open Go.RowKit Go.Sort Go.Lib in
theorem Tryz.strconv_Itoa (n : Int) (h0 : -9223372036854775808 ≤ n) (h1 : n ≤ 9223372036854775807) (w : World) (htab : Lib.TabIs Tryz.prog w "internal/strconv.uint64pow10" .u64 Lib.pow10Tab) :
    Calls Tryz.prog 134 #[.int .i64 n] w fun e w' => e = .returned (.string ⟨(Lib.itoa n).toArray⟩) ∧ ∃ k os, w' = grow (w.drewN k) os := Any.strconv_Itoa Tryz.laysM171 n h0 h1 w htab
end Go.Proofs

/-
  Contracts of strings.Builder.WriteString and strconv.Itoa over this program, off the shelf's.
-/
namespace Go.Proofs.YthfiilfekofimaaGreatDoor
open Go.RowKit Go.Shelf
set_option linter.unusedVariables false

theorem writeString_any (B b : Nat) (bs : List Value) (s : ByteArray) (w : World) (h : Lib.IsBuilder 134 5 B b bs w) (hlen : bs.length + s.size ≤ 140737488355328) (hBw : B ≤ w.heap.size) :
    Calls Tryz.prog 68 #[.pointer (some ⟨b, 0, none⟩), .string s] w fun e w' => e = .returned (.tuple #[.int .i64 s.size, .nilIface]) ∧ Lib.BuilderAt 134 5 B b (.pointer (some ⟨b, 0, none⟩)) (bs ++ Lib.strCells s) w' ∧ Below B w w' :=
  Any.Builder_WriteString (P := Tryz.prog) (ρ := Tryz.lays156_ren) { Tryz.lays156 with } Tryz.Builder_Extra_156 B b bs s w h hlen hBw

/-- The library's table of the powers of ten. -/
def TabAt (w : World) : Prop := Lib.TabIs Tryz.prog w "internal/strconv.uint64pow10" .u64 Lib.pow10Tab
theorem TabAt.on {w w' : World} (h : TabAt w) (hb : Below w.heap.size w w') : TabAt w' := Lib.tabBelow_of_tabIs h w' hb
theorem itoa_any (n : Int) (h0 : -9223372036854775808 ≤ n) (h1 : n ≤ 9223372036854775807) (w : World) (ht : TabAt w) :
    Calls Tryz.prog 134 #[.int .i64 n] w fun e w' => e = .returned (.string ⟨(Lib.itoa n).toArray⟩) ∧ Below w.heap.size w w' :=
  (Tryz.strconv_Itoa n h0 h1 w ht).mono fun e w' ⟨he, k, os, hw⟩ => ⟨he, by subst hw; exact Lib.below_grow _ _ (Nat.le_refl _) k os⟩
end Go.Proofs.YthfiilfekofimaaGreatDoor

/-
  Contract of common.Line: the word, then a space and the decimal numeral of each integer, then a line feed. Conditions: at most 4096 integers that lie in memory, a word of at most 64 bytes.
-/
namespace Go.Proofs.YthfiilfekofimaaGreatDoor
open Go.RowKit Go.Shelf
set_option linter.unusedVariables false
set_option linter.unusedSimpArgs false

theorem Tryz.infoStr : (Tryz.prog.info? 9).map (fun i => (i.zero, i.size, i.bytes)) = some (some (.string ⟨#[]⟩), 1, 16) := by kernel_rfl
def strV (l : List UInt8) : Value := .string ⟨l.toArray⟩
theorem owns_single (w : World) (v : Value) (T : TypeId) : (w.alloc (.cells #[v] T)).ownsRow w.heap.size T 1 (.slice (some ⟨w.heap.size, 0, none⟩) 1 1) 1 [v] :=
  ⟨rfl, .inr ⟨w.heap.size, 1, #[v], rfl, Nat.le_refl _, heap_alloc_new w _, by decide, by unfold maxLen; omega, rfl, rfl⟩⟩

theorem owns_capW {w : World} {B T n c g : Nat} {xs : List Value} (h : w.ownsRow B T 1 (.slice (some ⟨g, 0, none⟩) n c) n xs) : n ≤ c ∧ c ≤ maxLen := by
  rcases h.2 with ⟨h, _⟩ | ⟨g', cap, cur, h1, h2, h3, h4, h5, _⟩
  · cases h
  · simp at h1
    obtain ⟨rfl, rfl⟩ := h1
    exact ⟨h4, h5⟩

set_option maxHeartbeats 2000000 in
set_option maxRecDepth 100000 in
theorem mapped_str {w : World} (b o n c : Nat) (ks : List Int) (hk : ks.length = n) (hn : n ≤ 4096) (hb : b < w.heap.size) (ht : TabAt w)
    (hc : ∀ j, j < n → w.cell? ⟨b, o + j, none⟩ = some (.int .i64 (ks[j]?.getD 0))) (hs : ∀ j, j < n → (ks[j]?.getD 0).natAbs < 2 ^ 40) :
    Calls Tryz.prog 133 #[.slice (some ⟨b, o, none⟩) n c, .func (.func 134) #[] #[]] w fun e w' =>
      e = .returned (.slice (some ⟨w.heap.size, 0, none⟩) n n) ∧ w'.ownsRow w.heap.size 9 1 (.slice (some ⟨w.heap.size, 0, none⟩) n n) n (ks.map (fun k => strV (Lib.itoa k))) ∧ Below w.heap.size w w' := by
  obtain ⟨i0, hi, hz0, hz1, hz2⟩ := info_parts Tryz.infoStr
  have Hk := Lib.hid hk
  have Hc := Lib.hid hc
  have Hs := Lib.hid hs
  have HT := Lib.hid ht
  clear hk hc hs ht
  go_enter Tryz.func133, Tryz.ntmps133
  go_wp2_with (at_make; refine wpList_make_own _ rfl _ _ 110 rfl w.heap.size 9 i0 (.string ⟨#[]⟩) 1 Tryz.underlying110 hi hz0 hz1 _ _ _ n rfl rfl (by omega) ?b2 ?b3 (Nat.le_refl _) ?_)
  case b2 => rw [hz2]; omega
  case b3 => unfold maxLen; omega
  intro w0 hown0 hgrow0
  go_wp2
  go_loopw [5, 13] (fun out i wr => ∃ k : Nat, k ≤ n ∧ i = .int .i64 k ∧ out = .slice (some ⟨w.heap.size, 0, none⟩) k n ∧
      wr.ownsRow w.heap.size 9 1 (.slice (some ⟨w.heap.size, 0, none⟩) k n) k ((ks.take k).map (fun k => strV (Lib.itoa k))) ∧ Below w.heap.size w wr)
    (fun _ i _ => n - (intOf i).toNat)
  case atStart => exact ⟨0, Nat.zero_le _, rfl, rfl, hown0, (Below.refl _ _).grown hgrow0 (Nat.le_refl _) (fun k h => by cases h)⟩
  case round =>
    obtain ⟨k, hk, rfl, rfl, hown, hnx⟩ := hrel
    by_cases hlt : k < n
    · have hcell : wr.cell? ⟨b, o + k, none⟩ = some (.int .i64 (ks[k]?.getD 0)) := (hnx.cell (by exact hb)).trans (Hc.out k hlt)
      obtain ⟨kk, hkk⟩ : ∃ kk : Int, ks[k]?.getD 0 = kk := ⟨_, rfl⟩
      have hks := Hs.out k hlt
      rw [hkk] at hcell hks
      have HKK := Lib.hid hkk
      have K := Lib.hid (itoa_any kk (by omega) (by omega) wr (HT.out.on hnx))
      have hsz := hnx.size
      have HOW := Lib.hid hown
      clear hown hkk hks
      go_wp2_with (first
        | (go_at_call 134; refine K.out.mono ?_; rintro e w1 ⟨rfl, hb1⟩
           have hown1 := owns_kept HOW.out hb1 (Nat.le_refl _)
           have hs1 := hb1.size)
        | (at_builtin; refine wpList_append_fits _ rfl (.tmp 17) (.tmp 21) 110 rfl w.heap.size 9 i0 1 Tryz.underlying110 hi hz1 w.heap.size k n _ rfl (hown1.alloc _) ⟨w1.heap.size, 0, none⟩ 1 1 [strV (Lib.itoa kk)] rfl rfl (cell_one_new _ _ _) (by intro u hu; simp at hu; subst hu; rfl) (by omega) ?_; intro w2 hown2 hgrow2))
      go_roundw
      case rel => exact ⟨k + 1, by omega, by go_num, rfl, by rw [take_map_succ (fun k => strV (Lib.itoa k)) ks k (by have := Hk.out; omega) 0, HKK.out]; exact hown2, ((hnx.trans (hb1.mono hsz)).alloc (by omega) _).grown hgrow2 (by simp; omega) (fun j hj => by cases hj; exact Nat.le_refl _)⟩
      case measure => simp [intOf]; omega
    · go_wp2
      go_ret
      obtain rfl : k = n := by omega
      rw [List.take_of_length_le (by have := Hk.out; omega)] at hown
      exact ⟨rfl, hown, hnx⟩

/-- A line of a text. -/
def lineL (wd : List UInt8) (ks : List Int) : List UInt8 := Lib.join (wd :: ks.map Lib.itoa) [32] ++ [10]
theorem joinTail_len (ls : List (List UInt8)) (h : ∀ l ∈ ls, l.length ≤ 21) : (Lib.joinTail [32] ls).length ≤ 22 * ls.length := by
  induction ls with
  | nil => simp [Lib.joinTail]
  | cons l ls ih =>
    have h1 := h l List.mem_cons_self
    have h2 := ih fun l' h' => h l' (List.mem_cons_of_mem _ h')
    simp only [Lib.joinTail, List.map_cons, List.flatten_cons, List.length_append, List.length_cons, List.length_nil] at h2 ⊢
    omega
theorem join_len (wd : List UInt8) (ks : List Int) (h : ∀ k ∈ ks, k.natAbs < 2 ^ 40) : (Lib.join (wd :: ks.map Lib.itoa) [32]).length ≤ wd.length + 22 * ks.length := by
  rw [Lib.join_cons, List.length_append]
  have := joinTail_len (ks.map Lib.itoa) (fun l hl => by obtain ⟨k, hk, rfl⟩ := List.mem_map.1 hl; have := h k hk; exact Lib.itoa_length_le k (by omega) (by omega))
  rw [List.length_map] at this
  omega

set_option maxHeartbeats 2000000 in
set_option maxRecDepth 100000 in
theorem line_any {w : World} (wd : List UInt8) (b o n c : Nat) (ks : List Int) (hwd : wd.length ≤ 64) (hk : ks.length = n) (hn : n ≤ 4096) (hb : b < w.heap.size) (ht : TabAt w)
    (hc : ∀ j, j < n → w.cell? ⟨b, o + j, none⟩ = some (.int .i64 (ks[j]?.getD 0))) (hs : ∀ j, j < n → (ks[j]?.getD 0).natAbs < 2 ^ 40) :
    Calls Tryz.prog 69 #[strV wd, .slice (some ⟨b, o, none⟩) n c] w fun e w' => e = .returned (strV (lineL wd ks)) ∧ Below w.heap.size w w' := by
  obtain ⟨i0, hi, hz0, hz1, hz2⟩ := info_parts Tryz.infoStr
  have hmem : ∀ k ∈ ks, k.natAbs < 2 ^ 40 := fun k hk' => by
    obtain ⟨j, hj, rfl⟩ := List.getElem_of_mem hk'
    have := hs j (by omega)
    rw [List.getElem?_eq_getElem hj] at this
    exact this
  have hjl := join_len wd ks hmem
  obtain ⟨W1, hW1⟩ : ∃ W1, w.alloc (.cells #[strV wd] 9) = W1 := ⟨_, rfl⟩
  have hB1 : Below w.heap.size w W1 := by rw [← hW1]; exact (Below.refl _ w).alloc (Nat.le_refl _) _
  have hS1 : W1.heap.size = w.heap.size + 1 := by rw [← hW1]; simp
  have hO1 : W1.ownsRow w.heap.size 9 1 (.slice (some ⟨w.heap.size, 0, none⟩) 1 1) 1 [strV wd] := by rw [← hW1]; exact owns_single w _ _
  have K := Lib.hid (mapped_str b o n c ks hk hn (by omega) (ht.on hB1) (fun j hj => (hB1.cell (p := ⟨b, o + j, none⟩) hb).trans (hc j hj)) hs : Calls _ _ _ W1 _)
  have Hk := Lib.hid hk
  have HB1 := Lib.hid hB1
  have HS1 := Lib.hid hS1
  have HO1 := Lib.hid hO1
  have HJL := Lib.hid hjl
  clear hk hc hs ht hB1 hS1 hO1 hjl hmem
  go_enter Tryz.func69, Tryz.ntmps69
  unfold strV at *
  obtain ⟨xs, hxs⟩ : ∃ xs : List ByteArray, xs = (wd :: ks.map Lib.itoa).map (fun l => ⟨l.toArray⟩) := ⟨_, rfl⟩
  have hxl : xs.length = 1 + n := by rw [hxs]; simp [Hk.out]; omega
  have hxm : xs.map (fun x : ByteArray => x.data.toList) = wd :: ks.map Lib.itoa := by rw [hxs, List.map_map]; exact List.map_id' _
  have hxv : [Value.string ⟨wd.toArray⟩] ++ ks.map (fun k => Value.string ⟨(Lib.itoa k).toArray⟩) = xs.map Value.string := by rw [hxs]; simp [List.map_map]
  have HXL := Lib.hid hxl
  have HXM := Lib.hid hxm
  have HXV := Lib.hid hxv
  clear hxs hxl hxm hxv
  go_wp2_with (first
    | (go_at_call 133; refine K.out.mono ?_; rintro e w2 ⟨rfl, hown2, hb2⟩
       have hown6 := owns_kept HO1.out hb2 (Nat.le_refl _)
       have hs2 := hb2.size)
    | (at_builtin; refine wpList_append_own _ rfl (.tmp 6) (.tmp 8) 110 rfl w.heap.size 9 i0 (.string ⟨#[]⟩) 1 16 Tryz.underlying110 hi hz0 hz1 hz2 rfl (by decide) _ 1 _ rfl hown6 ⟨W1.heap.size, 0, none⟩ n n (ks.map (fun k => .string ⟨(Lib.itoa k).toArray⟩)) rfl (by simp [Hk.out]) (fun j u hu => by
          have := hown2.cells (g := W1.heap.size) rfl j u hu
          simpa [Addr.add] using this) (by intro u hu; obtain ⟨k, _, rfl⟩ := List.mem_map.1 hu; rfl) (by unfold maxLen; omega) (by omega) (by have := HS1.out; omega) ?_; intro v' w3 hown3 hgrow3 _
       rw [HXV.out] at hown3
       obtain ⟨gv, cv, rfl, hgv, hgB⟩ := owns_some hown3 (by omega)
       have hcv := owns_capW hown3
       have KJ := Tryz.strings_Join gv 0 cv xs ⟨#[32]⟩ w3 (fun j x hx => by rw [Nat.zero_add]; exact owns_cell hown3 (by rw [List.getElem?_map, hx]; rfl)) hgv (by rw [HXL.out]; omega) (by rw [HXL.out]; omega) (by rw [HXM.out]; have := HJL.out; have := Hk.out; simp only [List.toList_toArray] at *; omega)
       rw [HXL.out, HXM.out] at KJ
       have KJH := Lib.hid KJ
       clear KJ)
    | (go_at_call 132; refine KJH.out.mono ?_; rintro e w4 ⟨rfl, hb4⟩))
  · exfalso
    rename_i h
    have := HJL.out
    have := Hk.out
    omega
  refine bodyPost_ret (results_tmp Tryz.results69 _ _ _) rfl ?_
  refine ⟨?_, ((HB1.out.trans (hb2.mono (by have := HS1.out; omega))).grown hgrow3 (by have := HS1.out; omega) (fun j hj => by cases hj; exact Nat.le_refl _)).trans (hb4.mono (by have := hgrow3.1; have := HS1.out; omega))⟩
  have : (⟨(Lib.join (wd :: ks.map Lib.itoa) [32]).toArray⟩ : ByteArray) ++ ⟨#[10]⟩ = ⟨(lineL wd ks).toArray⟩ := by
    apply ByteArray.ext
    simp [lineL, ByteArray.data_append]
  rw [this]
  rfl
end Go.Proofs.YthfiilfekofimaaGreatDoor
