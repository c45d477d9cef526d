/-
  What Flipped and Turned answer for a map with an error; two maps without anything are the same.
-/
import Derived.Test.YtfdkmmllemkogaaGreatDoorOBe
import Derived.Deep.AppendLies
import Derived.Deep.RegionHeldLaw
import Derived.Deep.RegionLaw
namespace Go.Proofs.YtfdkmmllemkogaaGreatDoor
open Go.RowKit
set_option linter.unusedVariables false
set_option linter.unusedSimpArgs false


set_option maxRecDepth 100000 in
set_option maxHeartbeats 3200000 in
theorem flipped_bad (W H : Int) (a : Option Addr) (n c : Nat) (r : Int) (hr0 : r ≠ 0) (w : World)
    (hC : ∀ w1 : World, Below w.heap.size w w1 → Calls Tryz.prog 47 #[.agg #[.int .i64 W, .int .i64 H, .slice a n c]] w1 fun e w' => e = .returned (.int .i64 r) ∧ Below w1.heap.size w1 w') :
    Calls Tryz.prog 56 #[.agg #[.int .i64 W, .int .i64 H, .slice a n c]] w fun e w' =>
      e = .returned (.tuple #[.agg #[.int .i64 0, .int .i64 0, .slice none 0 0], .int .i64 r]) ∧ Below w.heap.size w w' := by
  have e0 : (r != 0) = true := by simp [hr0]
  obtain ⟨W0, hW0⟩ : ∃ W0, (w.alloc (.cells #[.int .i64 W, .int .i64 H, .slice a n c] 54)).alloc (.cells #[.int .i64 0, .int .i64 0, .slice none 0 0] 54) = W0 := ⟨_, rfl⟩
  have hB0 : Below w.heap.size w W0 := by rw [← hW0]; exact ((Below.refl _ w).alloc (Nat.le_refl _) _).alloc (by simp) _
  have hS0 : W0.heap.size = w.heap.size + 2 := by rw [← hW0]; simp
  have a0 : W0.cell? ⟨w.heap.size, 0, none⟩ = some (.int .i64 W) := by rw [← hW0]; simp [go_sem]
  have a1 : W0.cell? ⟨w.heap.size, 1, none⟩ = some (.int .i64 H) := by rw [← hW0]; simp [go_sem]
  have a2 : W0.cell? ⟨w.heap.size, 2, none⟩ = some (.slice a n c) := by rw [← hW0]; simp [go_sem]
  have bP0 : W0.heap[w.heap.size + 1]? = some (.cells #[.int .i64 0, .int .i64 0, .slice none 0 0] 54 (0, 0)) := by rw [← hW0]; exact blk_alloc_new1 _ _ _
  have HC := Lib.hid (hC W0 hB0)
  have HB0 := Lib.hid hB0
  have HBP := Lib.hid bP0
  clear hr0 hC hB0 bP0
  go_enter Tryz.func56, Tryz.ntmps56
  go_upto_region 1 with fail
  try rw [hW0]
  clear hW0
  go_wp2_with (first
    | ((go_at_call 47; refine HC.out.mono ?_; rintro e w1 ⟨rfl, hb1⟩
        have hs1 := hb1.size
        have bP := (hb1.block (w.heap.size + 1) (by omega)).trans HBP.out
        have q0 : w1.frozen? ⟨w.heap.size + 1, 0, none⟩ = false := by simp [World.frozen?, bP]
        have q1 : w1.frozen? ⟨w.heap.size + 1, 1, none⟩ = false := by simp [World.frozen?, bP]
        have q2 : w1.frozen? ⟨w.heap.size + 1, 2, none⟩ = false := by simp [World.frozen?, bP]
        have p0 : w1.cell? ⟨w.heap.size + 1, 0, none⟩ = some (.int .i64 0) := by rw [cell_of_row w1 _ 0 _ _ (0, 0) bP]; rfl
        have p1 : w1.cell? ⟨w.heap.size + 1, 1, none⟩ = some (.int .i64 0) := by rw [cell_of_row w1 _ 1 _ _ (0, 0) bP]; rfl
        have p2 : w1.cell? ⟨w.heap.size + 1, 2, none⟩ = some (.slice none 0 0) := by rw [cell_of_row w1 _ 2 _ _ (0, 0) bP]; rfl
        have HBPW := Lib.hid bP
        have HB1 := Lib.hid hb1
        clear bP hb1)))
  obtain ⟨WF, hWF⟩ : ∃ WF, (((w1.setCell ⟨w.heap.size + 1, 0, none⟩ (.int .i64 0)).setCell ⟨w.heap.size + 1, 1, none⟩ (.int .i64 0)).setCell ⟨w.heap.size + 1, 2, none⟩ (.slice none 0 0)) = WF := ⟨_, rfl⟩
  have rF : WF.heap[w.heap.size + 1]? = some (.cells #[.int .i64 0, .int .i64 0, .slice none 0 0] 54 (0, 0)) := by rw [← hWF]; exact blk_set3 HBPW.out _ _ _
  have bF : Below w.heap.size w WF := by
    rw [← hWF]
    exact (((HB0.out.trans (HB1.out.mono (by omega))).setCell (p := ⟨w.heap.size + 1, 0, none⟩) (by show w.heap.size ≤ w.heap.size + 1; omega) _).setCell (p := ⟨w.heap.size + 1, 1, none⟩) (by show w.heap.size ≤ w.heap.size + 1; omega) _).setCell (p := ⟨w.heap.size + 1, 2, none⟩) (by show w.heap.size ≤ w.heap.size + 1; omega) _
  rw [hWF]
  exact bodyPost_ret (v := .tuple #[.agg #[.int .i64 0, .int .i64 0, .slice none 0 0], .int .i64 r]) (results_row_tmp Tryz.results56 _ _ (w.heap.size + 1) 54 _ (0, 0) _ rfl rF Tryz.underlying54 rfl (by kernel_rfl)) rfl ⟨rfl, bF⟩

set_option maxRecDepth 100000 in
set_option maxHeartbeats 3200000 in
theorem turned_bad (W H : Int) (a : Option Addr) (n c : Nat) (r : Int) (hr0 : r ≠ 0) (w : World)
    (hC : ∀ w1 : World, Below w.heap.size w w1 → Calls Tryz.prog 47 #[.agg #[.int .i64 W, .int .i64 H, .slice a n c]] w1 fun e w' => e = .returned (.int .i64 r) ∧ Below w1.heap.size w1 w') :
    Calls Tryz.prog 57 #[.agg #[.int .i64 W, .int .i64 H, .slice a n c]] w fun e w' =>
      e = .returned (.tuple #[.agg #[.int .i64 0, .int .i64 0, .slice none 0 0], .int .i64 r]) ∧ Below w.heap.size w w' := by
  have e0 : (r != 0) = true := by simp [hr0]
  obtain ⟨W0, hW0⟩ : ∃ W0, (w.alloc (.cells #[.int .i64 W, .int .i64 H, .slice a n c] 54)).alloc (.cells #[.int .i64 0, .int .i64 0, .slice none 0 0] 54) = W0 := ⟨_, rfl⟩
  have hB0 : Below w.heap.size w W0 := by rw [← hW0]; exact ((Below.refl _ w).alloc (Nat.le_refl _) _).alloc (by simp) _
  have hS0 : W0.heap.size = w.heap.size + 2 := by rw [← hW0]; simp
  have a0 : W0.cell? ⟨w.heap.size, 0, none⟩ = some (.int .i64 W) := by rw [← hW0]; simp [go_sem]
  have a1 : W0.cell? ⟨w.heap.size, 1, none⟩ = some (.int .i64 H) := by rw [← hW0]; simp [go_sem]
  have a2 : W0.cell? ⟨w.heap.size, 2, none⟩ = some (.slice a n c) := by rw [← hW0]; simp [go_sem]
  have bP0 : W0.heap[w.heap.size + 1]? = some (.cells #[.int .i64 0, .int .i64 0, .slice none 0 0] 54 (0, 0)) := by rw [← hW0]; exact blk_alloc_new1 _ _ _
  have HC := Lib.hid (hC W0 hB0)
  have HB0 := Lib.hid hB0
  have HBP := Lib.hid bP0
  clear hr0 hC hB0 bP0
  go_enter Tryz.func57, Tryz.ntmps57
  go_upto_region 1 with fail
  try rw [hW0]
  clear hW0
  go_wp2_with (first
    | ((go_at_call 47; refine HC.out.mono ?_; rintro e w1 ⟨rfl, hb1⟩
        have hs1 := hb1.size
        have bP := (hb1.block (w.heap.size + 1) (by omega)).trans HBP.out
        have q0 : w1.frozen? ⟨w.heap.size + 1, 0, none⟩ = false := by simp [World.frozen?, bP]
        have q1 : w1.frozen? ⟨w.heap.size + 1, 1, none⟩ = false := by simp [World.frozen?, bP]
        have q2 : w1.frozen? ⟨w.heap.size + 1, 2, none⟩ = false := by simp [World.frozen?, bP]
        have p0 : w1.cell? ⟨w.heap.size + 1, 0, none⟩ = some (.int .i64 0) := by rw [cell_of_row w1 _ 0 _ _ (0, 0) bP]; rfl
        have p1 : w1.cell? ⟨w.heap.size + 1, 1, none⟩ = some (.int .i64 0) := by rw [cell_of_row w1 _ 1 _ _ (0, 0) bP]; rfl
        have p2 : w1.cell? ⟨w.heap.size + 1, 2, none⟩ = some (.slice none 0 0) := by rw [cell_of_row w1 _ 2 _ _ (0, 0) bP]; rfl
        have HBPW := Lib.hid bP
        have HB1 := Lib.hid hb1
        clear bP hb1)))
  obtain ⟨WF, hWF⟩ : ∃ WF, (((w1.setCell ⟨w.heap.size + 1, 0, none⟩ (.int .i64 0)).setCell ⟨w.heap.size + 1, 1, none⟩ (.int .i64 0)).setCell ⟨w.heap.size + 1, 2, none⟩ (.slice none 0 0)) = WF := ⟨_, rfl⟩
  have rF : WF.heap[w.heap.size + 1]? = some (.cells #[.int .i64 0, .int .i64 0, .slice none 0 0] 54 (0, 0)) := by rw [← hWF]; exact blk_set3 HBPW.out _ _ _
  have bF : Below w.heap.size w WF := by
    rw [← hWF]
    exact (((HB0.out.trans (HB1.out.mono (by omega))).setCell (p := ⟨w.heap.size + 1, 0, none⟩) (by show w.heap.size ≤ w.heap.size + 1; omega) _).setCell (p := ⟨w.heap.size + 1, 1, none⟩) (by show w.heap.size ≤ w.heap.size + 1; omega) _).setCell (p := ⟨w.heap.size + 1, 2, none⟩) (by show w.heap.size ≤ w.heap.size + 1; omega) _
  rw [hWF]
  exact bodyPost_ret (v := .tuple #[.agg #[.int .i64 0, .int .i64 0, .slice none 0 0], .int .i64 r]) (results_row_tmp Tryz.results57 _ _ (w.heap.size + 1) 54 _ (0, 0) _ rfl rF Tryz.underlying54 rfl (by kernel_rfl)) rfl ⟨rfl, bF⟩
end Go.Proofs.YtfdkmmllemkogaaGreatDoor

/-
  Contract of the reference's Made, the map with integers, where no integer is large.
-/
namespace Go.Proofs.YtfdkmmllemkogaaGreatDoor
open Go.RowKit
set_option linter.unusedVariables false
set_option linter.unusedSimpArgs false

/-- A call of one function with one value, as one step of a region that draws. -/
theorem step_func {P : Program} {ops : Array Oper} {o : Oper} {a : Act} {w : World} {K : Act → World → Prop} {Q : Exit → Act → World → Prop} {E : Prop}
    (hg : o.guard = none) (f : FuncId) (x : Operand) (T : TypeId) (ho : o.op = Op.call { callee := Callee.value (.func f), args := #[x], argTypes := #[T] })
    (v r : Value) (hx : a.eval x = v) (hr : (callFunc f #[v]).run P w = .ok (.enter f #[v]) w) (h : Calls P f #[v] w fun e w' => e = .returned r ∧ w = w') (hK : K (a.put o.dst r) w) :
    if Region.wanted o (yielded ops a.tmps) = true then Oper.wp P o a w K Q else E := by
  have hw : Region.wanted o (yielded ops a.tmps) = true := by simp [Region.wanted, hg]
  rw [if_pos hw]
  unfold Oper.wp
  have hf : a.eval (.func f) = .func (.func f) #[] #[] := rfl
  simp [execOp, ho, resolve, invoke, hx, hf, hr, Deferred.ofValue, Result.andThen]
  refine h.mono ?_
  rintro e w' ⟨rfl, rfl⟩
  exact hK

theorem blk_last {w : World} {B : Nat} {T : TypeId} {x y z : Value} (h : w.heap[B]? = some (.cells #[x, y, z] T (0, 0))) (c : Value) : (w.setCell ⟨B, 2, none⟩ c).heap[B]? = some (.cells #[x, y, c] T (0, 0)) := by
  simp only [World.setCell, Array.getElem?_modify, if_true, h, Option.map_some]
  simp
theorem setCell_other {w : World} {B C i : Nat} {c : Value} (h : B ≠ C) : (w.setCell ⟨B, i, none⟩ c).heap[C]? = w.heap[C]? := by
  simp [World.setCell, Array.getElem?_modify, h]

theorem isLarge_no (k : Int) (hk : k.natAbs ≤ 16384) (w : World) :
    Calls Tryz.prog 161 #[.int .i64 k] w fun e w' => e = .returned (.bool false) ∧ w = w' := by
  have t1 : ¬ (16384 < k) := by omega
  have t2 : ¬ (k < -16384) := by omega
  clear hk
  go_enter Tryz.func161, Tryz.ntmps161
  go_wp2
  go_ret
  exact ⟨rfl, rfl⟩

set_option maxRecDepth 100000 in
set_option maxHeartbeats 6400000 in
theorem made_any (W H : Int) (a : Option Addr) (n c : Nat) (ls : List Int) (hl : ls.length = n) (hm : n ≤ 4096) (hs : ∀ j, j < n → (ls[j]?.getD 0).natAbs ≤ 16384) (w : World)
    (hc : ∀ j, j < n → ∃ b o, a = some ⟨b, o, none⟩ ∧ b < w.heap.size ∧ w.cell? ⟨b, o + j, none⟩ = some (.int .i64 (ls[j]?.getD 0))) :
    Calls Tryz.prog 141 #[.int .i64 W, .int .i64 H, .slice a n c] w fun e w' =>
      ∃ v, e = .returned (.tuple #[.agg #[.int .i64 W, .int .i64 H, v], .int .i64 0]) ∧ w'.ownsRow w.heap.size 23 1 v n (ls.map (fun k => Value.float .f32 (smpOf k))) ∧ Below w.heap.size w w' := by
  obtain ⟨i0, hi, hz0, hz1, hz2⟩ := info_parts Tryz.infoF32
  have HL := Lib.hid hl
  have HS := Lib.hid hs
  have HC := Lib.hid hc
  clear hl hs hc
  go_enter Tryz.func141, Tryz.ntmps141
  go_wp2
  obtain ⟨W0, hW0⟩ : ∃ W0, (w.alloc (.cells #[.int .i64 0, .int .i64 0, .slice none 0 0] 48)).alloc (.cells #[.int .i64 W, .int .i64 H, .slice none 0 0] 48) = W0 := ⟨_, rfl⟩
  have hB0 : Below w.heap.size w W0 := by rw [← hW0]; exact ((Below.refl _ w).alloc (Nat.le_refl _) _).alloc (by simp) _
  have hS0 : W0.heap.size = w.heap.size + 2 := by rw [← hW0]; simp
  have bR : W0.heap[w.heap.size]? = some (.cells #[.int .i64 0, .int .i64 0, .slice none 0 0] 48 (0, 0)) := by rw [← hW0]; exact blk_alloc_other (blk_alloc_new _ _) _
  have bM : W0.heap[w.heap.size + 1]? = some (.cells #[.int .i64 W, .int .i64 H, .slice none 0 0] 48 (0, 0)) := by rw [← hW0]; exact blk_alloc_new1 _ _ _
  rw [hW0]
  have HB0 := Lib.hid hB0
  have HBR := Lib.hid bR
  have HBM := Lib.hid bM
  clear hW0 hB0 bR bM
  go_loopw [9] (fun iv wr => ∃ (k : Nat) (v : Value), k ≤ n ∧ iv = .int .i64 k ∧ wr.heap[w.heap.size + 1]? = some (.cells #[.int .i64 W, .int .i64 H, v] 48 (0, 0)) ∧ wr.heap[w.heap.size]? = some (.cells #[.int .i64 0, .int .i64 0, .slice none 0 0] 48 (0, 0)) ∧
      wr.ownsRow (w.heap.size + 2) 23 1 v k ((ls.take k).map (fun k => Value.float .f32 (smpOf k))) ∧ Below w.heap.size w wr ∧ w.heap.size + 2 ≤ wr.heap.size) (fun i _ => n - (intOf i).toNat)
  case atStart => exact ⟨0, _, Nat.zero_le _, rfl, HBM.out, HBR.out, World.ownsRow_nil _ _ _ _, HB0.out, by omega⟩
  case round =>
    obtain ⟨k, v, hk, rfl, bM, bR, hown, hnx, hsz⟩ := hrel
    obtain ⟨av, cv, rfl⟩ := owns_slice hown
    by_cases hlt : k < n
    · obtain ⟨b, o, rfl, hb, hcell0⟩ := HC.out k hlt
      have hcell : wr.cell? ⟨b, o + k, none⟩ = some (.int .i64 (ls[k]?.getD 0)) := (hnx.cell (p := ⟨b, o + k, none⟩) hb).trans hcell0
      have KI := Lib.hid (isLarge_no _ (HS.out k hlt))
      have KS := Lib.hid (refSample_any (ls[k]?.getD 0) (Nat.lt_of_le_of_lt (HS.out k hlt) (by decide)))
      obtain ⟨lk, hlk⟩ : ∃ lk, ls[k]?.getD 0 = lk := ⟨_, rfl⟩
      have HLK := Lib.hid hlk
      rw [hlk] at hcell KI KS
      have c2 : wr.cell? ⟨w.heap.size + 1, 2, none⟩ = some (.slice av k cv) := by rw [cell_of_row wr _ 2 _ _ (0, 0) bM]; rfl
      have hne : ¬ (b = w.heap.size + 1) := by omega
      have hne' : ¬ (w.heap.size + 1 = b) := by omega
      have hy1 : ¬ (w.heap.size + 1 = wr.heap.size) := by omega
      have hy2 : ¬ (wr.heap.size = w.heap.size + 1) := by omega
      have hy3 : ¬ (b = wr.heap.size) := by omega
      have hy4 : ¬ (wr.heap.size = b) := by omega
      have ca1 : ∀ o, (wr.alloc o).cell? ⟨w.heap.size + 1, 2, none⟩ = some (.slice av k cv) := fun o => (((Below.refl _ wr).alloc (Nat.le_refl _) _).cell (p := ⟨w.heap.size + 1, 2, none⟩) (by show w.heap.size + 1 < _; omega)).trans c2
      have h4 : (k : Int) < (n : Int) := by omega
      have h5 : (0 : Int) ≤ (k : Int) := by omega
      have hvb : (Value.slice av k cv).ownBlock ≠ some (w.heap.size + 1) := fun e => by have := (hown.lt _ e).1; omega
      have hvb2 : (Value.slice av k cv).ownBlock ≠ some b := fun e => by have := (hown.lt _ e).1; omega
      have hvb3 : (Value.slice av k cv).ownBlock ≠ some w.heap.size := fun e => by have := (hown.lt _ e).1; omega
      have HBM' := Lib.hid bM
      have HBR' := Lib.hid bR
      clear hcell0 hlk HC bM bR
      go_upto_region 7 with (go_at_call 161; refine (KI.out _).mono ?_; rintro e w' ⟨rfl, rfl⟩)
      go_region_law
        (first
          | (refine step_func (by rfl) 45 (.tmp 30) 3 (by rfl) _ _ (by rfl) (by kernel_rfl) (KS.out _) ?_)
          | ((refine step_append_lies _ (by rfl) (.tmp 26) (.tmp 32) 46 (by rfl) (w.heap.size + 2) 23 i0 (.float .f32 0) 1 4 Tryz.underlying46 hi hz0 hz1 hz2 (by rfl) (by omega) (.slice av k cv) k _ (by rfl) (hown.alloc _) ⟨wr.heap.size, 0, none⟩ 1 1 [.float .f32 (smpOf lk)] (by rfl) (by rfl) (cell_one_new _ _ _) (by intro u hu; simp at hu; subst hu; rfl) (by omega) (by unfold maxLen; omega) (by omega) (by simp; omega) (wr.heap.size + 1) (by simp) ?_; intro g cap w1 hown1 hgrow hat hglt
              have bM1 : w1.heap[w.heap.size + 1]? = some (.cells #[.int .i64 W, .int .i64 H, .slice av k cv] 48 (0, 0)) := (hgrow.block (w.heap.size + 1) (by simp; omega) (Ne.symm hvb)).trans ((((Below.refl _ wr).alloc (Nat.le_refl _) _).block (w.heap.size + 1) (by omega)).trans HBM'.out)
              have bR1 : w1.heap[w.heap.size]? = some (.cells #[.int .i64 0, .int .i64 0, .slice none 0 0] 48 (0, 0)) := (hgrow.block w.heap.size (by simp; omega) (Ne.symm hvb3)).trans ((((Below.refl _ wr).alloc (Nat.le_refl _) _).block w.heap.size (by omega)).trans HBR'.out)
              have c2w : w1.cell? ⟨w.heap.size + 1, 2, none⟩ = some (.slice av k cv) := by rw [cell_of_row w1 _ 2 _ _ (0, 0) bM1]; rfl
              have q2w : w1.frozen? ⟨w.heap.size + 1, 2, none⟩ = false := frozen_of_row _ _ _ _ _ bM1
              have ckw : w1.cell? ⟨b, o + k, none⟩ = some (.int .i64 lk) := (World.cell?_of_block (hgrow.block b (by simp; omega) (Ne.symm hvb2))).trans ((((Below.refl _ wr).alloc (Nat.le_refl _) _).cell (p := ⟨b, o + k, none⟩) (by show b < _; omega)).trans hcell)
              have HM1 := Lib.hid bM1
              have HR1 := Lib.hid bR1
              have HG := Lib.hid hgrow
              have HO1 := Lib.hid hown1
              clear bM1 bR1)))
      all_goals
        go_wp2_with fail
        have hS1 : wr.heap.size + 1 ≤ w1.heap.size := by have := HG.out.size; simpa using this
        have hlw := hown.lt
        have e1 : (ls.take (k + 1)).map (fun k => Value.float .f32 (smpOf k)) = (ls.take k).map (fun k => Value.float .f32 (smpOf k)) ++ [.float .f32 (smpOf lk)] := by
          rw [take_map_succ (fun k => Value.float .f32 (smpOf k)) ls k (by have := HL.out; omega) 0, HLK.out]
        have fB : Below w.heap.size w w1 := (hnx.alloc (by omega) _).drew.grown HG.out (by simp; omega) (fun j hj => by have := (hlw j hj).1; omega)
        have HE1 := Lib.hid e1
        have HFB := Lib.hid fB
        have HS1 := Lib.hid hS1
        clear e1 fB hS1 hlw
        go_roundw
        case rel => exact ⟨k + 1, _, by omega, by go_num, blk_last HM1.out _, (setCell_other (by omega)).trans HR1.out, by rw [HE1.out]; exact ownsRow_setCell_below HO1.out (by dsimp only; omega) _, HFB.out.setCell (p := ⟨w.heap.size + 1, 2, none⟩) (by show w.heap.size ≤ w.heap.size + 1; omega) _, by have := HS1.out; simp; omega⟩
        case measure => simp [intOf]; omega
    · have c0 : wr.cell? ⟨w.heap.size + 1, 0, none⟩ = some (.int .i64 W) := by rw [cell_of_row wr _ 0 _ _ (0, 0) bM]; rfl
      have c1 : wr.cell? ⟨w.heap.size + 1, 1, none⟩ = some (.int .i64 H) := by rw [cell_of_row wr _ 1 _ _ (0, 0) bM]; rfl
      have c2 : wr.cell? ⟨w.heap.size + 1, 2, none⟩ = some (.slice av k cv) := by rw [cell_of_row wr _ 2 _ _ (0, 0) bM]; rfl
      have r0 : wr.cell? ⟨w.heap.size, 0, none⟩ = some (.int .i64 0) := by rw [cell_of_row wr _ 0 _ _ (0, 0) bR]; rfl
      have r1 : wr.cell? ⟨w.heap.size, 1, none⟩ = some (.int .i64 0) := by rw [cell_of_row wr _ 1 _ _ (0, 0) bR]; rfl
      have r2 : wr.cell? ⟨w.heap.size, 2, none⟩ = some (.slice none 0 0) := by rw [cell_of_row wr _ 2 _ _ (0, 0) bR]; rfl
      have q0 : wr.frozen? ⟨w.heap.size, 0, none⟩ = false := frozen_of_row _ _ _ _ _ bR
      have q1 : wr.frozen? ⟨w.heap.size, 1, none⟩ = false := frozen_of_row _ _ _ _ _ bR
      have q2 : wr.frozen? ⟨w.heap.size, 2, none⟩ = false := frozen_of_row _ _ _ _ _ bR
      have HBR' := Lib.hid bR
      clear bM bR
      go_wp2
      obtain rfl : k = n := by omega
      obtain ⟨WF, hWF⟩ : ∃ WF, (((wr.setCell ⟨w.heap.size, 0, none⟩ (.int .i64 W)).setCell ⟨w.heap.size, 1, none⟩ (.int .i64 H)).setCell ⟨w.heap.size, 2, none⟩ (.slice av k cv)) = WF := ⟨_, rfl⟩
      have rF : WF.heap[w.heap.size]? = some (.cells #[.int .i64 W, .int .i64 H, .slice av k cv] 48 (0, 0)) := by rw [← hWF]; exact blk_set3 HBR'.out _ _ _
      have bF : Below w.heap.size w WF := by
        rw [← hWF]
        exact ((hnx.setCell (p := ⟨w.heap.size, 0, none⟩) (Nat.le_refl _) _).setCell (p := ⟨w.heap.size, 1, none⟩) (Nat.le_refl _) _).setCell (p := ⟨w.heap.size, 2, none⟩) (Nat.le_refl _) _
      have oF : WF.ownsRow w.heap.size 23 1 (.slice av k cv) k (ls.map (fun k => Value.float .f32 (smpOf k))) := by
        rw [← hWF]
        rw [List.take_of_length_le (by have := HL.out; omega)] at hown
        exact owns_base (ownsRow_setCell_below (ownsRow_setCell_below (ownsRow_setCell_below hown (by dsimp only; omega) _) (by dsimp only; omega) _) (by dsimp only; omega) _) (by omega)
      rw [hWF]
      exact bodyPost_ret (v := .tuple #[.agg #[.int .i64 W, .int .i64 H, .slice av k cv], .int .i64 0]) (results_row_tmp Tryz.results141 _ _ w.heap.size 48 _ (0, 0) _ rfl rF Tryz.underlying48 rfl (by kernel_rfl)) rfl ⟨_, rfl, oF, bF⟩
end Go.Proofs.YtfdkmmllemkogaaGreatDoor

/-
  Two maps without anything are the same; one() of a result with an error.
-/
namespace Go.Proofs.YtfdkmmllemkogaaGreatDoor
open Go.RowKit
set_option linter.unusedVariables false
set_option linter.unusedSimpArgs false

set_option maxRecDepth 100000 in
set_option maxHeartbeats 1600000 in
theorem sameSamples_nil (w : World) : Calls Tryz.prog 193 #[.slice none 0 0, .slice none 0 0] w fun e w' => e = .returned (.bool true) ∧ Below w.heap.size w w' := by
  go_enter Tryz.func193, Tryz.ntmps193
  go_wp2
  go_loopw [5] (fun i wr => i = .int .i64 0 ∧ Below w.heap.size w wr) (fun i _ => 0)
  case atStart => exact ⟨rfl, Below.refl _ _⟩
  case round =>
    obtain ⟨rfl, hnx⟩ := hrel
    go_wp2
    go_ret
    exact ⟨rfl, hnx⟩

set_option maxRecDepth 100000 in
set_option maxHeartbeats 1600000 in
theorem sameMap_nil (w : World) : Calls Tryz.prog 98 #[.agg #[.int .i64 0, .int .i64 0, .slice none 0 0], .agg #[.int .i64 0, .int .i64 0, .slice none 0 0]] w fun e w' => e = .returned (.bool true) ∧ Below w.heap.size w w' := by
  go_enter Tryz.func98, Tryz.ntmps98
  go_wp2_with fail
  refine (sameSize_any 0 0 _ _ 0 0 0 0 _).mono ?_
  rintro e w1 ⟨rfl, hb1⟩
  have hB : Below w.heap.size w w1 := (((Below.refl _ w).alloc (Nat.le_refl _) _).alloc (by simp) _).trans (hb1.mono (by simp; omega))
  have s0 : w1.cell? ⟨w.heap.size, 2, none⟩ = some (.slice none 0 0) := by rw [hb1.cell (by simp; try omega)]; simp [go_sem]
  have s1 : w1.cell? ⟨w.heap.size + 1, 2, none⟩ = some (.slice none 0 0) := by rw [hb1.cell (by simp)]; simp [go_sem]
  have HB := Lib.hid hB
  clear hb1 hB
  go_wp2_with fail
  refine (sameSamples_nil _).mono ?_
  rintro e w2 ⟨rfl, hb2⟩
  go_wp2
  go_ret
  exact ⟨rfl, HB.out.trans (hb2.mono HB.out.size)⟩

set_option maxHeartbeats 1600000 in
theorem told_any (W H : Int) (a : Option Addr) (n c : Nat) (w : World) : Calls Tryz.prog 97 #[.agg #[.int .i64 W, .int .i64 H, .slice a n c]] w fun e w' => e = .returned (.agg #[.int .i64 W, .int .i64 H, .slice a n c]) ∧ Below w.heap.size w w' := by
  go_enter Tryz.func97, Tryz.ntmps97
  go_wp2
  refine bodyPost_ret (v := .agg #[.int .i64 W, .int .i64 H, .slice a n c]) (by simp [results, Tryz.results97, go_sem]) rfl ⟨rfl, ?_⟩
  exact ((Below.refl _ w).alloc (Nat.le_refl _) _).alloc (by simp) _

set_option maxRecDepth 100000 in
set_option maxHeartbeats 3200000 in
/-- one() of a result without an error. -/
theorem one_ok (W H W' H' : Int) (a a' : Option Addr) (n c n' c' : Nat) (w : World)
    (hK : ∀ w1 : World, Below w.heap.size w w1 → Calls Tryz.prog 98 #[.agg #[.int .i64 W, .int .i64 H, .slice a n c], .agg #[.int .i64 W', .int .i64 H', .slice a' n' c']] w1 fun e w' => e = .returned (.bool true) ∧ Below w1.heap.size w1 w') :
    Calls Tryz.prog 55 #[.agg #[.int .i64 W, .int .i64 H, .slice a n c], .int .i64 0, .int .i64 0, .agg #[.int .i64 W', .int .i64 H', .slice a' n' c']] w fun e w' => e = .returned (.bool true) ∧ Below w.heap.size w w' := by
  obtain ⟨W0, hW0⟩ : ∃ W0, (w.alloc (.cells #[.int .i64 W, .int .i64 H, .slice a n c] 54)).alloc (.cells #[.int .i64 W', .int .i64 H', .slice a' n' c'] 48) = W0 := ⟨_, rfl⟩
  have hB0 : Below w.heap.size w W0 := by rw [← hW0]; exact ((Below.refl _ w).alloc (Nat.le_refl _) _).alloc (by simp) _
  have hS0 : W0.heap.size = w.heap.size + 2 := by rw [← hW0]; simp
  have a0 : W0.cell? ⟨w.heap.size, 0, none⟩ = some (.int .i64 W) := by rw [← hW0]; simp [go_sem]
  have a1 : W0.cell? ⟨w.heap.size, 1, none⟩ = some (.int .i64 H) := by rw [← hW0]; simp [go_sem]
  have a2 : W0.cell? ⟨w.heap.size, 2, none⟩ = some (.slice a n c) := by rw [← hW0]; simp [go_sem]
  have b0 : W0.cell? ⟨w.heap.size + 1, 0, none⟩ = some (.int .i64 W') := by rw [← hW0]; simp [go_sem]
  have b1 : W0.cell? ⟨w.heap.size + 1, 1, none⟩ = some (.int .i64 H') := by rw [← hW0]; simp [go_sem]
  have b2 : W0.cell? ⟨w.heap.size + 1, 2, none⟩ = some (.slice a' n' c') := by rw [← hW0]; simp [go_sem]
  have KS : Hid (∀ w1 : World, Below W0.heap.size W0 w1 → Calls Tryz.prog 98 #[.agg #[.int .i64 W, .int .i64 H, .slice a n c], .agg #[.int .i64 W', .int .i64 H', .slice a' n' c']] w1 fun e w' => e = .returned (.bool true) ∧ Below w1.heap.size w1 w' ∧ Below W0.heap.size W0 w') :=
    Lib.hid fun w1 h => (hK w1 (hB0.trans (h.mono (by omega)))).mono fun e w' ⟨he, hb⟩ => ⟨he, hb, h.trans (hb.mono h.size)⟩
  have KT : Hid (∀ w1 : World, Below W0.heap.size W0 w1 → Calls Tryz.prog 97 #[.agg #[.int .i64 W, .int .i64 H, .slice a n c]] w1 fun e w' => e = .returned (.agg #[.int .i64 W, .int .i64 H, .slice a n c]) ∧ Below W0.heap.size W0 w') :=
    Lib.hid fun w1 h => (told_any W H a n c w1).mono fun e w' ⟨he, hb⟩ => ⟨he, h.trans (hb.mono h.size)⟩
  have HB0 := Lib.hid hB0
  clear hK hB0
  go_enter Tryz.func55, Tryz.ntmps55
  go_upto_region 1 with fail
  try rw [hW0]
  clear hW0
  go_wp2_with fail
  go_region_held3 (fun w' => w'.cell? ⟨w.heap.size, 0, none⟩ = some (.int .i64 W) ∧ w'.cell? ⟨w.heap.size, 1, none⟩ = some (.int .i64 H) ∧ w'.cell? ⟨w.heap.size, 2, none⟩ = some (.slice a n c) ∧ w'.cell? ⟨w.heap.size + 1, 0, none⟩ = some (.int .i64 W') ∧ w'.cell? ⟨w.heap.size + 1, 1, none⟩ = some (.int .i64 H') ∧ w'.cell? ⟨w.heap.size + 1, 2, none⟩ = some (.slice a' n' c'))
    (first | go_keep | (go_split_ands; refine ⟨?_, ?_, ?_, ?_, ?_, ?_⟩ <;> (first | (rw [hb3.cell (by show _ < W0.heap.size; simp; try omega)]; assumption) | (rw [hb1.cell (by show _ < W0.heap.size; simp; try omega)]; assumption))))
    (first
      | (go_at_call 97; refine (KT.out _ (by first | exact Below.refl _ _ | exact (Below.refl _ _).drew)).mono ?_; rintro e w1 ⟨rfl, hb1⟩)
      | (go_at_call 98; refine (KS.out _ hb1).mono ?_; rintro e w2 ⟨rfl, hb2, hb3⟩))
  all_goals
    go_wp2
    go_ret
    exact ⟨rfl, HB0.out.trans (hb3.mono (by omega))⟩

set_option maxRecDepth 100000 in
set_option maxHeartbeats 3200000 in
/-- one() of a result with an error: whatever the reference's map is. -/
theorem one_bad (r : Int) (hr0 : r ≠ 0) (W' H' : Int) (a' : Option Addr) (n' c' : Nat) (w : World) :
    Calls Tryz.prog 55 #[.agg #[.int .i64 0, .int .i64 0, .slice none 0 0], .int .i64 r, .int .i64 r, .agg #[.int .i64 W', .int .i64 H', .slice a' n' c']] w fun e w' => e = .returned (.bool true) ∧ Below w.heap.size w w' := by
  have e0 : (r != 0) = true := by simp [hr0]
  have e1 : (r == r) = true := by simp
  clear hr0
  go_enter Tryz.func55, Tryz.ntmps55
  go_upto_region 3 with fail
  obtain ⟨W0, hW0⟩ : ∃ W0, (w.alloc (.cells #[.int .i64 0, .int .i64 0, .slice none 0 0] 54)).alloc (.cells #[.int .i64 0, .int .i64 0, .slice none 0 0] 48) = W0 := ⟨_, rfl⟩
  have hB0 : Below w.heap.size w W0 := by rw [← hW0]; exact ((Below.refl _ w).alloc (Nat.le_refl _) _).alloc (by simp) _
  have hS0 : W0.heap.size = w.heap.size + 2 := by rw [← hW0]; simp
  have a0 : W0.cell? ⟨w.heap.size, 0, none⟩ = some (.int .i64 0) := by rw [← hW0]; simp [go_sem]
  have a1 : W0.cell? ⟨w.heap.size, 1, none⟩ = some (.int .i64 0) := by rw [← hW0]; simp [go_sem]
  have a2 : W0.cell? ⟨w.heap.size, 2, none⟩ = some (.slice none 0 0) := by rw [← hW0]; simp [go_sem]
  have b0 : W0.cell? ⟨w.heap.size + 1, 0, none⟩ = some (.int .i64 0) := by rw [← hW0]; simp [go_sem]
  have b1 : W0.cell? ⟨w.heap.size + 1, 1, none⟩ = some (.int .i64 0) := by rw [← hW0]; simp [go_sem]
  have b2 : W0.cell? ⟨w.heap.size + 1, 2, none⟩ = some (.slice none 0 0) := by rw [← hW0]; simp [go_sem]
  have KS : Hid (∀ w1 : World, Below W0.heap.size W0 w1 → Calls Tryz.prog 98 #[.agg #[.int .i64 0, .int .i64 0, .slice none 0 0], .agg #[.int .i64 0, .int .i64 0, .slice none 0 0]] w1 fun e w' => e = .returned (.bool true) ∧ Below w1.heap.size w1 w' ∧ Below W0.heap.size W0 w') :=
    Lib.hid fun w1 h => (sameMap_nil w1).mono fun e w' ⟨he, hb⟩ => ⟨he, hb, h.trans (hb.mono h.size)⟩
  have KT : Hid (∀ w1 : World, Below W0.heap.size W0 w1 → Calls Tryz.prog 97 #[.agg #[.int .i64 0, .int .i64 0, .slice none 0 0]] w1 fun e w' => e = .returned (.agg #[.int .i64 0, .int .i64 0, .slice none 0 0]) ∧ Below W0.heap.size W0 w') :=
    Lib.hid fun w1 h => (told_any 0 0 none 0 0 w1).mono fun e w' ⟨he, hb⟩ => ⟨he, h.trans (hb.mono h.size)⟩
  have HB0 := Lib.hid hB0
  clear hB0
  rw [hW0]
  clear hW0
  go_region_held3 (fun w' => w'.cell? ⟨w.heap.size, 0, none⟩ = some (.int .i64 0) ∧ w'.cell? ⟨w.heap.size, 1, none⟩ = some (.int .i64 0) ∧ w'.cell? ⟨w.heap.size, 2, none⟩ = some (.slice none 0 0) ∧ w'.cell? ⟨w.heap.size + 1, 0, none⟩ = some (.int .i64 0) ∧ w'.cell? ⟨w.heap.size + 1, 1, none⟩ = some (.int .i64 0) ∧ w'.cell? ⟨w.heap.size + 1, 2, none⟩ = some (.slice none 0 0))
    (first | go_keep | (go_split_ands; refine ⟨?_, ?_, ?_, ?_, ?_, ?_⟩ <;> (first | (rw [hb3.cell (by show _ < W0.heap.size; simp; try omega)]; assumption) | (rw [hb1.cell (by show _ < W0.heap.size; simp; try omega)]; assumption))))
    (first
      | (go_at_call 97; refine (KT.out _ (by first | exact Below.refl _ _ | exact (Below.refl _ _).drew)).mono ?_; rintro e w1 ⟨rfl, hb1⟩)
      | (go_at_call 98; refine (KS.out _ hb1).mono ?_; rintro e w2 ⟨rfl, hb2, hb3⟩))
  all_goals
    go_wp2
    go_ret
    exact ⟨rfl, HB0.out.trans (hb3.mono (by omega))⟩
end Go.Proofs.YtfdkmmllemkogaaGreatDoor

/-
  Results that are maps: the map that a list of integers makes, or nothing with an error; one() of two such results.
-/
namespace Go.Proofs.YtfdkmmllemkogaaGreatDoor
open Go.RowKit
set_option linter.unusedVariables false
set_option linter.unusedSimpArgs false

/-- The value of a result that is a map: the map with the integers ls if there is no error, else nothing. -/
structure ResV (w : World) (r W H : Int) (ls : List Int) (X Y : Int) (a : Option Addr) (n c : Nat) : Prop where
  bad : r ≠ 0 → X = 0 ∧ Y = 0 ∧ a = none ∧ n = 0 ∧ c = 0
  ok : r = 0 → X = W ∧ Y = H ∧ ls.length = n ∧ n ≤ 4096 ∧ (∀ j, j < n → (ls[j]?.getD 0).natAbs ≤ 16384) ∧
    ∃ g, a = some ⟨g, 0, none⟩ ∧ g < w.heap.size ∧ ∀ j, j < n → w.cell? ⟨g, j, none⟩ = some (.float .f32 (smpOf (ls[j]?.getD 0)))
theorem ResV.kept {w w' : World} {r W H : Int} {ls : List Int} {X Y : Int} {a : Option Addr} {n c : Nat} (h : ResV w r W H ls X Y a n c) (hb : Below w.heap.size w w') : ResV w' r W H ls X Y a n c :=
  ⟨h.bad, fun h0 => by
    obtain ⟨h1, h2, h3, h4, h5, g, h6, h7, h8⟩ := h.ok h0
    exact ⟨h1, h2, h3, h4, h5, g, h6, Nat.lt_of_lt_of_le h7 hb.size, fun j hj => (hb.cell (p := ⟨g, j, none⟩) h7).trans (h8 j hj)⟩⟩
theorem ResV.none (w : World) (r W H : Int) (ls : List Int) (h : r ≠ 0) : ResV w r W H ls 0 0 none 0 0 :=
  ⟨fun _ => ⟨rfl, rfl, rfl, rfl, rfl⟩, fun h0 => absurd h0 h⟩
theorem ResV.some {w : World} {W H : Int} {ls : List Int} {g n c : Nat} (hl : ls.length = n) (hn : n ≤ 4096) (hs : ∀ j, j < n → (ls[j]?.getD 0).natAbs ≤ 16384) (hg : g < w.heap.size) (hc : ∀ j, j < n → w.cell? ⟨g, j, Option.none⟩ = Option.some (.float .f32 (smpOf (ls[j]?.getD 0)))) :
    ResV w 0 W H ls W H (Option.some ⟨g, 0, Option.none⟩) n c :=
  ⟨fun h => absurd rfl h, fun _ => ⟨rfl, rfl, hl, hn, hs, g, rfl, hg, hc⟩⟩

set_option maxHeartbeats 1600000 in
/-- one() of two results with the same error. -/
theorem one_res (r W H : Int) (ls : List Int) (X Y X' Y' : Int) (a a' : Option Addr) (n c n' c' : Nat) (w : World) (h1 : ResV w r W H ls X Y a n c) (h2 : r = 0 → ResV w r W H ls X' Y' a' n' c') :
    Calls Tryz.prog 55 #[.agg #[.int .i64 X, .int .i64 Y, .slice a n c], .int .i64 r, .int .i64 r, .agg #[.int .i64 X', .int .i64 Y', .slice a' n' c']] w fun e w' => e = .returned (.bool true) ∧ Below w.heap.size w w' := by
  by_cases h0 : r = 0
  · obtain ⟨rfl, rfl, hl, hn, hs, g, rfl, hg, hc⟩ := h1.ok h0
    obtain ⟨rfl, rfl, hl', hn', hs', g', rfl, hg', hc'⟩ := (h2 h0).ok h0
    subst h0
    obtain rfl : n = n' := by omega
    refine one_ok _ _ _ _ _ _ _ _ _ _ w (fun w1 hb1 => ?_)
    have hz := hb1.size
    have e : ∀ j, j < n → (ls.map smpOf)[j]?.getD 0 = smpOf (ls[j]?.getD 0) := fun j hj => by rw [List.getElem?_map, List.getElem?_eq_getElem (by omega)]; rfl
    have hsm : ∀ j, j < n → Smp ((ls.map smpOf)[j]?.getD 0) (ls[j]?.getD 0) := fun j hj => by rw [e j hj]; exact smpOf_smp _ (Nat.lt_of_le_of_lt (hs j hj) (by decide))
    refine sameMap_any _ _ g 0 c g' 0 c' n (ls.map smpOf) (ls.map smpOf) ls hn (by omega) (by omega) (fun j hj => ?_) (fun j hj => ?_) hsm hsm
    · rw [e j hj, Nat.zero_add]; exact (hb1.cell (p := ⟨g, j, none⟩) hg).trans (hc j hj)
    · rw [e j hj, Nat.zero_add]; exact (hb1.cell (p := ⟨g', j, none⟩) hg').trans (hc' j hj)
  · obtain ⟨rfl, rfl, rfl, rfl, rfl⟩ := h1.bad h0
    exact one_bad r h0 X' Y' a' n' c' w

/-- The first index of an integer that is large. -/
theorem first_large {ls : List Int} {n : Nat} (h : ¬ ∀ j, j < n → (ls[j]?.getD 0).natAbs ≤ 16384) :
    ∃ j0, j0 < n ∧ 16384 < (ls[j0]?.getD 0).natAbs ∧ ∀ j, j < j0 → (ls[j]?.getD 0).natAbs ≤ 16384 := by
  induction n with
  | zero => exact absurd (fun j hj => by omega) h
  | succ n ih =>
    by_cases h1 : ∀ j, j < n → (ls[j]?.getD 0).natAbs ≤ 16384
    · refine ⟨n, by omega, ?_, h1⟩
      by_cases h2 : 16384 < (ls[n]?.getD 0).natAbs
      · exact h2
      · refine absurd (fun j hj => ?_) h
        by_cases h3 : j < n
        · exact h1 j h3
        · obtain rfl : j = n := by omega
          omega
    · obtain ⟨j0, h2, h3, h4⟩ := ih h1
      exact ⟨j0, by omega, h3, h4⟩

/-- The error of integers that are to be those of samples. -/
def largeErr (n : Nat) (ls : List Int) : Int := if ∀ j, j < n → (ls[j]?.getD 0).natAbs ≤ 16384 then 0 else 4

def flipL (W n : Nat) (ks : List Int) : List Int := (List.range n).map (fun j => ks[j / W * W + (W - 1 - j % W)]?.getD 0)
def turnL (W H n : Nat) (ks : List Int) : List Int := (List.range n).map (fun j => ks[(H - 1 - j % H) * W + j / H]?.getD 0)
def addL (n : Nat) (ks js : List Int) : List Int := (List.range n).map (fun j => ks[j]?.getD 0 + js[j]?.getD 0)
theorem range_get (n : Nat) (f : Nat → Int) (j : Nat) (hj : j < n) : ((List.range n).map f)[j]?.getD 0 = f j := by
  rw [List.getElem?_map, List.getElem?_range hj]; rfl
end Go.Proofs.YtfdkmmllemkogaaGreatDoor
