/-
  Contracts of Peak, of the reference for a right map and of the program for every map.
-/
import Derived.Test.YthmaoeajbmfmaaaGreatDoorDHf
import Derived.Test.YthmaoeajbmfmaaaGreatDoorDZk
namespace Go.Proofs.YthmaoeajbmfmaaaGreatDoor
open Go.RowKit
set_option linter.unusedVariables false
set_option linter.unusedSimpArgs false

/-- The first index of the greatest integer among the first m. -/
def pkTo (ks : List Int) : Nat → Nat
  | 0 => 0
  | m + 1 => if ks[pkTo ks m]?.getD 0 < ks[m]?.getD 0 then m else pkTo ks m

theorem pkTo_lt (ks : List Int) : ∀ m, 1 ≤ m → pkTo ks m < m
  | 0, h => by omega
  | m + 1, _ => by
    unfold pkTo
    split
    · omega
    · rcases Nat.eq_zero_or_pos m with rfl | hm
      · simp [pkTo]
      · have := pkTo_lt ks m hm; omega

theorem peakTo_pk (W : Nat) (ks : List Int) (hW : 0 < W) : ∀ m, peakTo W ks (placesTo W m) = (pkTo ks m % W, pkTo ks m / W)
  | 0 => by simp [placesTo, peakTo, pkTo]
  | m + 1 => by
    have e : placesTo W (m + 1) = placesTo W m ++ [(m % W, m / W)] := by simp [placesTo, List.range_succ]
    have hi : ∀ j : Nat, j / W * W + j % W = j := fun j => by rw [Nat.mul_comm]; exact Nat.div_add_mod j W
    rw [e, peakTo_snoc, peakTo_pk W ks hW m]
    unfold peak1
    dsimp only
    rw [hi, hi, pkTo]
    split <;> rfl

theorem order_gt {x y : Nat} {k l : Int} (hx : Smp x k) (hy : Smp y l) : (Ieee.single.order x y == some .gt) = decide (l < k) := by
  rw [hx.order hy]
  by_cases h : l < k
  · rw [cmp_gt_of h, decide_eq_true h]; rfl
  · rw [decide_eq_false h]
    have : compare k l ≠ .gt := by
      show compareOfLessAndEq _ _ ≠ _
      unfold compareOfLessAndEq
      split
      · simp
      · split
        · simp
        · omega
    cases hc : compare k l <;> simp_all

theorem results_tmp_row {P : Program} {fn : Func} {s p : Tmp} {ty : TypeId} (h : fn.results = #[.tmp s, .cell p ty]) (tmps : Array Value) (w : World) (g : Nat) (t : TypeId) (cs : Array Value) (fr : Nat × Nat) (d : TypeDesc)
    (hp : tmps.getD p undef = .pointer (some ⟨g, 0, none⟩)) (hg : w.heap[g]? = some (.cells cs t fr))
    (hu : P.underlying ty = some d) (hd : (match d with | .struct _ | .array _ _ => true | _ => false) = true) (hi : (P.info? ty).map (·.size) = some cs.size) :
    (results fn tmps).run P w = .ok (.tuple #[tmps.getD s undef, .agg cs]) w := by
  have hp' : tmps[p]?.getD undef = .pointer (some ⟨g, 0, none⟩) := by simpa using hp
  simp [results, h, hp', asAddr, Sem.run_bind, Result.andThen, run_loadVar_row w g t ty cs fr d hg hu hd hi]

set_option maxRecDepth 100000 in
set_option maxHeartbeats 3200000 in
theorem peak_bad (W H : Int) (a : Option Addr) (n c : Nat) (r : Int) (hr0 : r ≠ 0) (w : World)
    (hC : ∀ w1 : World, Below w.heap.size w w1 → Calls Tryz.prog 89 #[.agg #[.int .i64 W, .int .i64 H, .slice a n c]] w1 fun e w' => e = .returned (.int .i64 r) ∧ Below w1.heap.size w1 w') :
    Calls Tryz.prog 45 #[.agg #[.int .i64 W, .int .i64 H, .slice a n c]] w fun e w' =>
      e = .returned (.tuple #[.float .f32 0, .agg #[.int .i64 0, .int .i64 0], .int .i64 r]) ∧ Below w.heap.size w w' := by
  have e0 : (r != 0) = true := by simp [hr0]
  obtain ⟨W0, hW0⟩ : ∃ W0, (w.alloc (.cells #[.int .i64 W, .int .i64 H, .slice a n c] 70)).alloc (.cells #[.int .i64 0, .int .i64 0] 99) = W0 := ⟨_, rfl⟩
  have hB0 : Below w.heap.size w W0 := by rw [← hW0]; exact ((Below.refl _ w).alloc (Nat.le_refl _) _).alloc (by simp) _
  have hS0 : W0.heap.size = w.heap.size + 2 := by rw [← hW0]; simp
  have a0 : W0.cell? ⟨w.heap.size, 0, none⟩ = some (.int .i64 W) := by rw [← hW0]; simp [go_sem]
  have a1 : W0.cell? ⟨w.heap.size, 1, none⟩ = some (.int .i64 H) := by rw [← hW0]; simp [go_sem]
  have a2 : W0.cell? ⟨w.heap.size, 2, none⟩ = some (.slice a n c) := by rw [← hW0]; simp [go_sem]
  have bP0 : W0.heap[w.heap.size + 1]? = some (.cells #[.int .i64 0, .int .i64 0] 99 (0, 0)) := by rw [← hW0]; exact blk_alloc_new1 _ _ _
  have HC := Lib.hid (hC W0 hB0)
  have HB0 := Lib.hid hB0
  have HBP := Lib.hid bP0
  clear hr0 hC hB0 bP0
  go_enter Tryz.func45, Tryz.ntmps45
  go_upto_region 1 with fail
  try rw [hW0]
  clear hW0
  go_wp2_with (first
    | ((go_at_call 89; refine HC.out.mono ?_; rintro e w1 ⟨rfl, hb1⟩
        have hs1 := hb1.size
        have bP := (hb1.block (w.heap.size + 1) (by omega)).trans HBP.out
        have q0 : w1.frozen? ⟨w.heap.size + 1, 0, none⟩ = false := by simp [World.frozen?, bP]
        have q1 : w1.frozen? ⟨w.heap.size + 1, 1, none⟩ = false := by simp [World.frozen?, bP]
        have p0 : w1.cell? ⟨w.heap.size + 1, 0, none⟩ = some (.int .i64 0) := by rw [cell_of_row w1 _ 0 _ _ (0, 0) bP]; rfl
        have p1 : w1.cell? ⟨w.heap.size + 1, 1, none⟩ = some (.int .i64 0) := by rw [cell_of_row w1 _ 1 _ _ (0, 0) bP]; rfl
        have HBPW := Lib.hid bP
        have HB1 := Lib.hid hb1
        clear bP hb1)))
  obtain ⟨WF, hWF⟩ : ∃ WF, ((w1.setCell ⟨w.heap.size + 1, 0, none⟩ (.int .i64 0)).setCell ⟨w.heap.size + 1, 1, none⟩ (.int .i64 0)) = WF := ⟨_, rfl⟩
  have rF : WF.heap[w.heap.size + 1]? = some (.cells #[.int .i64 0, .int .i64 0] 99 (0, 0)) := by rw [← hWF]; exact blk_set2 HBPW.out _ _
  have bF : Below w.heap.size w WF := by
    rw [← hWF]
    exact ((HB0.out.trans (HB1.out.mono (by omega))).setCell (p := ⟨w.heap.size + 1, 0, none⟩) (by show w.heap.size ≤ w.heap.size + 1; omega) _).setCell (p := ⟨w.heap.size + 1, 1, none⟩) (by show w.heap.size ≤ w.heap.size + 1; omega) _
  rw [hWF]
  exact bodyPost_ret (v := .tuple #[.float .f32 0, .agg #[.int .i64 0, .int .i64 0], .int .i64 r]) (results_tmp_row_tmp Tryz.results45 _ _ (w.heap.size + 1) 99 _ (0, 0) _ rfl rF Tryz.underlying99 rfl (by kernel_rfl)) rfl ⟨rfl, bF⟩
end Go.Proofs.YthmaoeajbmfmaaaGreatDoor

/-
  What Flipped and Turned answer for a map with an error; two maps without anything are the same.
-/
namespace Go.Proofs.YthmaoeajbmfmaaaGreatDoor
open Go.RowKit
set_option linter.unusedVariables false
set_option linter.unusedSimpArgs false


set_option maxRecDepth 100000 in
set_option maxHeartbeats 3200000 in
theorem flipped_bad (W H : Int) (a : Option Addr) (n c : Nat) (r : Int) (hr0 : r ≠ 0) (w : World)
    (hC : ∀ w1 : World, Below w.heap.size w w1 → Calls Tryz.prog 89 #[.agg #[.int .i64 W, .int .i64 H, .slice a n c]] w1 fun e w' => e = .returned (.int .i64 r) ∧ Below w1.heap.size w1 w') :
    Calls Tryz.prog 50 #[.agg #[.int .i64 W, .int .i64 H, .slice a n c]] w fun e w' =>
      e = .returned (.tuple #[.agg #[.int .i64 0, .int .i64 0, .slice none 0 0], .int .i64 r]) ∧ Below w.heap.size w w' := by
  have e0 : (r != 0) = true := by simp [hr0]
  obtain ⟨W0, hW0⟩ : ∃ W0, (w.alloc (.cells #[.int .i64 W, .int .i64 H, .slice a n c] 70)).alloc (.cells #[.int .i64 0, .int .i64 0, .slice none 0 0] 70) = W0 := ⟨_, rfl⟩
  have hB0 : Below w.heap.size w W0 := by rw [← hW0]; exact ((Below.refl _ w).alloc (Nat.le_refl _) _).alloc (by simp) _
  have hS0 : W0.heap.size = w.heap.size + 2 := by rw [← hW0]; simp
  have a0 : W0.cell? ⟨w.heap.size, 0, none⟩ = some (.int .i64 W) := by rw [← hW0]; simp [go_sem]
  have a1 : W0.cell? ⟨w.heap.size, 1, none⟩ = some (.int .i64 H) := by rw [← hW0]; simp [go_sem]
  have a2 : W0.cell? ⟨w.heap.size, 2, none⟩ = some (.slice a n c) := by rw [← hW0]; simp [go_sem]
  have bP0 : W0.heap[w.heap.size + 1]? = some (.cells #[.int .i64 0, .int .i64 0, .slice none 0 0] 70 (0, 0)) := by rw [← hW0]; exact blk_alloc_new1 _ _ _
  have HC := Lib.hid (hC W0 hB0)
  have HB0 := Lib.hid hB0
  have HBP := Lib.hid bP0
  clear hr0 hC hB0 bP0
  go_enter Tryz.func50, Tryz.ntmps50
  go_upto_region 1 with fail
  try rw [hW0]
  clear hW0
  go_wp2_with (first
    | ((go_at_call 89; refine HC.out.mono ?_; rintro e w1 ⟨rfl, hb1⟩
        have hs1 := hb1.size
        have bP := (hb1.block (w.heap.size + 1) (by omega)).trans HBP.out
        have q0 : w1.frozen? ⟨w.heap.size + 1, 0, none⟩ = false := by simp [World.frozen?, bP]
        have q1 : w1.frozen? ⟨w.heap.size + 1, 1, none⟩ = false := by simp [World.frozen?, bP]
        have q2 : w1.frozen? ⟨w.heap.size + 1, 2, none⟩ = false := by simp [World.frozen?, bP]
        have p0 : w1.cell? ⟨w.heap.size + 1, 0, none⟩ = some (.int .i64 0) := by rw [cell_of_row w1 _ 0 _ _ (0, 0) bP]; rfl
        have p1 : w1.cell? ⟨w.heap.size + 1, 1, none⟩ = some (.int .i64 0) := by rw [cell_of_row w1 _ 1 _ _ (0, 0) bP]; rfl
        have p2 : w1.cell? ⟨w.heap.size + 1, 2, none⟩ = some (.slice none 0 0) := by rw [cell_of_row w1 _ 2 _ _ (0, 0) bP]; rfl
        have HBPW := Lib.hid bP
        have HB1 := Lib.hid hb1
        clear bP hb1)))
  obtain ⟨WF, hWF⟩ : ∃ WF, (((w1.setCell ⟨w.heap.size + 1, 0, none⟩ (.int .i64 0)).setCell ⟨w.heap.size + 1, 1, none⟩ (.int .i64 0)).setCell ⟨w.heap.size + 1, 2, none⟩ (.slice none 0 0)) = WF := ⟨_, rfl⟩
  have rF : WF.heap[w.heap.size + 1]? = some (.cells #[.int .i64 0, .int .i64 0, .slice none 0 0] 70 (0, 0)) := by rw [← hWF]; exact blk_set3 HBPW.out _ _ _
  have bF : Below w.heap.size w WF := by
    rw [← hWF]
    exact (((HB0.out.trans (HB1.out.mono (by omega))).setCell (p := ⟨w.heap.size + 1, 0, none⟩) (by show w.heap.size ≤ w.heap.size + 1; omega) _).setCell (p := ⟨w.heap.size + 1, 1, none⟩) (by show w.heap.size ≤ w.heap.size + 1; omega) _).setCell (p := ⟨w.heap.size + 1, 2, none⟩) (by show w.heap.size ≤ w.heap.size + 1; omega) _
  rw [hWF]
  exact bodyPost_ret (v := .tuple #[.agg #[.int .i64 0, .int .i64 0, .slice none 0 0], .int .i64 r]) (results_row_tmp Tryz.results50 _ _ (w.heap.size + 1) 70 _ (0, 0) _ rfl rF Tryz.underlying70 rfl (by kernel_rfl)) rfl ⟨rfl, bF⟩

set_option maxRecDepth 100000 in
set_option maxHeartbeats 3200000 in
theorem turned_bad (W H : Int) (a : Option Addr) (n c : Nat) (r : Int) (hr0 : r ≠ 0) (w : World)
    (hC : ∀ w1 : World, Below w.heap.size w w1 → Calls Tryz.prog 89 #[.agg #[.int .i64 W, .int .i64 H, .slice a n c]] w1 fun e w' => e = .returned (.int .i64 r) ∧ Below w1.heap.size w1 w') :
    Calls Tryz.prog 51 #[.agg #[.int .i64 W, .int .i64 H, .slice a n c]] w fun e w' =>
      e = .returned (.tuple #[.agg #[.int .i64 0, .int .i64 0, .slice none 0 0], .int .i64 r]) ∧ Below w.heap.size w w' := by
  have e0 : (r != 0) = true := by simp [hr0]
  obtain ⟨W0, hW0⟩ : ∃ W0, (w.alloc (.cells #[.int .i64 W, .int .i64 H, .slice a n c] 70)).alloc (.cells #[.int .i64 0, .int .i64 0, .slice none 0 0] 70) = W0 := ⟨_, rfl⟩
  have hB0 : Below w.heap.size w W0 := by rw [← hW0]; exact ((Below.refl _ w).alloc (Nat.le_refl _) _).alloc (by simp) _
  have hS0 : W0.heap.size = w.heap.size + 2 := by rw [← hW0]; simp
  have a0 : W0.cell? ⟨w.heap.size, 0, none⟩ = some (.int .i64 W) := by rw [← hW0]; simp [go_sem]
  have a1 : W0.cell? ⟨w.heap.size, 1, none⟩ = some (.int .i64 H) := by rw [← hW0]; simp [go_sem]
  have a2 : W0.cell? ⟨w.heap.size, 2, none⟩ = some (.slice a n c) := by rw [← hW0]; simp [go_sem]
  have bP0 : W0.heap[w.heap.size + 1]? = some (.cells #[.int .i64 0, .int .i64 0, .slice none 0 0] 70 (0, 0)) := by rw [← hW0]; exact blk_alloc_new1 _ _ _
  have HC := Lib.hid (hC W0 hB0)
  have HB0 := Lib.hid hB0
  have HBP := Lib.hid bP0
  clear hr0 hC hB0 bP0
  go_enter Tryz.func51, Tryz.ntmps51
  go_upto_region 1 with fail
  try rw [hW0]
  clear hW0
  go_wp2_with (first
    | ((go_at_call 89; refine HC.out.mono ?_; rintro e w1 ⟨rfl, hb1⟩
        have hs1 := hb1.size
        have bP := (hb1.block (w.heap.size + 1) (by omega)).trans HBP.out
        have q0 : w1.frozen? ⟨w.heap.size + 1, 0, none⟩ = false := by simp [World.frozen?, bP]
        have q1 : w1.frozen? ⟨w.heap.size + 1, 1, none⟩ = false := by simp [World.frozen?, bP]
        have q2 : w1.frozen? ⟨w.heap.size + 1, 2, none⟩ = false := by simp [World.frozen?, bP]
        have p0 : w1.cell? ⟨w.heap.size + 1, 0, none⟩ = some (.int .i64 0) := by rw [cell_of_row w1 _ 0 _ _ (0, 0) bP]; rfl
        have p1 : w1.cell? ⟨w.heap.size + 1, 1, none⟩ = some (.int .i64 0) := by rw [cell_of_row w1 _ 1 _ _ (0, 0) bP]; rfl
        have p2 : w1.cell? ⟨w.heap.size + 1, 2, none⟩ = some (.slice none 0 0) := by rw [cell_of_row w1 _ 2 _ _ (0, 0) bP]; rfl
        have HBPW := Lib.hid bP
        have HB1 := Lib.hid hb1
        clear bP hb1)))
  obtain ⟨WF, hWF⟩ : ∃ WF, (((w1.setCell ⟨w.heap.size + 1, 0, none⟩ (.int .i64 0)).setCell ⟨w.heap.size + 1, 1, none⟩ (.int .i64 0)).setCell ⟨w.heap.size + 1, 2, none⟩ (.slice none 0 0)) = WF := ⟨_, rfl⟩
  have rF : WF.heap[w.heap.size + 1]? = some (.cells #[.int .i64 0, .int .i64 0, .slice none 0 0] 70 (0, 0)) := by rw [← hWF]; exact blk_set3 HBPW.out _ _ _
  have bF : Below w.heap.size w WF := by
    rw [← hWF]
    exact (((HB0.out.trans (HB1.out.mono (by omega))).setCell (p := ⟨w.heap.size + 1, 0, none⟩) (by show w.heap.size ≤ w.heap.size + 1; omega) _).setCell (p := ⟨w.heap.size + 1, 1, none⟩) (by show w.heap.size ≤ w.heap.size + 1; omega) _).setCell (p := ⟨w.heap.size + 1, 2, none⟩) (by show w.heap.size ≤ w.heap.size + 1; omega) _
  rw [hWF]
  exact bodyPost_ret (v := .tuple #[.agg #[.int .i64 0, .int .i64 0, .slice none 0 0], .int .i64 r]) (results_row_tmp Tryz.results51 _ _ (w.heap.size + 1) 70 _ (0, 0) _ rfl rF Tryz.underlying70 rfl (by kernel_rfl)) rfl ⟨rfl, bF⟩
end Go.Proofs.YthmaoeajbmfmaaaGreatDoor
