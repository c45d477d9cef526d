/-
  Binned where the shape does not fit.
-/
import Derived.Deep.CutBlock
import Derived.Deep.DeepCutAuto
import Derived.Test.YtpmjiifdnnhecaaGreatDoorOaaBo
import Derived.Test.YtpmjiifdnnhecaaGreatDoorOaaBd
import Derived.Test.YtpmjiifdnnhecaaGreatDoorOaaWh
import Derived.Test.YtpmjiifdnnhecaaGreatDoorOaaVa
import Derived.Test.YtpmjiifdnnhecaaGreatDoorOaaXi
import Derived.Test.YtpmjiifdnnhecaaGreatDoorOaaPf
import Derived.Test.YtpmjiifdnnhecaaGreatDoorOaaZk
import Derived.Test.YtpmjiifdnnhecaaGreatDoorOaaZu
import Derived.Test.YtpmjiifdnnhecaaGreatDoorOaaXe
import Derived.Test.YtpmjiifdnnhecaaGreatDoorOaaXg
import Derived.Test.YtpmjiifdnnhecaaGreatDoorOaaWf
import Derived.Test.YtpmjiifdnnhecaaGreatDoorOaaWk
namespace Go.Proofs.YtpmjiifdnnhecaaGreatDoor
open Go.RowKit
set_option linter.unusedVariables false
set_option linter.unusedSimpArgs false

theorem emod_in (x s : Int) (hx : 1 ≤ x ∧ x ≤ 64) (hs : 1 ≤ s ∧ s ≤ 64) : IntKind.i64.wrap (x % s) = x % s := by
  have h1 := Int.emod_nonneg x (show s ≠ 0 by omega)
  have h2 := Int.emod_lt_of_pos x (show 0 < s by omega)
  exact IntWalk.i64_in _ ⟨by omega, by omega⟩
set_option maxRecDepth 100000 in
set_option maxHeartbeats 6400000 in
theorem binned_shape (W H : Int) (a : Option Addr) (n c : Nat) (step : Int) (r1 r : Int) (hr : firstNZ [r1, rangeErr step 1 64] = r) (hr0 : r = 0) (hww : 1 ≤ W ∧ W ≤ 64) (hhh : 1 ≤ H ∧ H ≤ 64) (hss : 1 ≤ step ∧ step ≤ 64) (hne : ¬ (W % step = 0 ∧ H % step = 0)) (w : World)
    (hC : ∀ w1 : World, Below w.heap.size w w1 → Calls Tryz.prog 134 #[.agg #[.int .i64 W, .int .i64 H, .slice a n c]] w1 fun e w' => e = .returned (.int .i64 r1) ∧ Below w1.heap.size w1 w') :
    Calls Tryz.prog 70 #[.agg #[.int .i64 W, .int .i64 H, .slice a n c], .int .i64 step] w fun e w' =>
      e = .returned (.tuple #[.agg #[.int .i64 0, .int .i64 0, .slice none 0 0], .int .i64 2]) ∧ Below w.heap.size w w' := by
  obtain ⟨W0, hW0⟩ : ∃ W0, (((w.alloc (.cells #[.int .i64 W, .int .i64 H, .slice a n c] 121)).alloc (.cells #[.int .i64 step] 3)).alloc (.cells #[.int .i64 0, .int .i64 0, .slice none 0 0] 121)) = W0 := ⟨_, rfl⟩
  have hB0 : Below w.heap.size w W0 := by rw [← hW0]; exact ((((Below.refl _ w).alloc (Nat.le_refl _) _).alloc (by simp) _).alloc (by simp <;> omega) _)
  have hS0 : W0.heap.size = w.heap.size + 3 := by rw [← hW0]; simp
  have b0c0 : W0.cell? ⟨w.heap.size, 0, none⟩ = some (.int .i64 W) := by rw [← hW0]; simp [go_sem]
  have b0c1 : W0.cell? ⟨w.heap.size, 1, none⟩ = some (.int .i64 H) := by rw [← hW0]; simp [go_sem]
  have b0c2 : W0.cell? ⟨w.heap.size, 2, none⟩ = some (.slice a n c) := by rw [← hW0]; simp [go_sem]
  have b1c0 : W0.cell? ⟨w.heap.size + 1, 0, none⟩ = some (.int .i64 step) := by rw [← hW0]; simp [go_sem]
  have bz0 : W0.heap[w.heap.size + 1 + 1]? = some (.cells #[.int .i64 0, .int .i64 0, .slice none 0 0] 121 (0, 0)) := by rw [← hW0]; have h := blk_alloc_new ((w.alloc (.cells #[.int .i64 W, .int .i64 H, .slice a n c] 121)).alloc (.cells #[.int .i64 step] 3)) (.cells #[.int .i64 0, .int .i64 0, .slice none 0 0] 121); simpa using h
  have HB0 := Lib.hid hB0
  have HS0 := Lib.hid hS0
  have HZB := Lib.hid bz0
  have HR := Lib.hid hr
  have HKA : Hid (∀ w1 : World, Blw (w.heap.size + 3) W0 w1 → Calls Tryz.prog 134 #[.agg #[.int .i64 W, .int .i64 H, .slice a n c]] w1 fun e w' => e = .returned (.int .i64 r1) ∧ Below (w.heap.size + 3) W0 w') := Lib.hid fun w1 (h : Below (w.heap.size + 3) W0 w1) => by
    have h1 := h.size
    exact (hC w1 (hB0.trans (h.mono (by omega)))).mono fun e w' ⟨he, hw⟩ => ⟨he, h.trans (hw.mono (by omega))⟩
  have hR : Blw (w.heap.size + 3) W0 W0.drew := show Below _ _ _ from (Below.refl (w.heap.size + 3) W0).drew
  clear hr hC hB0 bz0
  go_enter Tryz.func70, Tryz.ntmps70
  go_upto_region 1 with fail
  try rw [hW0]
  clear hW0
  go_region_held3 (fun w' => w'.cell? ⟨w.heap.size, 0, none⟩ = some (.int .i64 W) ∧ w'.cell? ⟨w.heap.size, 1, none⟩ = some (.int .i64 H) ∧ w'.cell? ⟨w.heap.size, 2, none⟩ = some (.slice a n c) ∧ w'.cell? ⟨w.heap.size + 1, 0, none⟩ = some (.int .i64 step) ∧ Blw (w.heap.size + 3) W0 w')
    (first
      | (go_split_ands; refine ⟨?_, ?_, ?_, ?_, ?_⟩ <;> first | assumption | exact hb1 | ((rw [hb1.cell (by simp; try omega)]; assumption)))
      | (go_split_ands; refine ⟨?_, ?_, ?_, ?_, ?_⟩ <;> first | ((rw [(hb1.alloc (by have := hb1.size; have := HS0.out; omega) _).cell (by simp; try omega)]; assumption)) | exact (hb1.alloc (by have := hb1.size; have := HS0.out; omega) _ : Below _ _ _))
      | go_keep)
    (first
      | (go_at_call 134; refine (HKA.out _ ?_).mono ?_; rotate_left 1; rintro e w' ⟨rfl, hb1⟩; rotate_left 1; (simp [*]))
      | (go_at_call 137; refine (checkSide_any _ _).mono ?_; rintro e w9 ⟨rfl, rfl⟩)
      | ((go_at_call 77; refine (first_any _ 0 2 2 [r1, rangeErr step 1 64] rfl (by omega) _ ?_).mono ?_; rotate_left 1; rintro e w' ⟨rfl, rfl⟩; rw [HR.out]; rotate_left 1; (intro j hj; match j, hj with | 0, _ => simp [go_sem] | 1, _ => simp [go_sem]))))
  obtain ⟨W1, hW1⟩ : ∃ W1, w'.alloc (.cells #[.int .i64 r1, .int .i64 (rangeErr step 1 64)] 26) = W1 := ⟨_, rfl⟩
  have hb3 : Below (w.heap.size + 3) W0 W1 := by rw [← hW1]; exact hb1.alloc (by have := hb1.size; have := HS0.out; omega) _
  rw [hW1]
  clear hW1 hb1
  have hHS := HS0.out
  have u0 := (hb3.cell (p := ⟨w.heap.size, 0, none⟩) (by show w.heap.size < _; omega)).trans b0c0
  have u1 := (hb3.cell (p := ⟨w.heap.size, 1, none⟩) (by show w.heap.size < _; omega)).trans b0c1
  have u2 := (hb3.cell (p := ⟨w.heap.size + 1, 0, none⟩) (by show w.heap.size + 1 < _; omega)).trans b1c0
  have bP := (hb3.block (w.heap.size + 1 + 1) (by omega)).trans HZB.out
  have q0 : W1.frozen? ⟨w.heap.size + 1 + 1, 0, none⟩ = false := by simp [World.frozen?, bP]
  have q1 : W1.frozen? ⟨w.heap.size + 1 + 1, 1, none⟩ = false := by simp [World.frozen?, bP]
  have q2 : W1.frozen? ⟨w.heap.size + 1 + 1, 2, none⟩ = false := by simp [World.frozen?, bP]
  have p0 : W1.cell? ⟨w.heap.size + 1 + 1, 0, none⟩ = some (.int .i64 0) := by rw [cell_of_row W1 _ 0 _ _ (0, 0) bP]; rfl
  have p1 : W1.cell? ⟨w.heap.size + 1 + 1, 1, none⟩ = some (.int .i64 0) := by rw [cell_of_row W1 _ 1 _ _ (0, 0) bP]; rfl
  have p2 : W1.cell? ⟨w.heap.size + 1 + 1, 2, none⟩ = some (.slice none 0 0) := by rw [cell_of_row W1 _ 2 _ _ (0, 0) bP]; rfl
  have HBP := Lib.hid bP
  clear bP
  subst hr0
  have hz : ¬ (step = 0) := by omega
  have hz1 : (step == 0) = false := by simp [hz]
  by_cases h1 : W % step = 0
  · have h2 : H % step ≠ 0 := fun h => hne ⟨h1, h⟩
    have e0 : (W % step != 0) = false := by simp [h1]
    have e1 : (H % step != 0) = true := by simp [h2]
    have w1 : IntKind.i64.wrap (W % step) = W % step := by rw [h1]; rfl
    have w2 : IntKind.i64.wrap (H % step) = H % step := emod_in _ _ hhh (by omega)
    clear h1 h2 hne
    go_wp2_with fail
    obtain ⟨WF, hWF⟩ : ∃ WF, (((W1.setCell ⟨w.heap.size + 1 + 1, 0, none⟩ (.int .i64 0)).setCell ⟨w.heap.size + 1 + 1, 1, none⟩ (.int .i64 0)).setCell ⟨w.heap.size + 1 + 1, 2, none⟩ (.slice none 0 0)) = WF := ⟨_, rfl⟩
    have rF : WF.heap[w.heap.size + 1 + 1]? = some (.cells #[.int .i64 0, .int .i64 0, .slice none 0 0] 121 (0, 0)) := by rw [← hWF]; exact blk_set3 HBP.out _ _ _
    have bF : Below w.heap.size w WF := by rw [← hWF]; exact below_set3 (HB0.out.trans (hb3.mono (by omega))) (by omega) _ _ _
    rw [hWF]
    exact bodyPost_ret (v := .tuple #[.agg #[.int .i64 0, .int .i64 0, .slice none 0 0], .int .i64 2]) (results_row_tmp Tryz.results70 _ _ (w.heap.size + 1 + 1) 121 _ (0, 0) _ rfl rF Tryz.underlying121 rfl (by kernel_rfl)) rfl ⟨rfl, bF⟩
  · have e0 : (W % step != 0) = true := by simp [h1]
    have w1 : IntKind.i64.wrap (W % step) = W % step := emod_in _ _ hww (by omega)
    clear h1 hne
    go_wp2_with fail
    obtain ⟨WF, hWF⟩ : ∃ WF, (((W1.setCell ⟨w.heap.size + 1 + 1, 0, none⟩ (.int .i64 0)).setCell ⟨w.heap.size + 1 + 1, 1, none⟩ (.int .i64 0)).setCell ⟨w.heap.size + 1 + 1, 2, none⟩ (.slice none 0 0)) = WF := ⟨_, rfl⟩
    have rF : WF.heap[w.heap.size + 1 + 1]? = some (.cells #[.int .i64 0, .int .i64 0, .slice none 0 0] 121 (0, 0)) := by rw [← hWF]; exact blk_set3 HBP.out _ _ _
    have bF : Below w.heap.size w WF := by rw [← hWF]; exact below_set3 (HB0.out.trans (hb3.mono (by omega))) (by omega) _ _ _
    rw [hWF]
    exact bodyPost_ret (v := .tuple #[.agg #[.int .i64 0, .int .i64 0, .slice none 0 0], .int .i64 2]) (results_row_tmp Tryz.results70 _ _ (w.heap.size + 1 + 1) 121 _ (0, 0) _ rfl rF Tryz.underlying121 rfl (by kernel_rfl)) rfl ⟨rfl, bF⟩
end Go.Proofs.YtpmjiifdnnhecaaGreatDoor

/-
  LightBins: what Scaled and Binned make of right maps in memory, by their integers.
-/

namespace Go.Proofs.YtpmjiifdnnhecaaGreatDoor
open Go.RowKit Go.Shelf
set_option linter.unusedVariables false
set_option linter.unusedSimpArgs false

theorem kp_set3 {w w1 : World} {l : List (Nat × Obj)} (h : Kp w w1 l) {x y z : Value} {T : TypeId} (a b c : Value) :
    Kp w ((((w1.alloc (.cells #[x, y, z] T)).setCell ⟨w1.heap.size, 0, none⟩ a).setCell ⟨w1.heap.size, 1, none⟩ b).setCell ⟨w1.heap.size, 2, none⟩ c) ((w1.heap.size, .cells #[a, b, c] T (0, 0)) :: l) := by
  have hs : w.heap.size ≤ w1.heap.size := h.1.size
  have k := h.alloc (.cells #[x, y, z] T)
  refine ⟨((k.1.setCell (p := ⟨w1.heap.size, 0, none⟩) hs _).setCell (p := ⟨w1.heap.size, 1, none⟩) hs _).setCell (p := ⟨w1.heap.size, 2, none⟩) hs _, fun p hp => ?_⟩
  rcases List.mem_cons.1 hp with rfl | hp
  · exact blk_set3 (blk_alloc_new _ _) _ _ _
  · have hne : p.1 ≠ w1.heap.size := by have := lt_of_blk (h.2 p hp); omega
    refine (Below.heap_setCell _ _ _ _ hne).trans ((Below.heap_setCell _ _ _ _ hne).trans ((Below.heap_setCell _ _ _ _ hne).trans (k.2 p (.tail _ hp))))
theorem below_new3 {w1 : World} {x y z : Value} {T : TypeId} (a b c : Value) : Below w1.heap.size w1 ((((w1.alloc (.cells #[x, y, z] T)).setCell ⟨w1.heap.size, 0, none⟩ a).setCell ⟨w1.heap.size, 1, none⟩ b).setCell ⟨w1.heap.size, 2, none⟩ c) :=
  ((((Below.refl _ w1).alloc (Nat.le_refl _) _).setCell (p := ⟨w1.heap.size, 0, none⟩) (Nat.le_refl _) _).setCell (p := ⟨w1.heap.size, 1, none⟩) (Nat.le_refl _) _).setCell (p := ⟨w1.heap.size, 2, none⟩) (Nat.le_refl _) _

/-- The error of Binned of a right map by a right step. -/
def binR (W H s : Nat) : Int := if W % s = 0 ∧ H % s = 0 then 0 else 2
theorem rm_binned {w : World} {W H n b o : Nat} {L : List Int} (h : RM w W H n L b o) (c : Nat) (s : Nat) (hs : 1 ≤ s ∧ s ≤ 64) (hsz : W % s = 0 ∧ H % s = 0 → ∀ X Y : Nat, (binTo W L s X Y (placesTo s (s * s))).natAbs ≤ 16384) :
    Calls Tryz.prog 70 #[.agg #[.int .i64 W, .int .i64 H, .slice (some ⟨b, o, none⟩) n c], .int .i64 s] w fun e w' =>
      ∃ X Y a' n' c', e = .returned (.tuple #[.agg #[.int .i64 X, .int .i64 Y, .slice a' n' c'], .int .i64 (binR W H s)]) ∧ ResV w' (binR W H s) ((W / s : Nat) : Int) ((H / s : Nat) : Int) (binK W s (W / s) (H / s) L) X Y a' n' c' ∧ Below w.heap.size w w' := by
  by_cases hd : W % s = 0 ∧ H % s = 0
  · have hz := hsz hd
    have e : binR W H s = 0 := by unfold binR; rw [if_pos hd]
    rw [e]
    have eW : W / s * s = W := by have := Nat.div_add_mod W s; rw [Nat.mul_comm]; omega
    have eH : H / s * s = H := by have := Nat.div_add_mod H s; rw [Nat.mul_comm]; omega
    have hw := h.wid
    have hh := h.hei
    obtain ⟨h1, xs, h2⟩ := h
    have hz2 : ∀ j, j < W / s * (H / s) → ((binK W s (W / s) (H / s) L)[j]?.getD 0).natAbs ≤ 16384 := fun j hj => by rw [binK_get hj]; exact hz _ _
    refine (binned_any W H s (W / s) (H / s) hs.1 hs.2 eW eH b o c n xs L w h2 h1 (fun p => hz p.1 p.2)).mono ?_
    rintro e w' ⟨g, rfl, hg, hc, hb⟩
    refine ⟨_, _, _, _, _, rfl, ResV.some (binK_len ..) (Nat.le_trans (Nat.mul_le_mul (Nat.le_trans (Nat.div_le_self W s) hw.2) (Nat.le_trans (Nat.div_le_self H s) hh.2)) (by decide)) hz2 hg (fun j hj => by rw [binK_get hj]; exact hc j hj), hb⟩
  · have e : binR W H s = 2 := by unfold binR; rw [if_neg hd]
    rw [e]
    have hw := h.wid
    have hh := h.hei
    refine (binned_shape (W : Int) (H : Int) (some ⟨b, o, none⟩) n c (s : Int) 0 0 ?_ rfl (by omega) (by omega) (by omega) (fun hc => hd (by omega)) w (fun w1 hw1 => ?_)).mono ?_
    · rw [rangeErr_in (by omega) (by omega)]; rfl
    · exact rm_lightCheck (h.kept hw1) c
    · rintro e w' ⟨rfl, hb⟩
      exact ⟨0, 0, none, 0, 0, rfl, ResV.none _ _ _ _ _ (by decide), hb⟩
/-- The sums of a bin of a map of at most 160 samples. -/
theorem binTo_small {W s M : Nat} {L : List Int} (hs : 1 ≤ s) (h : ∀ j : Nat, (L[j]?.getD 0 : Int).natAbs ≤ M) (X Y : Nat) : (binTo W L s X Y (placesTo s (s * s))).natAbs ≤ s * (s * M) := by
  rw [binTo_sum2 _ _ hs]
  exact sumTo_bd fun y _ => sumTo_bd fun x _ => h _
end Go.Proofs.YtpmjiifdnnhecaaGreatDoor
