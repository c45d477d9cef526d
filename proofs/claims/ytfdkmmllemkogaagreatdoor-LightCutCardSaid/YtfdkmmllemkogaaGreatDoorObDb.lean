/-
  The errors of spans; what Part and Placed answer for a map, a span, a side or a place with an error.
-/
import Derived.Test.YtfdkmmllemkogaaGreatDoorObKb
import Derived.Test.YtfdkmmllemkogaaGreatDoorOWf
import Derived.Test.YtfdkmmllemkogaaGreatDoorOBd
import Derived.BigQuiet
import Derived.Test.YtfdkmmllemkogaaGreatDoorOWk
import Derived.Test.YtfdkmmllemkogaaGreatDoorOZf
import Derived.Test.YtfdkmmllemkogaaGreatDoorOZh
import Derived.Test.YtfdkmmllemkogaaGreatDoorOWp
import Derived.Test.YtfdkmmllemkogaaGreatDoorOWv
import Derived.Deep.CutBlock
import Derived.Deep.DeepCutAuto
import Derived.Test.YtfdkmmllemkogaaGreatDoorOZr
namespace Go.Proofs.YtfdkmmllemkogaaGreatDoor
open Go.RowKit
set_option linter.unusedVariables false
set_option linter.unusedSimpArgs false

/-- The error of a span that must not be empty. -/
def spanErr (f t l : Int) : Int := if f < 0 ∨ t ≤ f ∨ l < t then 14 else 0

set_option maxHeartbeats 1600000 in
theorem checkSpan_all (f t l : Int) (w : World) :
    Calls Tryz.prog 131 #[.agg #[.int .i64 f, .int .i64 t], .int .i64 l] w fun e w' => e = .returned (.int .i64 (spanErr f t l)) ∧ Below w.heap.size w w' := by
  unfold spanErr
  by_cases h1 : f < 0
  · rw [if_pos (.inl h1)]
    go_enter Tryz.func131, Tryz.ntmps131
    go_wp2
    go_ret
    exact ⟨rfl, (Below.refl _ w).alloc (Nat.le_refl _) _⟩
  by_cases h2 : t ≤ f
  · rw [if_pos (.inr (.inl h2))]
    go_enter Tryz.func131, Tryz.ntmps131
    go_wp2
    go_ret
    exact ⟨rfl, (Below.refl _ w).alloc (Nat.le_refl _) _⟩
  by_cases h3 : l < t
  · rw [if_pos (.inr (.inr h3))]
    go_enter Tryz.func131, Tryz.ntmps131
    go_wp2
    go_ret
    exact ⟨rfl, (Below.refl _ w).alloc (Nat.le_refl _) _⟩
  · rw [if_neg (by omega)]
    go_enter Tryz.func131, Tryz.ntmps131
    go_wp2
    go_ret
    exact ⟨rfl, (Below.refl _ w).alloc (Nat.le_refl _) _⟩

set_option maxRecDepth 100000 in
set_option maxHeartbeats 6400000 in
theorem part_span (W H : Int) (a : Option Addr) (n c : Nat) (cf ct rf rt : Int) (r : Int) (hr : firstNZ [spanErr cf ct W, spanErr rf rt H] = r) (hr0 : r ≠ 0) (w : World)
    (hC : ∀ w1 : World, Below w.heap.size w w1 → Calls Tryz.prog 47 #[.agg #[.int .i64 W, .int .i64 H, .slice a n c]] w1 fun e w' => e = .returned (.int .i64 0) ∧ Below w1.heap.size w1 w') :
    Calls Tryz.prog 49 #[.agg #[.int .i64 W, .int .i64 H, .slice a n c], .agg #[.int .i64 cf, .int .i64 ct], .agg #[.int .i64 rf, .int .i64 rt]] w fun e w' =>
      e = .returned (.tuple #[.agg #[.int .i64 0, .int .i64 0, .slice none 0 0], .int .i64 r]) ∧ Below w.heap.size w w' := by
  have e0 : (r != 0) = true := by simp [hr0]
  obtain ⟨W0, hW0⟩ : ∃ W0, ((((w.alloc (.cells #[.int .i64 W, .int .i64 H, .slice a n c] 54)).alloc (.cells #[.int .i64 cf, .int .i64 ct] 70)).alloc (.cells #[.int .i64 rf, .int .i64 rt] 70)).alloc (.cells #[.int .i64 0, .int .i64 0, .slice none 0 0] 54)) = W0 := ⟨_, rfl⟩
  have hB0 : Below w.heap.size w W0 := by rw [← hW0]; exact (((((Below.refl _ w).alloc (Nat.le_refl _) _).alloc (by simp) _).alloc (by simp <;> omega) _).alloc (by simp <;> omega) _)
  have hS0 : W0.heap.size = w.heap.size + 4 := by rw [← hW0]; simp
  have b0c0 : W0.cell? ⟨w.heap.size, 0, none⟩ = some (.int .i64 W) := by rw [← hW0]; simp [go_sem]
  have b0c1 : W0.cell? ⟨w.heap.size, 1, none⟩ = some (.int .i64 H) := by rw [← hW0]; simp [go_sem]
  have b0c2 : W0.cell? ⟨w.heap.size, 2, none⟩ = some (.slice a n c) := by rw [← hW0]; simp [go_sem]
  have b1c0 : W0.cell? ⟨w.heap.size + 1, 0, none⟩ = some (.int .i64 cf) := by rw [← hW0]; simp [go_sem]
  have b1c1 : W0.cell? ⟨w.heap.size + 1, 1, none⟩ = some (.int .i64 ct) := by rw [← hW0]; simp [go_sem]
  have b2c0 : W0.cell? ⟨w.heap.size + 1 + 1, 0, none⟩ = some (.int .i64 rf) := by rw [← hW0]; simp [go_sem]
  have b2c1 : W0.cell? ⟨w.heap.size + 1 + 1, 1, none⟩ = some (.int .i64 rt) := by rw [← hW0]; simp [go_sem]
  have bz0 : W0.heap[w.heap.size + 1 + 1 + 1]? = some (.cells #[.int .i64 0, .int .i64 0, .slice none 0 0] 54 (0, 0)) := by rw [← hW0]; have h := blk_alloc_new (((w.alloc (.cells #[.int .i64 W, .int .i64 H, .slice a n c] 54)).alloc (.cells #[.int .i64 cf, .int .i64 ct] 70)).alloc (.cells #[.int .i64 rf, .int .i64 rt] 70)) (.cells #[.int .i64 0, .int .i64 0, .slice none 0 0] 54); simpa using h
  have HC := Lib.hid (hC W0 hB0)
  have HB0 := Lib.hid hB0
  have HS0 := Lib.hid hS0
  have HZB := Lib.hid bz0
  have HR := Lib.hid hr
  have KC : Hid (∀ w1 : World, Blw (w.heap.size + 4) W0 w1 → Calls Tryz.prog 131 #[.agg #[.int .i64 cf, .int .i64 ct], .int .i64 W] w1 fun e w' => e = .returned (.int .i64 (spanErr cf ct W)) ∧ Below (w.heap.size + 4) W0 w') := Lib.hid fun w1 (h : Below (w.heap.size + 4) W0 w1) => by
    have h1 := h.size
    exact (checkSpan_all cf ct W w1).mono fun e w' ⟨he, hw⟩ => ⟨he, h.trans (hw.mono (by omega))⟩
  have KR : Hid (∀ w1 : World, Blw (w.heap.size + 4) W0 w1 → Calls Tryz.prog 131 #[.agg #[.int .i64 rf, .int .i64 rt], .int .i64 H] w1 fun e w' => e = .returned (.int .i64 (spanErr rf rt H)) ∧ Below (w.heap.size + 4) W0 w') := Lib.hid fun w1 (h : Below (w.heap.size + 4) W0 w1) => by
    have h1 := h.size
    exact (checkSpan_all rf rt H w1).mono fun e w' ⟨he, hw⟩ => ⟨he, h.trans (hw.mono (by omega))⟩
  clear hr0 hr hC hB0 bz0
  go_enter Tryz.func49, Tryz.ntmps49
  go_upto_region 1 with fail
  try rw [hW0]
  clear hW0
  go_upto_region 4 with (go_at_call 47; refine HC.out.mono ?_; rintro e w1 ⟨rfl, hb1⟩)
  have hb0 : Below (w.heap.size + 4) W0 w1 := hb1.mono (by omega)
  have hR : Blw (w.heap.size + 4) W0 w1.drew := show Below _ _ _ from hb0.drew
  have hRR : Blw (w.heap.size + 4) W0 w1 := hb0
  have u0 := (hb0.cell (p := ⟨w.heap.size, 0, none⟩) (by show w.heap.size < _; omega)).trans b0c0
  have u1 := (hb0.cell (p := ⟨w.heap.size, 1, none⟩) (by show w.heap.size < _; omega)).trans b0c1
  have u2 := (hb0.cell (p := ⟨w.heap.size + 1, 0, none⟩) (by show w.heap.size + 1 < _; omega)).trans b1c0
  have u3 := (hb0.cell (p := ⟨w.heap.size + 1, 1, none⟩) (by show w.heap.size + 1 < _; omega)).trans b1c1
  have u4 := (hb0.cell (p := ⟨w.heap.size + 1 + 1, 0, none⟩) (by show w.heap.size + 1 + 1 < _; omega)).trans b2c0
  have u5 := (hb0.cell (p := ⟨w.heap.size + 1 + 1, 1, none⟩) (by show w.heap.size + 1 + 1 < _; omega)).trans b2c1
  clear hb1
  go_region_held3 (fun w' => w'.cell? ⟨w.heap.size, 0, none⟩ = some (.int .i64 W) ∧ w'.cell? ⟨w.heap.size, 1, none⟩ = some (.int .i64 H) ∧ w'.cell? ⟨w.heap.size + 1, 0, none⟩ = some (.int .i64 cf) ∧ w'.cell? ⟨w.heap.size + 1, 1, none⟩ = some (.int .i64 ct) ∧ w'.cell? ⟨w.heap.size + 1 + 1, 0, none⟩ = some (.int .i64 rf) ∧ w'.cell? ⟨w.heap.size + 1 + 1, 1, none⟩ = some (.int .i64 rt) ∧ Blw (w.heap.size + 4) W0 w')
    (first
      | (go_split_ands; refine ⟨?_, ?_, ?_, ?_, ?_, ?_, ?_⟩ <;> first | (with_reducible assumption) | exact hb2 | ((rw [hb2.cell (by simp; try omega)]; assumption)))
      | (go_split_ands; refine ⟨?_, ?_, ?_, ?_, ?_, ?_, ?_⟩ <;> first | ((rw [(hb2.alloc (by have := hb2.size; have := HS0.out; omega) _).cell (by simp; try omega)]; assumption)) | exact (hb2.alloc (by have := hb2.size; have := HS0.out; omega) _ : Below _ _ _))
      | go_keep)
    (first
      | (go_at_call_of 131 (Value.agg #[.int .i64 cf, .int .i64 ct]); refine (KC.out _ ?_).mono ?_; rotate_left 1; rintro e w' ⟨rfl, hb2⟩; rotate_left 1; (simp [*]))
      | (go_at_call_of 131 (Value.agg #[.int .i64 rf, .int .i64 rt]); refine (KR.out _ ?_).mono ?_; rotate_left 1; rintro e w' ⟨rfl, hb2⟩; rotate_left 1; (simp [*]))
      | ((go_at_call 109; refine (first_any _ 0 2 2 [spanErr cf ct W, spanErr rf rt H] rfl (by omega) _ ?_).mono ?_; rotate_left 1; rintro e w' ⟨rfl, rfl⟩; rw [HR.out]; rotate_left 1; (intro j hj; match j, hj with | 0, _ => simp [go_sem] | 1, _ => simp [go_sem]))))
  obtain ⟨W1, hW1⟩ : ∃ W1, w'.alloc (.cells #[.int .i64 (spanErr cf ct W), .int .i64 (spanErr rf rt H)] 26) = W1 := ⟨_, rfl⟩
  have hb3 : Below (w.heap.size + 4) W0 W1 := by rw [← hW1]; exact hb2.alloc (by have := hb2.size; have := HS0.out; omega) _
  rw [hW1]
  clear hW1
  have hHS := HS0.out
  have bP := (hb3.block (w.heap.size + 1 + 1 + 1) (by omega)).trans HZB.out
  have q0 : W1.frozen? ⟨w.heap.size + 1 + 1 + 1, 0, none⟩ = false := by simp [World.frozen?, bP]
  have q1 : W1.frozen? ⟨w.heap.size + 1 + 1 + 1, 1, none⟩ = false := by simp [World.frozen?, bP]
  have q2 : W1.frozen? ⟨w.heap.size + 1 + 1 + 1, 2, none⟩ = false := by simp [World.frozen?, bP]
  have p0 : W1.cell? ⟨w.heap.size + 1 + 1 + 1, 0, none⟩ = some (.int .i64 0) := by rw [cell_of_row W1 _ 0 _ _ (0, 0) bP]; rfl
  have p1 : W1.cell? ⟨w.heap.size + 1 + 1 + 1, 1, none⟩ = some (.int .i64 0) := by rw [cell_of_row W1 _ 1 _ _ (0, 0) bP]; rfl
  have p2 : W1.cell? ⟨w.heap.size + 1 + 1 + 1, 2, none⟩ = some (.slice none 0 0) := by rw [cell_of_row W1 _ 2 _ _ (0, 0) bP]; rfl
  have HBP := Lib.hid bP
  clear bP
  clear u0 u1 u2 u3 u4 u5
  go_wp2_with fail
  obtain ⟨WF, hWF⟩ : ∃ WF, (((W1.setCell ⟨w.heap.size + 1 + 1 + 1, 0, none⟩ (.int .i64 0)).setCell ⟨w.heap.size + 1 + 1 + 1, 1, none⟩ (.int .i64 0)).setCell ⟨w.heap.size + 1 + 1 + 1, 2, none⟩ (.slice none 0 0)) = WF := ⟨_, rfl⟩
  have rF : WF.heap[w.heap.size + 1 + 1 + 1]? = some (.cells #[.int .i64 0, .int .i64 0, .slice none 0 0] 54 (0, 0)) := by rw [← hWF]; exact blk_set3 HBP.out _ _ _
  have bF : Below w.heap.size w WF := by rw [← hWF]; exact below_set3 (HB0.out.trans (hb3.mono (by omega))) (by omega) _ _ _
  rw [hWF]
  exact bodyPost_ret (v := .tuple #[.agg #[.int .i64 0, .int .i64 0, .slice none 0 0], .int .i64 r]) (results_row_tmp Tryz.results49 _ _ (w.heap.size + 1 + 1 + 1) 54 _ (0, 0) _ rfl rF Tryz.underlying54 rfl (by kernel_rfl)) rfl ⟨rfl, bF⟩

end Go.Proofs.YtfdkmmllemkogaaGreatDoor

/-
  Contracts of Part and Placed for every map, every spans, sides and place; the reference's.
-/
namespace Go.Proofs.YtfdkmmllemkogaaGreatDoor
open Go.RowKit
set_option linter.unusedVariables false
set_option linter.unusedSimpArgs false

theorem spanErr_zero {f t l : Int} (h : spanErr f t l = 0) : 0 ≤ f ∧ f < t ∧ t ≤ l := by
  unfold spanErr at h
  split at h
  · cases h
  · omega
def placedOk (W H ww hh px py : Int) : Prop := 0 ≤ px ∧ px ≤ ww - W ∧ 0 ≤ py ∧ py ≤ hh - H
instance (W H ww hh px py : Int) : Decidable (placedOk W H ww hh px py) := by unfold placedOk; infer_instance
end Go.Proofs.YtfdkmmllemkogaaGreatDoor

/-
  What Part, At, Peak, Placed and Added make of right maps in memory, by their integers.
-/

namespace Go.Proofs.YtfdkmmllemkogaaGreatDoor
open Go.RowKit
set_option linter.unusedVariables false
set_option linter.unusedSimpArgs false

theorem spanErr_cases (f t l : Int) : spanErr f t l = 0 ∨ spanErr f t l = 14 := by
  unfold spanErr; split
  · exact .inr rfl
  · exact .inl rfl
theorem rm_part_none {w : World} {W H n b o : Nat} {L : List Int} (h : RM w W H n L b o) (c : Nat) (c0 c1 r0 r1 : Int) (he : c0 = c1 ∨ r0 = r1) :
    Calls Tryz.prog 49 #[.agg #[.int .i64 W, .int .i64 H, .slice (some ⟨b, o, none⟩) n c], .agg #[.int .i64 c0, .int .i64 c1], .agg #[.int .i64 r0, .int .i64 r1]] w fun e w' =>
      e = .returned (.tuple #[.agg #[.int .i64 0, .int .i64 0, .slice none 0 0], .int .i64 14]) ∧ Below w.heap.size w w' := by
  refine part_span W H _ n c c0 c1 r0 r1 14 ?_ (by decide) w fun w1 h1 => ?_
  · rcases spanErr_cases c0 c1 W with e1 | e1
    · rcases spanErr_cases r0 r1 H with e2 | e2
      · exfalso
        have k1 := spanErr_zero e1
        have k2 := spanErr_zero e2
        omega
      · rw [e1, e2]; rfl
    · rw [e1]; rfl
  · exact rm_lightCheck (h.kept h1) c

theorem rm_at {w : World} {W H n b o : Nat} {L : List Int} (h : RM w W H n L b o) (c : Nat) {X Y : Nat} (hX : X < W) (hY : Y < H) :
    Calls Tryz.prog 37 #[.agg #[.int .i64 W, .int .i64 H, .slice (some ⟨b, o, none⟩) n c], .agg #[.int .i64 X, .int .i64 Y]] w fun e w' =>
      e = .returned (.tuple #[.float .f32 (smpOf (L[Y * W + X]?.getD 0)), .int .i64 0]) ∧ Below w.heap.size w w' := by
  obtain ⟨h1, xs, h2⟩ := h
  exact lightAt_any W H b o n c xs L w h2 h1 X Y hX hY
theorem rm_peak {w : World} {W H n b o : Nat} {L : List Int} (h : RM w W H n L b o) (c : Nat) :
    Calls Tryz.prog 40 #[.agg #[.int .i64 W, .int .i64 H, .slice (some ⟨b, o, none⟩) n c]] w fun e w' =>
      e = .returned (.tuple #[.float .f32 (smpOf (L[pkTo L n]?.getD 0)), .agg #[.int .i64 ((pkTo L n % W : Nat) : Int), .int .i64 ((pkTo L n / W : Nat) : Int)], .int .i64 0]) ∧ Below w.heap.size w w' := by
  have ha := h.area
  have hw := h.wid
  obtain ⟨h1, xs, h2⟩ := h
  have k := peak_any W H b o c n xs L w h2 h1
  rw [ha, peakTo_pk W L (by omega) n] at k
  have e : pkTo L n / W * W + pkTo L n % W = pkTo L n := by rw [Nat.mul_comm]; exact Nat.div_add_mod _ _
  dsimp only at k
  rw [e] at k
  exact k

/-- The integers of a map that is placed. -/
def placeK (W H PX PY WW N : Nat) (L : List Int) : List Int := (List.range N).map (fun j => placedK W H PX PY L (j % WW, j / WW))
theorem placeK_get {W H PX PY WW N : Nat} {L : List Int} {j : Nat} (hj : j < N) : (placeK W H PX PY WW N L)[j]?.getD 0 = placedK W H PX PY L (j % WW, j / WW) := by
  unfold placeK; rw [List.getElem?_map, List.getElem?_range hj]; rfl
theorem rm_placed_res {w : World} {W H n b o : Nat} {L : List Int} (h : RM w W H n L b o) (c : Nat) {WW HH PX PY N : Nat} (hX : PX + W ≤ WW) (hY : PY + H ≤ HH) (hWW : WW ≤ 64) (hHH : HH ≤ 64) (hN : HH * WW = N) :
    Calls Tryz.prog 50 #[.agg #[.int .i64 W, .int .i64 H, .slice (some ⟨b, o, none⟩) n c], .int .i64 WW, .int .i64 HH, .agg #[.int .i64 PX, .int .i64 PY]] w fun e w' =>
      ∃ g, e = .returned (.tuple #[.agg #[.int .i64 WW, .int .i64 HH, .slice (some ⟨g, 0, none⟩) N N], .int .i64 0]) ∧ ResV w' 0 (WW : Int) (HH : Int) (placeK W H PX PY WW N L) (WW : Int) (HH : Int) (some ⟨g, 0, none⟩) N N ∧ Below w.heap.size w w' := by
  have ha := h.area
  have hsz := h.sizes
  obtain ⟨h1, xs, h2⟩ := h
  have hN' : WW * HH = N := by rw [Nat.mul_comm]; exact hN
  have k := placed_any W H WW HH PX PY hX hY hWW hHH b o c n xs L w h2 h1
  rw [hN'] at k
  refine k.mono ?_
  rintro e w' ⟨g, he, hg, hcell, hb⟩
  refine ⟨g, he, ResV.some (by simp [placeK]) (by rw [← hN]; exact Nat.le_trans (Nat.mul_le_mul hHH hWW) (by decide)) (fun j hj => ?_) hg (fun j hj => by rw [placeK_get hj]; exact hcell j hj), hb⟩
  rw [placeK_get hj]
  unfold placedK
  split
  · rename_i hin
    exact hsz _ (by rw [← ha]; exact place_in (by omega) (by omega))
  · simp
theorem rm_part_res {w : World} {W H n b o : Nat} {L : List Int} (h : RM w W H n L b o) (c : Nat) {C0 DW R0 DH N : Nat} (hC : 1 ≤ DW ∧ C0 + DW ≤ W) (hR : 1 ≤ DH ∧ R0 + DH ≤ H) (c1 r1 : Int) (hc : c1 = (C0 : Int) + (DW : Int)) (hr : r1 = (R0 : Int) + (DH : Int)) (hN : DW * DH = N) :
    Calls Tryz.prog 49 #[.agg #[.int .i64 W, .int .i64 H, .slice (some ⟨b, o, none⟩) n c], .agg #[.int .i64 C0, .int .i64 c1], .agg #[.int .i64 R0, .int .i64 r1]] w fun e w' =>
      ∃ g, e = .returned (.tuple #[.agg #[.int .i64 DW, .int .i64 DH, .slice (some ⟨g, 0, none⟩) N N], .int .i64 0]) ∧ ResV w' 0 (DW : Int) (DH : Int) (pieceK W C0 DW R0 DH L) (DW : Int) (DH : Int) (some ⟨g, 0, none⟩) N N ∧ Below w.heap.size w w' := by
  have hw := h.wid
  have hh := h.hei
  have ha := h.area
  have hsz := h.sizes
  obtain ⟨h1, xs, h2⟩ := h
  subst hc hr
  have k := part_any W H C0 DW R0 DH hC hR b o c n xs L w h2 h1
  refine k.mono ?_
  rw [hN]
  rintro e w' ⟨g, he, hg, hcell, hb⟩
  refine ⟨g, he, ResV.some (by rw [pieceK_len]; exact hN) (by rw [← hN]; exact Nat.le_trans (Nat.mul_le_mul (show DW ≤ 64 by omega) (show DH ≤ 64 by omega)) (by decide)) (fun j hj => ?_) hg (fun j hj => by rw [pieceK_get (by omega)]; exact hcell j hj), hb⟩
  rw [pieceK_get (by omega)]
  have hx : j % DW < DW := Nat.mod_lt _ (by omega)
  have hy : j / DW < DH := (Nat.div_lt_iff_lt_mul (by omega)).2 (by rw [Nat.mul_comm DH DW]; omega)
  exact hsz _ (by rw [← ha]; exact place_in (by omega) (by omega))

/-- The sums of two lists of integers. -/
def addK (n : Nat) (L M : List Int) : List Int := (List.range n).map (fun j => L[j]?.getD 0 + M[j]?.getD 0)
theorem addK_get {n : Nat} {L M : List Int} {j : Nat} (hj : j < n) : (addK n L M)[j]?.getD 0 = L[j]?.getD 0 + M[j]?.getD 0 := by
  unfold addK; rw [List.getElem?_map, List.getElem?_range hj]; rfl
theorem rm_added {w : World} {W H n b o b' o' : Nat} {L M : List Int} (h : RM w W H n L b o) (h' : RM w W H n M b' o') (c c' : Nat) (hs : ∀ j, j < n → (L[j]?.getD 0 + M[j]?.getD 0 : Int).natAbs ≤ 16384) :
    GivesMap 58 #[.agg #[.int .i64 W, .int .i64 H, .slice (some ⟨b, o, none⟩) n c], .agg #[.int .i64 W, .int .i64 H, .slice (some ⟨b', o', none⟩) n c']] w W H n (addK n L M) := by
  have hw := h.wid
  have hh := h.hei
  have ha := h.area
  have hn := h.small
  have hl := h.len
  have hl' := h'.len
  obtain ⟨h1, xs, h2⟩ := h
  obtain ⟨g1, ys, g2⟩ := h'
  refine (added_any W H b o c b' o' c' n xs ys L M w h2 g2 h1 g1 (fun j => ?_)).mono ?_
  · by_cases hj : j < n
    · exact hs j hj
    · rw [List.getElem?_eq_none (by omega), List.getElem?_eq_none (by omega)]; decide
  · rintro e w' ⟨g, he, hg, hcell, hb⟩
    exact ⟨g, he, RM.of_cells (by simp [addK]) hn (fun j hj => by rw [addK_get hj]; exact hs j hj) (by omega) (by omega) ha hg (fun j hj => by rw [addK_get hj]; exact hcell j hj), hb⟩
/-- What was covered, and the placed part, is what is covered then. -/
theorem cov_placed {W H n C0 DW R0 DH : Nat} (hn : H * W = n) (hC : C0 + DW ≤ W) (hR : R0 + DH ≤ H) (L : List Int) :
    addK n (covK W n C0 (C0 + DW) R0 L) (placeK DW DH C0 R0 W n (pieceK W C0 DW R0 DH L)) = covK W n C0 (C0 + DW) (R0 + DH) L := by
  refine List.ext_getElem (by simp [addK, covK]) fun i h1 h2 => ?_
  have hi : i < n := by simpa [addK] using h1
  have k := cov_add hn hC hR L hi
  have e := addK_get (L := covK W n C0 (C0 + DW) R0 L) (M := placeK DW DH C0 R0 W n (pieceK W C0 DW R0 DH L)) hi
  rw [placeK_get hi, k, List.getElem?_eq_getElem h1, List.getElem?_eq_getElem h2] at e
  exact e
end Go.Proofs.YtfdkmmllemkogaaGreatDoor

/-
  Bytes in memory; blocks that lie in a world through calls, allocations and stores.
-/

namespace Go.Proofs.YtfdkmmllemkogaaGreatDoor
open Go.RowKit
set_option linter.unusedVariables false
set_option linter.unusedSimpArgs false

def BytesV (S : List Int) (n : Nat) : Prop := S.length = n ∧ ∀ v ∈ S, 0 ≤ v ∧ v ≤ 255
def AnyBytes (w : World) (a : Option Addr) (n : Nat) (S : List Int) : Prop := BytesV S n ∧ ∀ j, j < n → ∃ b q, a = some ⟨b, q, none⟩ ∧ b < w.heap.size ∧ w.rangeAt b q (S.map (Value.int .u8))
theorem AnyBytes.kept {w w' : World} {a : Option Addr} {n : Nat} {S : List Int} (h : AnyBytes w a n S) (hb : Below w.heap.size w w') : AnyBytes w' a n S :=
  ⟨h.1, fun j hj => by
    obtain ⟨b, q, e, h1, h2⟩ := h.2 j hj
    exact ⟨b, q, e, Nat.lt_of_lt_of_le h1 hb.size, fun i v hv => by rw [hb.cell (by exact h1)]; exact h2 i v hv⟩⟩

/-- These blocks lie so, and nothing below has changed. -/
def Kp (w w' : World) (l : List (Nat × Obj)) : Prop := Below w.heap.size w w' ∧ ∀ p ∈ l, w'.heap[p.1]? = some p.2
theorem Kp.none (w : World) : Kp w w [] := ⟨Below.refl _ _, fun p h => nomatch h⟩
theorem Kp.call {w w1 w2 : World} {l : List (Nat × Obj)} (h : Kp w w1 l) (hb : Below w1.heap.size w1 w2) : Kp w w2 l :=
  ⟨h.1.trans (hb.mono h.1.size), fun p hp => (hb.block _ (lt_of_blk (h.2 p hp))).trans (h.2 p hp)⟩
theorem Kp.kept {w w1 w2 : World} {l : List (Nat × Obj)} (h : Kp w w1 l) (hb : Below w.heap.size w w2) (hq : ∀ p ∈ l, w2.heap[p.1]? = w1.heap[p.1]?) : Kp w w2 l :=
  ⟨hb, fun p hp => (hq p hp).trans (h.2 p hp)⟩
theorem Kp.alloc {w w1 : World} {l : List (Nat × Obj)} (h : Kp w w1 l) (o : Obj) : Kp w (w1.alloc o) ((w1.heap.size, o) :: l) :=
  ⟨h.1.alloc h.1.size o, fun p hp => by
    rcases List.mem_cons.1 hp with rfl | hp
    · exact blk_alloc_new _ _
    · exact blk_alloc_other (h.2 p hp) o⟩
theorem Kp.setHead {w w1 : World} {l : List (Nat × Obj)} {g : Nat} {cur : Array Value} {T : TypeId} (h : Kp w w1 ((g, .cells cur T (0, 0)) :: l)) (cs : Array Value) (hg : w.heap.size ≤ g) (hne : ∀ p ∈ l, p.1 ≠ g) :
    Kp w (w1.setRow g cs) ((g, .cells cs T (0, 0)) :: l) :=
  ⟨h.1.trans ((OnlyBlk.setRow w1 g cs).below h.1.size hg), fun p hp => by
    rcases List.mem_cons.1 hp with rfl | hp
    · exact setRow_heap w1 _ _ _ _ _ (h.2 _ (.head _))
    · exact ((OnlyBlk.setRow w1 g cs).1.block _ (lt_of_blk (h.2 p (.tail _ hp))) (by intro e; exact hne p hp (Option.some.inj e))).trans (h.2 p (.tail _ hp))⟩

theorem Kp.stored {w w1 : World} {l : List (Nat × Obj)} (h : Kp w w1 l) (cur cs : Array Value) (T : TypeId) : Kp w ((w1.alloc (.cells cur T)).setRow w1.heap.size cs) ((w1.heap.size, .cells cs T) :: l) :=
  (h.alloc (.cells cur T)).setHead cs h.1.size (fun p hp => Nat.ne_of_lt (lt_of_blk (h.2 p hp)))

theorem Kp.below {w w1 : World} {l : List (Nat × Obj)} (h : Kp w w1 l) : Below w.heap.size w w1 := h.1
end Go.Proofs.YtfdkmmllemkogaaGreatDoor

/-
  What serves every walk: the code from a region on, blocks that are kept, cells of a block.
-/
namespace Go.Proofs.YtfdkmmllemkogaaGreatDoor
open Go.RowKit Go.Shelf
set_option linter.unusedVariables false
set_option linter.unusedSimpArgs false

def headsC (n : Nat) : Code → Bool
  | .region m _ _ => m == n
  | .seq a _ => headsC n a
  | _ => false
def tailC (n : Nat) : Code → Option Code
  | .seq a b => if headsC n a then some (.seq a b) else match tailC n b with
    | some c => some c
    | none => tailC n a
  | .block _ c => tailC n c
  | .scope c => tailC n c
  | .loop c => tailC n c
  | .cond _ a b => match tailC n a with
    | some c => some c
    | none => tailC n b
  | c => if headsC n c then some c else none
theorem Kp.subs {w w1 : World} {l m : List (Nat × Obj)} (h : Kp w w1 l) (hs : ∀ p ∈ m, p ∈ l) : Kp w w1 m := ⟨h.1, fun p hp => h.2 p (hs p hp)⟩
theorem cells3 {w : World} {B : Nat} {T : TypeId} {x y z : Value} (h : w.heap[B]? = some (.cells #[x, y, z] T (0, 0))) :
    w.cell? ⟨B, 0, none⟩ = some x ∧ w.cell? ⟨B, 1, none⟩ = some y ∧ w.cell? ⟨B, 2, none⟩ = some z :=
  ⟨by rw [cell_of_row w _ 0 _ _ (0, 0) h]; rfl, by rw [cell_of_row w _ 1 _ _ (0, 0) h]; rfl, by rw [cell_of_row w _ 2 _ _ (0, 0) h]; rfl⟩
theorem cells2 {w : World} {B : Nat} {T : TypeId} {x y : Value} (h : w.heap[B]? = some (.cells #[x, y] T (0, 0))) :
    w.cell? ⟨B, 0, none⟩ = some x ∧ w.cell? ⟨B, 1, none⟩ = some y :=
  ⟨by rw [cell_of_row w _ 0 _ _ (0, 0) h]; rfl, by rw [cell_of_row w _ 1 _ _ (0, 0) h]; rfl⟩
theorem Kp.swap {w w1 : World} {a b : Nat × Obj} {l : List (Nat × Obj)} (h : Kp w w1 (a :: b :: l)) : Kp w w1 (b :: a :: l) := h.subs fun p hp => by
  rcases List.mem_cons.1 hp with rfl | hp
  · exact .tail _ (.head _)
  · rcases List.mem_cons.1 hp with rfl | hp
    · exact .head _
    · exact .tail _ (.tail _ hp)
theorem Kp.swap2 {w w1 : World} {a b c : Nat × Obj} {l : List (Nat × Obj)} (h : Kp w w1 (a :: b :: c :: l)) : Kp w w1 (a :: c :: b :: l) := h.subs fun p hp => by
  rcases List.mem_cons.1 hp with rfl | hp
  · exact .head _
  · rcases List.mem_cons.1 hp with rfl | hp
    · exact .tail _ (.tail _ (.head _))
    · rcases List.mem_cons.1 hp with rfl | hp
      · exact .tail _ (.head _)
      · exact .tail _ (.tail _ (.tail _ hp))
theorem Kp.drop1 {w w1 : World} {a b : Nat × Obj} {l : List (Nat × Obj)} (h : Kp w w1 (a :: b :: l)) : Kp w w1 (a :: l) := h.subs fun p hp => by
  rcases List.mem_cons.1 hp with rfl | hp
  · exact .head _
  · exact .tail _ (.tail _ hp)
theorem Kp.cons {w w1 : World} {l : List (Nat × Obj)} (h : Kp w w1 l) {B : Nat} {O : Obj} (hB : w1.heap[B]? = some O) : Kp w w1 ((B, O) :: l) := ⟨h.1, fun p hp => by
  rcases List.mem_cons.1 hp with rfl | hp
  · exact hB
  · exact h.2 p hp⟩
end Go.Proofs.YtfdkmmllemkogaaGreatDoor
