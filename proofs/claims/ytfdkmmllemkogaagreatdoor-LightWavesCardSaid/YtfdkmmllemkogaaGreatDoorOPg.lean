/-
  What Four and Unfour answer where a number has an error.
-/
import Derived.Test.YtfdkmmllemkogaaGreatDoorOPf
import Derived.Test.YtfdkmmllemkogaaGreatDoorOBv
namespace Go.Proofs.YtfdkmmllemkogaaGreatDoor
open Go.RowKit
set_option linter.unusedVariables false
set_option linter.unusedSimpArgs false

attribute [local go_sem] store_complex store_float4
set_option maxRecDepth 100000 in
set_option maxHeartbeats 3200000 in
theorem four_bad (x0 x1 x2 x3 : Nat) (HX : ∀ j, j < 4 → ([x0, x1, x2, x3] : List Nat)[j]?.getD 0 < 2 ^ 32) (r : Int) (hr : firstNZ (([x0, x1, x2, x3] : List Nat).map smpErr) = r) (h0 : r ≠ 0) (w : World) :
    Calls Tryz.prog 68 #[.agg #[.float .f32 x0, .float .f32 x1, .float .f32 x2, .float .f32 x3]] w fun e w' =>
      e = .returned (.tuple #[.agg #[.complex .f32 0 0, .complex .f32 0 0, .complex .f32 0 0, .complex .f32 0 0], .int .i64 r]) ∧ Below w.heap.size w w' := by
  obtain ⟨W0, hW0⟩ : ∃ W0, (w.alloc (.cells #[.float .f32 x0, .float .f32 x1, .float .f32 x2, .float .f32 x3] 92)).alloc (.cells #[.complex .f32 0 0, .complex .f32 0 0, .complex .f32 0 0, .complex .f32 0 0] 95) = W0 := ⟨_, rfl⟩
  have hB0 : Below w.heap.size w W0 := by rw [← hW0]; exact ((Below.refl _ w).alloc (Nat.le_refl _) _).alloc (by simp) _
  have hS0 : W0.heap.size = w.heap.size + 2 := by rw [← hW0]; simp
  have bX : W0.heap[w.heap.size]? = some (.cells #[.float .f32 x0, .float .f32 x1, .float .f32 x2, .float .f32 x3] 92 (0, 0)) := by
    rw [← hW0]; exact blk_alloc_other (blk_alloc_new _ _) _
  have bY : W0.heap[w.heap.size + 1]? = some (.cells #[.complex .f32 0 0, .complex .f32 0 0, .complex .f32 0 0, .complex .f32 0 0] 95 (0, 0)) := by
    rw [← hW0]; exact blk_alloc_new1 w _ _
  have cX : ∀ j, j < 4 → W0.cell? ⟨w.heap.size, 0 + j, none⟩ = some (.float .f32 (([x0, x1, x2, x3] : List Nat)[j]?.getD 0)) := fun j hj => by
    rw [Nat.zero_add, cell_of_row _ _ j _ _ (0, 0) bX]
    match j, hj with
    | 0, _ => rfl
    | 1, _ => rfl
    | 2, _ => rfl
    | 3, _ => rfl
  have K1 := Lib.hid (mapped_all w.heap.size 0 4 4 [x0, x1, x2, x3] rfl (by decide) (by omega) cX HX)
  have HB0 := Lib.hid hB0
  have HS0 := Lib.hid hS0
  have HY0 := Lib.hid bY
  have HRR := Lib.hid hr
  have hne : (r != 0) = true := by simp [h0]
  clear HX cX hB0 bX bY hS0 hr h0
  go_enter Tryz.func68, Tryz.ntmps68
  go_upto_region 1 with fail
  try rw [hW0]
  clear hW0
  go_upto_region 3 with (first
    | (go_at_call 130; refine K1.out.mono ?_; rintro e w1 ⟨rfl, hown1, hb1⟩)
    | (go_at_call 109; refine (first_any _ 0 4 4 (([x0, x1, x2, x3] : List Nat).map smpErr) rfl (by omega) _ (fun j hj => by
        rw [Nat.zero_add]
        refine owns_cell hown1 ?_
        match j, hj with
        | 0, _ => rfl
        | 1, _ => rfl
        | 2, _ => rfl
        | 3, _ => rfl)).mono ?_; rw [HRR.out]; rintro e w9 ⟨rfl, rfl⟩))
  have hY := (hb1.block _ (lt_of_blk HY0.out)).trans HY0.out
  have y0 : w1.cell? ⟨w.heap.size + 1, 0, none⟩ = some (.complex .f32 0 0) := by rw [cell_of_row _ _ 0 _ _ (0, 0) hY]; rfl
  have y1 : w1.cell? ⟨w.heap.size + 1, 1, none⟩ = some (.complex .f32 0 0) := by rw [cell_of_row _ _ 1 _ _ (0, 0) hY]; rfl
  have y2 : w1.cell? ⟨w.heap.size + 1, 2, none⟩ = some (.complex .f32 0 0) := by rw [cell_of_row _ _ 2 _ _ (0, 0) hY]; rfl
  have y3 : w1.cell? ⟨w.heap.size + 1, 3, none⟩ = some (.complex .f32 0 0) := by rw [cell_of_row _ _ 3 _ _ (0, 0) hY]; rfl
  have yf0 : w1.frozen? ⟨w.heap.size + 1, 0, none⟩ = false := by simp [World.frozen?, hY]
  have yf1 : w1.frozen? ⟨w.heap.size + 1, 1, none⟩ = false := by simp [World.frozen?, hY]
  have yf2 : w1.frozen? ⟨w.heap.size + 1, 2, none⟩ = false := by simp [World.frozen?, hY]
  have yf3 : w1.frozen? ⟨w.heap.size + 1, 3, none⟩ = false := by simp [World.frozen?, hY]
  have HYY := Lib.hid hY
  have HBB := Lib.hid (HB0.out.trans (hb1.mono (by have := HS0.out; omega)))
  clear hown1 hb1 hY
  go_wp2_with fail
  (try simp only [Exit.inBlock, Exit.then])
  have hF := blk_set4u HYY.out (.complex .f32 0 0) (.complex .f32 0 0) (.complex .f32 0 0) (.complex .f32 0 0)
  refine bodyPost_ret (results_row_tmp rfl _ _ (w.heap.size + 1) 95 _ (0, 0) _ rfl hF Tryz.underlying95 rfl (by kernel_rfl)) rfl ?_
  exact ⟨rfl, (((HBB.out.setCell (p := ⟨w.heap.size + 1, 0, none⟩) (by show w.heap.size ≤ w.heap.size + 1; omega) _).setCell (p := ⟨w.heap.size + 1, 1, none⟩) (by show w.heap.size ≤ w.heap.size + 1; omega) _).setCell (p := ⟨w.heap.size + 1, 2, none⟩) (by show w.heap.size ≤ w.heap.size + 1; omega) _).setCell (p := ⟨w.heap.size + 1, 3, none⟩) (by show w.heap.size ≤ w.heap.size + 1; omega) _⟩

set_option maxRecDepth 100000 in
set_option maxHeartbeats 3200000 in
theorem unfour_err (x0 y0 x1 y1 x2 y2 x3 y3 : Nat) (HX : ∀ j, j < 4 → (([(x0, y0), (x1, y1), (x2, y2), (x3, y3)] : List (Nat × Nat))[j]?.getD (0, 0)).1 < 2 ^ 32 ∧ (([(x0, y0), (x1, y1), (x2, y2), (x3, y3)] : List (Nat × Nat))[j]?.getD (0, 0)).2 < 2 ^ 32) (r : Int) (hr : firstNZ (([(x0, y0), (x1, y1), (x2, y2), (x3, y3)] : List (Nat × Nat)).map (fun z => numErr z.1 z.2)) = r) (h0 : r ≠ 0) (w : World) :
    Calls Tryz.prog 69 #[.agg #[.complex .f32 x0 y0, .complex .f32 x1 y1, .complex .f32 x2 y2, .complex .f32 x3 y3]] w fun e w' =>
      e = .returned (.tuple #[.agg #[.float .f32 0, .float .f32 0, .float .f32 0, .float .f32 0], .int .i64 r]) ∧ Below w.heap.size w w' := by
  obtain ⟨W0, hW0⟩ : ∃ W0, (w.alloc (.cells #[.complex .f32 x0 y0, .complex .f32 x1 y1, .complex .f32 x2 y2, .complex .f32 x3 y3] 95)).alloc (.cells #[.float .f32 0, .float .f32 0, .float .f32 0, .float .f32 0] 92) = W0 := ⟨_, rfl⟩
  have hB0 : Below w.heap.size w W0 := by rw [← hW0]; exact ((Below.refl _ w).alloc (Nat.le_refl _) _).alloc (by simp) _
  have hS0 : W0.heap.size = w.heap.size + 2 := by rw [← hW0]; simp
  have bX : W0.heap[w.heap.size]? = some (.cells #[.complex .f32 x0 y0, .complex .f32 x1 y1, .complex .f32 x2 y2, .complex .f32 x3 y3] 95 (0, 0)) := by
    rw [← hW0]; exact blk_alloc_other (blk_alloc_new _ _) _
  have bY : W0.heap[w.heap.size + 1]? = some (.cells #[.float .f32 0, .float .f32 0, .float .f32 0, .float .f32 0] 92 (0, 0)) := by
    rw [← hW0]; exact blk_alloc_new1 w _ _
  have cX : ∀ j, j < 4 → W0.cell? ⟨w.heap.size, 0 + j, none⟩ = some (.complex .f32 (([(x0, y0), (x1, y1), (x2, y2), (x3, y3)] : List (Nat × Nat))[j]?.getD (0, 0)).1 (([(x0, y0), (x1, y1), (x2, y2), (x3, y3)] : List (Nat × Nat))[j]?.getD (0, 0)).2) := fun j hj => by
    rw [Nat.zero_add, cell_of_row _ _ j _ _ (0, 0) bX]
    match j, hj with
    | 0, _ => rfl
    | 1, _ => rfl
    | 2, _ => rfl
    | 3, _ => rfl
  have K1 := Lib.hid (mapped_num w.heap.size 0 4 4 [(x0, y0), (x1, y1), (x2, y2), (x3, y3)] rfl (by decide) (by omega) cX HX)
  have HB0 := Lib.hid hB0
  have HS0 := Lib.hid hS0
  have HY0 := Lib.hid bY
  have HRR := Lib.hid hr
  have hne : (r != 0) = true := by simp [h0]
  clear HX cX hB0 bX bY hS0 hr h0
  go_enter Tryz.func69, Tryz.ntmps69
  go_upto_region 1 with fail
  try rw [hW0]
  clear hW0
  go_upto_region 3 with (first
    | (go_at_call 157; refine K1.out.mono ?_; rintro e w1 ⟨rfl, hown1, hb1⟩)
    | (go_at_call 109; refine (first_any _ 0 4 4 (([(x0, y0), (x1, y1), (x2, y2), (x3, y3)] : List (Nat × Nat)).map (fun z => numErr z.1 z.2)) rfl (by omega) _ (fun j hj => by
        rw [Nat.zero_add]
        refine owns_cell hown1 ?_
        match j, hj with
        | 0, _ => rfl
        | 1, _ => rfl
        | 2, _ => rfl
        | 3, _ => rfl)).mono ?_; rw [HRR.out]; rintro e w9 ⟨rfl, rfl⟩))
  have hY := (hb1.block _ (lt_of_blk HY0.out)).trans HY0.out
  have q0 : w1.cell? ⟨w.heap.size + 1, 0, none⟩ = some (.float .f32 0) := by rw [cell_of_row _ _ 0 _ _ (0, 0) hY]; rfl
  have q1 : w1.cell? ⟨w.heap.size + 1, 1, none⟩ = some (.float .f32 0) := by rw [cell_of_row _ _ 1 _ _ (0, 0) hY]; rfl
  have q2 : w1.cell? ⟨w.heap.size + 1, 2, none⟩ = some (.float .f32 0) := by rw [cell_of_row _ _ 2 _ _ (0, 0) hY]; rfl
  have q3 : w1.cell? ⟨w.heap.size + 1, 3, none⟩ = some (.float .f32 0) := by rw [cell_of_row _ _ 3 _ _ (0, 0) hY]; rfl
  have yf0 : w1.frozen? ⟨w.heap.size + 1, 0, none⟩ = false := by simp [World.frozen?, hY]
  have yf1 : w1.frozen? ⟨w.heap.size + 1, 1, none⟩ = false := by simp [World.frozen?, hY]
  have yf2 : w1.frozen? ⟨w.heap.size + 1, 2, none⟩ = false := by simp [World.frozen?, hY]
  have yf3 : w1.frozen? ⟨w.heap.size + 1, 3, none⟩ = false := by simp [World.frozen?, hY]
  have HYY := Lib.hid hY
  have HBB := Lib.hid (HB0.out.trans (hb1.mono (by have := HS0.out; omega)))
  clear hown1 hb1 hY
  go_wp2_with fail
  (try simp only [Exit.inBlock, Exit.then])
  have hF := blk_set4u HYY.out (.float .f32 0) (.float .f32 0) (.float .f32 0) (.float .f32 0)
  refine bodyPost_ret (results_row_tmp rfl _ _ (w.heap.size + 1) 92 _ (0, 0) _ rfl hF Tryz.underlying92 rfl (by kernel_rfl)) rfl ?_
  exact ⟨rfl, (((HBB.out.setCell (p := ⟨w.heap.size + 1, 0, none⟩) (by show w.heap.size ≤ w.heap.size + 1; omega) _).setCell (p := ⟨w.heap.size + 1, 1, none⟩) (by show w.heap.size ≤ w.heap.size + 1; omega) _).setCell (p := ⟨w.heap.size + 1, 2, none⟩) (by show w.heap.size ≤ w.heap.size + 1; omega) _).setCell (p := ⟨w.heap.size + 1, 3, none⟩) (by show w.heap.size ≤ w.heap.size + 1; omega) _⟩
end Go.Proofs.YtfdkmmllemkogaaGreatDoor

/-
  The reference's complex integers: Plus, Times with a power of i, Power; how its powers stand to those of -i.
-/
namespace Go.Proofs.YtfdkmmllemkogaaGreatDoor
open Go.RowKit
set_option linter.unusedVariables false
set_option linter.unusedSimpArgs false

set_option maxHeartbeats 1600000 in
theorem gPlus_any (a b c d : Int) (ha : Far a) (hb : Far b) (hc : Far c) (hd : Far d) (w : World) :
    Calls Tryz.prog 159 #[.agg #[.int .i64 a, .int .i64 b], .agg #[.int .i64 c, .int .i64 d]] w fun e w' => e = .returned (.agg #[.int .i64 (a + c), .int .i64 (b + d)]) ∧ Below w.heap.size w w' := by
  unfold Far at ha hb hc hd
  have i1 : IntKind.i64.wrap (a + c) = a + c := IntWalk.i64_in _ ⟨by omega, by omega⟩
  have i2 : IntKind.i64.wrap (b + d) = b + d := IntWalk.i64_in _ ⟨by omega, by omega⟩
  clear ha hb hc hd
  go_enter Tryz.func159, Tryz.ntmps159
  go_wp2
  refine bodyPost_ret (v := .agg #[.int .i64 (a + c), .int .i64 (b + d)]) (by simp [results, Tryz.results159, go_sem]) rfl ⟨rfl, ?_⟩
  exact (((Below.refl _ w).alloc (Nat.le_refl _) _).alloc (by simp) _).alloc (by simp; omega) _
set_option maxHeartbeats 1600000 in
theorem gTimes_any (a b c d : Int) (h1 : Far (a * c)) (h2 : Far (b * d)) (h3 : Far (a * d)) (h4 : Far (b * c)) (w : World) :
    Calls Tryz.prog 160 #[.agg #[.int .i64 a, .int .i64 b], .agg #[.int .i64 c, .int .i64 d]] w fun e w' => e = .returned (.agg #[.int .i64 (a * c - b * d), .int .i64 (a * d + b * c)]) ∧ Below w.heap.size w w' := by
  unfold Far at h1 h2 h3 h4
  obtain ⟨p, hp⟩ : ∃ p, a * c = p := ⟨_, rfl⟩
  obtain ⟨q, hq⟩ : ∃ q, b * d = q := ⟨_, rfl⟩
  obtain ⟨r, hr⟩ : ∃ r, a * d = r := ⟨_, rfl⟩
  obtain ⟨s, hs⟩ : ∃ s, b * c = s := ⟨_, rfl⟩
  rw [hp] at h1 ⊢
  rw [hq] at h2 ⊢
  rw [hr] at h3 ⊢
  rw [hs] at h4 ⊢
  have i1 : IntKind.i64.wrap p = p := IntWalk.i64_in _ ⟨by omega, by omega⟩
  have i2 : IntKind.i64.wrap q = q := IntWalk.i64_in _ ⟨by omega, by omega⟩
  have i3 : IntKind.i64.wrap r = r := IntWalk.i64_in _ ⟨by omega, by omega⟩
  have i4 : IntKind.i64.wrap s = s := IntWalk.i64_in _ ⟨by omega, by omega⟩
  have i5 : IntKind.i64.wrap (p - q) = p - q := IntWalk.i64_in _ ⟨by omega, by omega⟩
  have i6 : IntKind.i64.wrap (r + s) = r + s := IntWalk.i64_in _ ⟨by omega, by omega⟩
  clear h1 h2 h3 h4
  go_enter Tryz.func160, Tryz.ntmps160
  go_wp2
  refine bodyPost_ret (v := .agg #[.int .i64 (p - q), .int .i64 (r + s)]) (by simp [results, Tryz.results160, go_sem]) rfl ⟨rfl, ?_⟩
  exact (((Below.refl _ w).alloc (Nat.le_refl _) _).alloc (by simp) _).alloc (by simp; omega) _
set_option maxHeartbeats 1600000 in
theorem gPower_any (m : Nat) (w : World) :
    Calls Tryz.prog 155 #[.int .i64 m] w fun e w' => e = .returned (.agg #[.int .i64 (powRe (m % 4)), .int .i64 (-powIm (m % 4))]) ∧ Below w.heap.size w w' := by
  have hm : ((m : Int)).tmod 4 = ((m % 4 : Nat) : Int) := by rw [Int.tmod_eq_emod_of_nonneg (by omega)]; omega
  have h4 : m % 4 < 4 := Nat.mod_lt _ (by omega)
  generalize m % 4 = k at hm h4 ⊢
  match k, h4 with
  | 0, _ =>
    have hm0 : ((m : Int)).tmod 4 = 0 := hm
    go_enter Tryz.func155, Tryz.ntmps155
    go_wp2
    refine bodyPost_ret (v := .agg #[.int .i64 1, .int .i64 0]) (by simp [results, Tryz.results155, go_sem]) rfl ⟨rfl, ?_⟩
    exact (Below.refl _ w).alloc (Nat.le_refl _) _
  | 1, _ =>
    have hm0 : ((m : Int)).tmod 4 = 1 := hm
    go_enter Tryz.func155, Tryz.ntmps155
    go_wp2
    refine bodyPost_ret (v := .agg #[.int .i64 0, .int .i64 1]) (by simp [results, Tryz.results155, go_sem]) rfl ⟨rfl, ?_⟩
    exact (Below.refl _ w).alloc (Nat.le_refl _) _
  | 2, _ =>
    have hm0 : ((m : Int)).tmod 4 = 2 := hm
    go_enter Tryz.func155, Tryz.ntmps155
    go_wp2
    refine bodyPost_ret (v := .agg #[.int .i64 (-1), .int .i64 0]) (by simp [results, Tryz.results155, go_sem]) rfl ⟨rfl, ?_⟩
    exact (Below.refl _ w).alloc (Nat.le_refl _) _
  | 3, _ =>
    have hm0 : ((m : Int)).tmod 4 = 3 := hm
    go_enter Tryz.func155, Tryz.ntmps155
    go_wp2
    refine bodyPost_ret (v := .agg #[.int .i64 0, .int .i64 (-1)]) (by simp [results, Tryz.results155, go_sem]) rfl ⟨rfl, ?_⟩
    exact (Below.refl _ w).alloc (Nat.le_refl _) _
/-- i to the power of three times q is -i to the power of q; i to the power of q is -i to the power of three times q. -/
theorem pow_three (q : Nat) : powRe (3 * q % 4) = powRe (q % 4) ∧ -powIm (3 * q % 4) = powIm (q % 4) := by
  have h : q % 4 = 0 ∨ q % 4 = 1 ∨ q % 4 = 2 ∨ q % 4 = 3 := by omega
  rcases h with h | h | h | h
  · rw [h, show 3 * q % 4 = 0 by omega]; decide
  · rw [h, show 3 * q % 4 = 3 by omega]; decide
  · rw [h, show 3 * q % 4 = 2 by omega]; decide
  · rw [h, show 3 * q % 4 = 1 by omega]; decide
theorem pow_three' (q : Nat) : powRe (q % 4) = powRe (3 * q % 4) ∧ -powIm (q % 4) = powIm (3 * q % 4) := by
  have h := pow_three q
  exact ⟨h.1.symm, by rw [← h.2]; omega⟩
end Go.Proofs.YtfdkmmllemkogaaGreatDoor
