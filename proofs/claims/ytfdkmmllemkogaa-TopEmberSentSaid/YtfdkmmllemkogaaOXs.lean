/-
  Contract of emberRing: the fixed example of chapter 1.
-/
import Derived.Test.YtfdkmmllemkogaaOXi
import Derived.Test.YtfdkmmllemkogaaOXk
import Derived.Test.YtfdkmmllemkogaaOXe
import Derived.Test.YtfdkmmllemkogaaOWj
import Derived.Deep.DrawnRows
namespace Go.Proofs.Ytfdkmmllemkogaa
open Go.RowKit
set_option linter.unusedVariables false

theorem smpOf_lt (n : Int) (hn : n.natAbs < 2 ^ 24) : smpOf n < 2 ^ 32 := by
  have := floatBits_wf (smpOf_run n hn)
  simpa [Lit.wf] using this
theorem right_of {w : World} {W H : Int} {b n : Nat} {ks : List Int} (hl : ks.length = n) (hn : n ≤ 4096) (hc : ∀ j, j < n → w.cell? ⟨b, j, none⟩ = some (.float .f32 (smpOf (ks[j]?.getD 0)))) (hs : ∀ j, j < n → (ks[j]?.getD 0).natAbs ≤ 16384)
    (hW : 1 ≤ W ∧ W ≤ 64) (hH : 1 ≤ H ∧ H ≤ 64) (ha : W * H = n) : RightMap w W H b 0 n (ks.map smpOf) ks := by
  have e : ∀ j, j < n → (ks.map smpOf)[j]?.getD 0 = smpOf (ks[j]?.getD 0) := fun j hj => by
    rw [List.getElem?_map, List.getElem?_eq_getElem (by omega)]; rfl
  exact ⟨⟨by rw [List.length_map]; exact hl, hl, hn, fun j hj => by rw [Nat.zero_add, e j hj]; exact hc j hj, fun j hj => by rw [e j hj]; exact smpOf_lt _ (Nat.lt_of_le_of_lt (hs j hj) (by decide)), fun j hj => by rw [e j hj]; exact smpOf_smp _ (Nat.lt_of_le_of_lt (hs j hj) (by decide)), hs⟩, hW, hH, ha⟩

theorem lt4 {P : Nat → Prop} (h0 : P 0) (h1 : P 1) (h2 : P 2) (h3 : P 3) : ∀ j, j < 4 → P j
  | 0, _ => h0
  | 1, _ => h1
  | 2, _ => h2
  | 3, _ => h3
  | n + 4, h => by omega

set_option maxRecDepth 100000 in
set_option maxHeartbeats 3200000 in
theorem emberRing_any (w : World) : Calls Try.prog 5 #[] w fun e w' => e = .returned (.bool true) ∧ Below w.heap.size w w' := by
  obtain ⟨W1, hW1⟩ : ∃ W1, (w.alloc (.cells #[.float .f32 1065353216, .float .f32 0, .float .f32 0, .float .f32 0] 27)).alloc (.cells #[.int .i64 2, .int .i64 2, .slice (some ⟨w.heap.size, 0, none⟩) 4 4] 50) = W1 := ⟨_, rfl⟩
  have hB1 : Below w.heap.size w W1 := by rw [← hW1]; exact ((Below.refl _ w).alloc (Nat.le_refl _) _).alloc (by simp) _
  have hS1 : w.heap.size + 2 ≤ W1.heap.size := by rw [← hW1]; simp
  have bq : W1.heap[w.heap.size]? = some (.cells #[.float .f32 1065353216, .float .f32 0, .float .f32 0, .float .f32 0] 27 (0, 0)) := by rw [← hW1]; exact blk_alloc_other (blk_alloc_new _ _) _
  have bm : W1.heap[w.heap.size + 1]? = some (.cells #[.int .i64 2, .int .i64 2, .slice (some ⟨w.heap.size, 0, none⟩) 4 4] 50 (0, 0)) := by rw [← hW1]; exact blk_alloc_new1 _ _ _
  have s16 : smpOf 16 = 1065353216 := by kernel_rfl
  have s0 : smpOf 0 = 0 := by kernel_rfl
  have s8 : smpOf 8 = 1056964608 := by kernel_rfl
  have s4 : smpOf 4 = 1048576000 := by kernel_rfl
  have hM : RightMap W1 2 2 w.heap.size 0 4 ([16, 0, 0, 0].map smpOf) [16, 0, 0, 0] := right_of rfl (by omega) (lt4
      (by rw [cell_of_row W1 _ 0 _ _ (0, 0) bq]; show _ = some (Value.float .f32 (smpOf 16)); rw [s16]; rfl)
      (by rw [cell_of_row W1 _ 1 _ _ (0, 0) bq]; show _ = some (Value.float .f32 (smpOf 0)); rw [s0]; rfl)
      (by rw [cell_of_row W1 _ 2 _ _ (0, 0) bq]; show _ = some (Value.float .f32 (smpOf 0)); rw [s0]; rfl)
      (by rw [cell_of_row W1 _ 3 _ _ (0, 0) bq]; show _ = some (Value.float .f32 (smpOf 0)); rw [s0]; rfl)) (lt4 (by decide) (by decide) (by decide) (by decide)) (by omega) (by omega) (by decide)
  have hRT : roundsTo 2 2 4 [16, 0, 0, 0] (placesTo 2 (2 * 2)) = [8, 4, 4, 0] := by decide +kernel
  have K1 : Hid (Calls Try.prog 18 #[.agg #[.int .i64 2, .int .i64 2, .slice (some ⟨w.heap.size, 0, none⟩) 4 4]] W1 fun e w' =>
      ∃ g, e = .returned (.tuple #[.agg #[.int .i64 2, .int .i64 2, .slice (some ⟨g, 0, none⟩) 4 4], .int .i64 0]) ∧ g < w'.heap.size ∧
        (∀ j, j < 4 → w'.cell? ⟨g, j, none⟩ = some (.float .f32 (smpOf (([16, 0, 0, 0] : List Int)[(2 - 1 - j % 2) * 2 + j / 2]?.getD 0)))) ∧ Below W1.heap.size W1 w') := Lib.hid (turned_any 2 2 w.heap.size 0 4 4 _ _ W1 hM (by omega))
  have K2 : Hid (∀ Wx : World, Below W1.heap.size W1 Wx → Calls Try.prog 19 #[.agg #[.int .i64 2, .int .i64 2, .slice (some ⟨w.heap.size, 0, none⟩) 4 4], .int .i64 4] Wx fun e w' =>
      ∃ g, e = .returned (.tuple #[.agg #[.int .i64 2, .int .i64 2, .slice (some ⟨g, 0, none⟩) 4 4], .int .i64 0]) ∧ g < w'.heap.size ∧
        (∀ j, j < 4 → w'.cell? ⟨g, j, none⟩ = some (.float .f32 (smpOf (([8, 4, 4, 0] : List Int)[j]?.getD 0)))) ∧ Below Wx.heap.size Wx w') := Lib.hid (fun Wx h => by
    have h1 := spread_any 2 2 4 (by omega) (by omega) w.heap.size 0 4 4 _ _ Wx (hM.below h (by omega)) (by have := h.size; omega) (fun j => by
      rw [hRT]
      by_cases hj : j < 4
      · exact lt4 (P := fun j => (([8, 4, 4, 0] : List Int)[j]?.getD 0).natAbs ≤ 16384) (by decide) (by decide) (by decide) (by decide) j hj
      · rw [List.getElem?_eq_none (by simp; omega)]; decide)
    rw [hRT] at h1
    exact h1)
  have HB1 := Lib.hid hB1
  have c0 := GridAt.of_blk (W := 2) (H := 2) bm
  obtain ⟨c0, c1, c2⟩ := c0
  have HBM := Lib.hid bm
  clear hM hRT hB1 bq bm s16 s0 s8 s4
  go_enter Try.func5, Try.ntmps5
  go_wp2_with (first
    | ((go_at_call 18; refine K1.out.mono ?_; rintro e w2 ⟨ga, rfl, hga, hca, hb2⟩
        have hs2 := hb2.size
        obtain ⟨W2, hW2⟩ : ∃ W2, w2.alloc (.cells #[.int .i64 2, .int .i64 2, .slice (some ⟨ga, 0, none⟩) 4 4] 50) = W2 := ⟨_, rfl⟩
        have hB2 : Below W1.heap.size W1 W2 := by rw [← hW2]; exact hb2.alloc hb2.size _
        have bA : W2.heap[w2.heap.size]? = some (.cells #[.int .i64 2, .int .i64 2, .slice (some ⟨ga, 0, none⟩) 4 4] 50 (0, 0)) := by rw [← hW2]; exact blk_alloc_new _ _
        have hcA : ∀ j, j < 4 → W2.cell? ⟨ga, j, none⟩ = some (.float .f32 (smpOf (([16, 0, 0, 0] : List Int)[(2 - 1 - j % 2) * 2 + j / 2]?.getD 0))) := fun j hj => by
          rw [← hW2]; exact (((Below.refl _ w2).alloc (Nat.le_refl _) _).cell (p := ⟨ga, j, none⟩) hga).trans (hca j hj)
        have hgA : ga < W2.heap.size := by rw [← hW2]; simp; omega
        obtain ⟨d0, d1, d2⟩ := GridAt.of_blk (W := 2) (H := 2) ((hB2.block _ (by omega)).trans HBM.out)
        have K3 := Lib.hid (K2.out W2 hB2)
        have HBA := Lib.hid bA
        have HCA := Lib.hid hcA
        have HB2 := Lib.hid hB2
        clear hb2 hca hcA bA hB2 c0 c1 c2))
    | ((go_at_call 19; refine K3.out.mono ?_; rintro e w3 ⟨gb, rfl, hgb, hcb, hb3⟩
        have hs3 := hb3.size
        obtain ⟨W3, hW3⟩ : ∃ W3, w3.alloc (.cells #[.int .i64 2, .int .i64 2, .slice (some ⟨gb, 0, none⟩) 4 4] 50) = W3 := ⟨_, rfl⟩
        have hB3 : Below W2.heap.size W2 W3 := by rw [← hW3]; exact hb3.alloc hb3.size _
        have bB : W3.heap[w3.heap.size]? = some (.cells #[.int .i64 2, .int .i64 2, .slice (some ⟨gb, 0, none⟩) 4 4] 50 (0, 0)) := by rw [← hW3]; exact blk_alloc_new _ _
        have hcB : ∀ j, j < 4 → W3.cell? ⟨gb, j, none⟩ = some (.float .f32 (smpOf (([8, 4, 4, 0] : List Int)[j]?.getD 0))) := fun j hj => by
          rw [← hW3]; exact (((Below.refl _ w3).alloc (Nat.le_refl _) _).cell (p := ⟨gb, j, none⟩) hgb).trans (hcb j hj)
        have hgB : gb < W3.heap.size := by rw [← hW3]; simp; omega
        have hMB : RightMap W3 2 2 gb 0 4 ([8, 4, 4, 0].map smpOf) [8, 4, 4, 0] := right_of rfl (by omega) hcB (lt4 (by decide) (by decide) (by decide) (by decide)) (by omega) (by omega) (by decide)
        have K4 := Lib.hid (total_any 2 2 gb 0 4 4 _ _ W3 hMB hgB)
        obtain ⟨e0, e1, e2⟩ := GridAt.of_blk (W := 2) (H := 2) bB
        have HBB := Lib.hid bB
        have HCB := Lib.hid hcB
        have HB3 := Lib.hid hB3
        clear hb3 hcb hcB bB hB3 hMB d0 d1 d2))
    | ((go_at_call 14; refine K4.out.mono ?_; rintro e w4 ⟨rfl, hb4⟩
        have hs4 := hb4.size
        have hlB := lt_of_blk HBB.out
        have hlA := lt_of_blk HBA.out
        have hsB := HB3.out.size
        obtain ⟨d0, d1, d2⟩ := GridAt.of_blk (W := 2) (H := 2) ((hb4.block _ (Nat.lt_of_lt_of_le hlA hsB)).trans ((HB3.out.block _ hlA).trans HBA.out))
        obtain ⟨e0, e1, e2⟩ := GridAt.of_blk (W := 2) (H := 2) ((hb4.block _ hlB).trans HBB.out)
        have e16 : (([8, 4, 4, 0] : List Int).sum == 16) = true := by decide
        have HB4 := Lib.hid hb4)))
  have s16 : smpOf 16 = 1065353216 := by kernel_rfl
  have s0 : smpOf 0 = 0 := by kernel_rfl
  have s8 : smpOf 8 = 1056964608 := by kernel_rfl
  have s4 : smpOf 4 = 1048576000 := by kernel_rfl
  obtain ⟨W5, hW5⟩ : ∃ W5, w4.alloc (.cells #[.float .f32 0, .float .f32 1065353216, .float .f32 0, .float .f32 0] 27) = W5 := ⟨_, rfl⟩
  have hB5 : Below w4.heap.size w4 W5 := by rw [← hW5]; exact (Below.refl _ w4).alloc (Nat.le_refl _) _
  have b5 : W5.heap[w4.heap.size]? = some (.cells #[.float .f32 0, .float .f32 1065353216, .float .f32 0, .float .f32 0] 27 (0, 0)) := by rw [← hW5]; exact blk_alloc_new _ _
  have hb45 : Below W2.heap.size W2 W5 := (HB3.out.trans (HB4.out.mono hsB)).trans (hB5.mono (by omega))
  have hs5 := hB5.size
  rw [hW5]
  clear hW5
  have cA : ∀ j, j < 4 → W5.cell? ⟨ga, 0 + j, none⟩ = some (.float .f32 (([0, 1065353216, 0, 0] : List Nat)[j]?.getD 0)) := fun j hj => by
    rw [Nat.zero_add]
    refine ((hb45.cell (p := ⟨ga, j, none⟩) hgA).trans (HCA.out j hj)).trans ?_
    exact lt4 (P := fun j => some (Value.float .f32 (smpOf (([16, 0, 0, 0] : List Int)[(2 - 1 - j % 2) * 2 + j / 2]?.getD 0))) = some (Value.float .f32 (([0, 1065353216, 0, 0] : List Nat)[j]?.getD 0)))
      (by show some (Value.float .f32 (smpOf 0)) = _; rw [s0]; rfl) (by show some (Value.float .f32 (smpOf 16)) = _; rw [s16]; rfl) (by show some (Value.float .f32 (smpOf 0)) = _; rw [s0]; rfl) (by show some (Value.float .f32 (smpOf 0)) = _; rw [s0]; rfl) j hj
  have cA' : ∀ j, j < 4 → W5.cell? ⟨w4.heap.size, 0 + j, none⟩ = some (.float .f32 (([0, 1065353216, 0, 0] : List Nat)[j]?.getD 0)) := fun j hj => by
    rw [Nat.zero_add, cell_of_row W5 _ j _ _ (0, 0) b5]
    exact lt4 (P := fun j => (#[Value.float .f32 0, .float .f32 1065353216, .float .f32 0, .float .f32 0] : Array Value)[j]? = some (Value.float .f32 (([0, 1065353216, 0, 0] : List Nat)[j]?.getD 0))) rfl rfl rfl rfl j hj
  have S0 : Smp 0 0 := by have := smpOf_smp 0 (by decide); rwa [s0] at this
  have S16 : Smp 1065353216 16 := by have := smpOf_smp 16 (by decide); rwa [s16] at this
  have S8 : Smp 1056964608 8 := by have := smpOf_smp 8 (by decide); rwa [s8] at this
  have S4 : Smp 1048576000 4 := by have := smpOf_smp 4 (by decide); rwa [s4] at this
  have SA : ∀ j, j < 4 → Smp (([0, 1065353216, 0, 0] : List Nat)[j]?.getD 0) (([0, 16, 0, 0] : List Int)[j]?.getD 0) := lt4 S0 S16 S0 S0
  have SB : ∀ j, j < 4 → Smp (([1056964608, 1048576000, 1048576000, 0] : List Nat)[j]?.getD 0) (([8, 4, 4, 0] : List Int)[j]?.getD 0) := lt4 S8 S4 S4 S0
  have hlW5 : w4.heap.size < W5.heap.size := lt_of_blk b5
  refine (sameSamples_any ga 0 4 w4.heap.size 0 4 4 _ _ _ (by omega) (by have := hb45.size; omega) hlW5 cA cA' SA SA).mono ?_
  rintro e w6 ⟨rfl, hb6⟩
  have hs6 := hb6.size
  have gB5 : gb < W5.heap.size := by have := HB4.out.size; omega
  obtain ⟨f0, f1, f2⟩ := GridAt.of_blk (W := 2) (H := 2) ((hb6.block _ (by omega)).trans ((hB5.block _ (by omega)).trans ((HB4.out.block _ hlB).trans HBB.out)))
  go_wp2_with fail
  obtain ⟨W7, hW7⟩ : ∃ W7, w6.alloc (.cells #[.float .f32 1056964608, .float .f32 1048576000, .float .f32 1048576000, .float .f32 0] 27) = W7 := ⟨_, rfl⟩
  have hB7 : Below w6.heap.size w6 W7 := by rw [← hW7]; exact (Below.refl _ w6).alloc (Nat.le_refl _) _
  have b7 : W7.heap[w6.heap.size]? = some (.cells #[.float .f32 1056964608, .float .f32 1048576000, .float .f32 1048576000, .float .f32 0] 27 (0, 0)) := by rw [← hW7]; exact blk_alloc_new _ _
  have hb37 : Below W3.heap.size W3 W7 := ((HB4.out.trans (hB5.mono (by have := HB4.out.size; omega))).trans (hb6.mono (by have := HB4.out.size; omega))).trans (hB7.mono (by have := HB4.out.size; omega))
  have hs7 := hB7.size
  rw [hW7]
  clear hW7
  have cB : ∀ j, j < 4 → W7.cell? ⟨gb, 0 + j, none⟩ = some (.float .f32 (([1056964608, 1048576000, 1048576000, 0] : List Nat)[j]?.getD 0)) := fun j hj => by
    rw [Nat.zero_add]
    refine ((hb37.cell (p := ⟨gb, j, none⟩) hgB).trans (HCB.out j hj)).trans ?_
    exact lt4 (P := fun j => some (Value.float .f32 (smpOf (([8, 4, 4, 0] : List Int)[j]?.getD 0))) = some (Value.float .f32 (([1056964608, 1048576000, 1048576000, 0] : List Nat)[j]?.getD 0)))
      (by show some (Value.float .f32 (smpOf 8)) = _; rw [s8]; rfl) (by show some (Value.float .f32 (smpOf 4)) = _; rw [s4]; rfl) (by show some (Value.float .f32 (smpOf 4)) = _; rw [s4]; rfl) (by show some (Value.float .f32 (smpOf 0)) = _; rw [s0]; rfl) j hj
  have cB' : ∀ j, j < 4 → W7.cell? ⟨w6.heap.size, 0 + j, none⟩ = some (.float .f32 (([1056964608, 1048576000, 1048576000, 0] : List Nat)[j]?.getD 0)) := fun j hj => by
    rw [Nat.zero_add, cell_of_row W7 _ j _ _ (0, 0) b7]
    exact lt4 (P := fun j => (#[Value.float .f32 1056964608, .float .f32 1048576000, .float .f32 1048576000, .float .f32 0] : Array Value)[j]? = some (Value.float .f32 (([1056964608, 1048576000, 1048576000, 0] : List Nat)[j]?.getD 0))) rfl rfl rfl rfl j hj
  refine (sameSamples_any gb 0 4 w6.heap.size 0 4 4 _ _ _ (by omega) (by have := hb37.size; omega) (lt_of_blk b7) cB cB' SB SB).mono ?_
  rintro e w8 ⟨rfl, hb8⟩
  go_wp2
  go_ret
  exact ⟨rfl, ((HB1.out.trans (HB2.out.mono (by omega))).trans (hb37.mono (by have := HB2.out.size; omega) |> fun h => HB3.out.mono (by have := HB2.out.size; omega) |>.trans h)).trans (hb8.mono (by have := HB2.out.size; have := HB3.out.size; have := hb37.size; omega))⟩
end Go.Proofs.Ytfdkmmllemkogaa

/-
  The orders in which Added may make its two grids: what stands behind each.
-/
namespace Go.Proofs.Ytfdkmmllemkogaa
open Go.RowKit
set_option linter.unusedVariables false
set_option linter.unusedSimpArgs false

set_option maxHeartbeats 1600000 in
theorem made_00_7 {w W0 W1 wA wB : World} {W H : Nat} {n ga gb : Nat} {ks js : List Int} (hb2 : Below (w.heap.size + 3) W0 W1) (HS3 : w.heap.size + 3 ≤ W0.heap.size)
    (hba : Below W1.drew.heap.size W1.drew wA) (hga : W1.drew.heap.size ≤ ga) (hra : RowAt wA ga n ks) (hbb : Below wA.heap.size wA wB) (hgb : wA.heap.size ≤ gb) (hrb : RowAt wB gb n js) (hb3 : Below (w.heap.size + 3) W0 wB) :
    GridsMade w W0 W H n ks js (.pointer (some ⟨wB.heap.size, 0, none⟩)) (.pointer (some ⟨wB.heap.size + 1, 0, none⟩)) ((wB.alloc (.cells #[.int .i64 W, .int .i64 H, .slice (some ⟨ga, 0, none⟩) n n] 76)).alloc (.cells #[.int .i64 W, .int .i64 H, .slice (some ⟨gb, 0, none⟩) n n] 76)) := by
  have s1 := hb2.size
  have s2 := hba.size
  have s3 := hbb.size
  have l1 := hra.lt
  have l2 := hrb.lt
  simp only [World.size_drew, World.size_alloc] at s2 s3 hga hgb
  have hrB : RowAt wB ga n ks := RowAt.below hra hbb (by first | omega | (simp only [World.size_alloc]; omega))
  refine ⟨_, _, ga, gb, rfl, rfl, GridAt.of_blk (T := 76) ?_, GridAt.of_blk (T := 76) ?_, ?_, ?_, lt_of_blk (o := .cells #[.int .i64 W, .int .i64 H, .slice (some ⟨ga, 0, none⟩) n n] 76 (0, 0)) ?_, lt_of_blk (o := .cells #[.int .i64 W, .int .i64 H, .slice (some ⟨gb, 0, none⟩) n n] 76 (0, 0)) ?_, ?_⟩
  · (repeat (first | (with_reducible exact blk_alloc_new _ _) | (with_reducible exact blk_alloc_new1 _ _ _) | ((with_reducible refine blk_alloc_at _ _ ?_); (simp only [World.size_setCell, World.size_drew, World.size_alloc]; done)) | (with_reducible refine blk_set3 (x := .int .i64 0) (y := .int .i64 0) (z := .slice none 0 0) ?_ _ _ _) | ((with_reducible refine blk_set_other ?_ ?h _); (case h => (dsimp only; omega))) | (with_reducible refine blk_alloc_other ?_ _) | (with_reducible refine blk_drew ?_) | ((with_reducible refine (hbb.block _ ?h).trans ?_); (case h => (first | omega | (simp only [World.size_drew, World.size_alloc]; omega)))) | ((with_reducible refine (hba.block _ ?h).trans ?_); (case h => (first | omega | (simp only [World.size_drew, World.size_alloc]; omega))))))
  · (repeat (first | (with_reducible exact blk_alloc_new _ _) | (with_reducible exact blk_alloc_new1 _ _ _) | ((with_reducible refine blk_alloc_at _ _ ?_); (simp only [World.size_setCell, World.size_drew, World.size_alloc]; done)) | (with_reducible refine blk_set3 (x := .int .i64 0) (y := .int .i64 0) (z := .slice none 0 0) ?_ _ _ _) | ((with_reducible refine blk_set_other ?_ ?h _); (case h => (dsimp only; omega))) | (with_reducible refine blk_alloc_other ?_ _) | (with_reducible refine blk_drew ?_) | ((with_reducible refine (hbb.block _ ?h).trans ?_); (case h => (first | omega | (simp only [World.size_drew, World.size_alloc]; omega)))) | ((with_reducible refine (hba.block _ ?h).trans ?_); (case h => (first | omega | (simp only [World.size_drew, World.size_alloc]; omega))))))
  · (repeat (first | (with_reducible exact hrB) | (with_reducible refine RowAt.set ?_ (by dsimp only; omega) _) | (with_reducible refine RowAt.alloc ?_ _)))
  · (repeat (first | (with_reducible exact hrb) | (with_reducible refine RowAt.set ?_ (by dsimp only; omega) _) | (with_reducible refine RowAt.alloc ?_ _)))
  · (repeat (first | (with_reducible exact blk_alloc_new _ _) | (with_reducible exact blk_alloc_new1 _ _ _) | ((with_reducible refine blk_alloc_at _ _ ?_); (simp only [World.size_setCell, World.size_drew, World.size_alloc]; done)) | (with_reducible refine blk_set3 (x := .int .i64 0) (y := .int .i64 0) (z := .slice none 0 0) ?_ _ _ _) | ((with_reducible refine blk_set_other ?_ ?h _); (case h => (dsimp only; omega))) | (with_reducible refine blk_alloc_other ?_ _) | (with_reducible refine blk_drew ?_) | ((with_reducible refine (hbb.block _ ?h).trans ?_); (case h => (first | omega | (simp only [World.size_drew, World.size_alloc]; omega)))) | ((with_reducible refine (hba.block _ ?h).trans ?_); (case h => (first | omega | (simp only [World.size_drew, World.size_alloc]; omega))))))
  · (repeat (first | (with_reducible exact blk_alloc_new _ _) | (with_reducible exact blk_alloc_new1 _ _ _) | ((with_reducible refine blk_alloc_at _ _ ?_); (simp only [World.size_setCell, World.size_drew, World.size_alloc]; done)) | (with_reducible refine blk_set3 (x := .int .i64 0) (y := .int .i64 0) (z := .slice none 0 0) ?_ _ _ _) | ((with_reducible refine blk_set_other ?_ ?h _); (case h => (dsimp only; omega))) | (with_reducible refine blk_alloc_other ?_ _) | (with_reducible refine blk_drew ?_) | ((with_reducible refine (hbb.block _ ?h).trans ?_); (case h => (first | omega | (simp only [World.size_drew, World.size_alloc]; omega)))) | ((with_reducible refine (hba.block _ ?h).trans ?_); (case h => (first | omega | (simp only [World.size_drew, World.size_alloc]; omega))))))
  · (repeat (first | (with_reducible exact hb3) | (with_reducible refine below_alloc ?_ HS3 _) | (with_reducible refine Below.drew ?_) | (with_reducible refine Below.setCell ?_ (by dsimp only; omega) _)))

set_option maxHeartbeats 1600000 in
theorem made_00_8 {w W0 W1 wA wB : World} {W H : Nat} {n ga gb : Nat} {ks js : List Int} (hb2 : Below (w.heap.size + 3) W0 W1) (HS3 : w.heap.size + 3 ≤ W0.heap.size)
    (hba : Below W1.drew.heap.size W1.drew wA) (hga : W1.drew.heap.size ≤ ga) (hra : RowAt wA ga n ks) (hbb : Below wA.heap.size wA wB) (hgb : wA.heap.size ≤ gb) (hrb : RowAt wB gb n js) (hb3 : Below (w.heap.size + 3) W0 wB) :
    GridsMade w W0 W H n ks js (.pointer (some ⟨wB.heap.size + 1, 0, none⟩)) (.pointer (some ⟨wB.heap.size, 0, none⟩)) ((wB.alloc (.cells #[.int .i64 W, .int .i64 H, .slice (some ⟨gb, 0, none⟩) n n] 76)).alloc (.cells #[.int .i64 W, .int .i64 H, .slice (some ⟨ga, 0, none⟩) n n] 76)) := by
  have s1 := hb2.size
  have s2 := hba.size
  have s3 := hbb.size
  have l1 := hra.lt
  have l2 := hrb.lt
  simp only [World.size_drew, World.size_alloc] at s2 s3 hga hgb
  have hrB : RowAt wB ga n ks := RowAt.below hra hbb (by first | omega | (simp only [World.size_alloc]; omega))
  refine ⟨_, _, ga, gb, rfl, rfl, GridAt.of_blk (T := 76) ?_, GridAt.of_blk (T := 76) ?_, ?_, ?_, lt_of_blk (o := .cells #[.int .i64 W, .int .i64 H, .slice (some ⟨ga, 0, none⟩) n n] 76 (0, 0)) ?_, lt_of_blk (o := .cells #[.int .i64 W, .int .i64 H, .slice (some ⟨gb, 0, none⟩) n n] 76 (0, 0)) ?_, ?_⟩
  · (repeat (first | (with_reducible exact blk_alloc_new _ _) | (with_reducible exact blk_alloc_new1 _ _ _) | ((with_reducible refine blk_alloc_at _ _ ?_); (simp only [World.size_setCell, World.size_drew, World.size_alloc]; done)) | (with_reducible refine blk_set3 (x := .int .i64 0) (y := .int .i64 0) (z := .slice none 0 0) ?_ _ _ _) | ((with_reducible refine blk_set_other ?_ ?h _); (case h => (dsimp only; omega))) | (with_reducible refine blk_alloc_other ?_ _) | (with_reducible refine blk_drew ?_) | ((with_reducible refine (hbb.block _ ?h).trans ?_); (case h => (first | omega | (simp only [World.size_drew, World.size_alloc]; omega)))) | ((with_reducible refine (hba.block _ ?h).trans ?_); (case h => (first | omega | (simp only [World.size_drew, World.size_alloc]; omega))))))
  · (repeat (first | (with_reducible exact blk_alloc_new _ _) | (with_reducible exact blk_alloc_new1 _ _ _) | ((with_reducible refine blk_alloc_at _ _ ?_); (simp only [World.size_setCell, World.size_drew, World.size_alloc]; done)) | (with_reducible refine blk_set3 (x := .int .i64 0) (y := .int .i64 0) (z := .slice none 0 0) ?_ _ _ _) | ((with_reducible refine blk_set_other ?_ ?h _); (case h => (dsimp only; omega))) | (with_reducible refine blk_alloc_other ?_ _) | (with_reducible refine blk_drew ?_) | ((with_reducible refine (hbb.block _ ?h).trans ?_); (case h => (first | omega | (simp only [World.size_drew, World.size_alloc]; omega)))) | ((with_reducible refine (hba.block _ ?h).trans ?_); (case h => (first | omega | (simp only [World.size_drew, World.size_alloc]; omega))))))
  · (repeat (first | (with_reducible exact hrB) | (with_reducible refine RowAt.set ?_ (by dsimp only; omega) _) | (with_reducible refine RowAt.alloc ?_ _)))
  · (repeat (first | (with_reducible exact hrb) | (with_reducible refine RowAt.set ?_ (by dsimp only; omega) _) | (with_reducible refine RowAt.alloc ?_ _)))
  · (repeat (first | (with_reducible exact blk_alloc_new _ _) | (with_reducible exact blk_alloc_new1 _ _ _) | ((with_reducible refine blk_alloc_at _ _ ?_); (simp only [World.size_setCell, World.size_drew, World.size_alloc]; done)) | (with_reducible refine blk_set3 (x := .int .i64 0) (y := .int .i64 0) (z := .slice none 0 0) ?_ _ _ _) | ((with_reducible refine blk_set_other ?_ ?h _); (case h => (dsimp only; omega))) | (with_reducible refine blk_alloc_other ?_ _) | (with_reducible refine blk_drew ?_) | ((with_reducible refine (hbb.block _ ?h).trans ?_); (case h => (first | omega | (simp only [World.size_drew, World.size_alloc]; omega)))) | ((with_reducible refine (hba.block _ ?h).trans ?_); (case h => (first | omega | (simp only [World.size_drew, World.size_alloc]; omega))))))
  · (repeat (first | (with_reducible exact blk_alloc_new _ _) | (with_reducible exact blk_alloc_new1 _ _ _) | ((with_reducible refine blk_alloc_at _ _ ?_); (simp only [World.size_setCell, World.size_drew, World.size_alloc]; done)) | (with_reducible refine blk_set3 (x := .int .i64 0) (y := .int .i64 0) (z := .slice none 0 0) ?_ _ _ _) | ((with_reducible refine blk_set_other ?_ ?h _); (case h => (dsimp only; omega))) | (with_reducible refine blk_alloc_other ?_ _) | (with_reducible refine blk_drew ?_) | ((with_reducible refine (hbb.block _ ?h).trans ?_); (case h => (first | omega | (simp only [World.size_drew, World.size_alloc]; omega)))) | ((with_reducible refine (hba.block _ ?h).trans ?_); (case h => (first | omega | (simp only [World.size_drew, World.size_alloc]; omega))))))
  · (repeat (first | (with_reducible exact hb3) | (with_reducible refine below_alloc ?_ HS3 _) | (with_reducible refine Below.drew ?_) | (with_reducible refine Below.setCell ?_ (by dsimp only; omega) _)))

set_option maxHeartbeats 1600000 in
theorem made_01_7 {w W0 W1 wA wB : World} {W H : Nat} {n ga gb : Nat} {ks js : List Int} (hb2 : Below (w.heap.size + 3) W0 W1) (HS3 : w.heap.size + 3 ≤ W0.heap.size)
    (hba : Below W1.drew.heap.size W1.drew wA) (hga : W1.drew.heap.size ≤ ga) (hra : RowAt wA ga n ks) (hbb : Below (wA.alloc (.cells #[.int .i64 0, .int .i64 0, .slice none 0 0] 76)).heap.size (wA.alloc (.cells #[.int .i64 0, .int .i64 0, .slice none 0 0] 76)) wB) (hgb : (wA.alloc (.cells #[.int .i64 0, .int .i64 0, .slice none 0 0] 76)).heap.size ≤ gb) (hrb : RowAt wB gb n js) (hb3 : Below (w.heap.size + 3) W0 wB) :
    GridsMade w W0 W H n ks js (.pointer (some ⟨wA.heap.size, 0, none⟩)) (.pointer (some ⟨wB.heap.size, 0, none⟩)) ((((wB.setCell ⟨wA.heap.size, 0, none⟩ (.int .i64 W)).setCell ⟨wA.heap.size, 1, none⟩ (.int .i64 H)).setCell ⟨wA.heap.size, 2, none⟩ (.slice (some ⟨ga, 0, none⟩) n n)).alloc (.cells #[.int .i64 W, .int .i64 H, .slice (some ⟨gb, 0, none⟩) n n] 76)) := by
  have s1 := hb2.size
  have s2 := hba.size
  have s3 := hbb.size
  have l1 := hra.lt
  have l2 := hrb.lt
  simp only [World.size_drew, World.size_alloc] at s2 s3 hga hgb
  have hrB : RowAt wB ga n ks := RowAt.below (RowAt.alloc hra _) hbb (by first | omega | (simp only [World.size_alloc]; omega))
  refine ⟨_, _, ga, gb, rfl, rfl, GridAt.of_blk (T := 76) ?_, GridAt.of_blk (T := 76) ?_, ?_, ?_, lt_of_blk (o := .cells #[.int .i64 W, .int .i64 H, .slice (some ⟨ga, 0, none⟩) n n] 76 (0, 0)) ?_, lt_of_blk (o := .cells #[.int .i64 W, .int .i64 H, .slice (some ⟨gb, 0, none⟩) n n] 76 (0, 0)) ?_, ?_⟩
  · (repeat (first | (with_reducible exact blk_alloc_new _ _) | (with_reducible exact blk_alloc_new1 _ _ _) | ((with_reducible refine blk_alloc_at _ _ ?_); (simp only [World.size_setCell, World.size_drew, World.size_alloc]; done)) | (with_reducible refine blk_set3 (x := .int .i64 0) (y := .int .i64 0) (z := .slice none 0 0) ?_ _ _ _) | ((with_reducible refine blk_set_other ?_ ?h _); (case h => (dsimp only; omega))) | (with_reducible refine blk_alloc_other ?_ _) | (with_reducible refine blk_drew ?_) | ((with_reducible refine (hbb.block _ ?h).trans ?_); (case h => (first | omega | (simp only [World.size_drew, World.size_alloc]; omega)))) | ((with_reducible refine (hba.block _ ?h).trans ?_); (case h => (first | omega | (simp only [World.size_drew, World.size_alloc]; omega))))))
  · (repeat (first | (with_reducible exact blk_alloc_new _ _) | (with_reducible exact blk_alloc_new1 _ _ _) | ((with_reducible refine blk_alloc_at _ _ ?_); (simp only [World.size_setCell, World.size_drew, World.size_alloc]; done)) | (with_reducible refine blk_set3 (x := .int .i64 0) (y := .int .i64 0) (z := .slice none 0 0) ?_ _ _ _) | ((with_reducible refine blk_set_other ?_ ?h _); (case h => (dsimp only; omega))) | (with_reducible refine blk_alloc_other ?_ _) | (with_reducible refine blk_drew ?_) | ((with_reducible refine (hbb.block _ ?h).trans ?_); (case h => (first | omega | (simp only [World.size_drew, World.size_alloc]; omega)))) | ((with_reducible refine (hba.block _ ?h).trans ?_); (case h => (first | omega | (simp only [World.size_drew, World.size_alloc]; omega))))))
  · (repeat (first | (with_reducible exact hrB) | (with_reducible refine RowAt.set ?_ (by dsimp only; omega) _) | (with_reducible refine RowAt.alloc ?_ _)))
  · (repeat (first | (with_reducible exact hrb) | (with_reducible refine RowAt.set ?_ (by dsimp only; omega) _) | (with_reducible refine RowAt.alloc ?_ _)))
  · (repeat (first | (with_reducible exact blk_alloc_new _ _) | (with_reducible exact blk_alloc_new1 _ _ _) | ((with_reducible refine blk_alloc_at _ _ ?_); (simp only [World.size_setCell, World.size_drew, World.size_alloc]; done)) | (with_reducible refine blk_set3 (x := .int .i64 0) (y := .int .i64 0) (z := .slice none 0 0) ?_ _ _ _) | ((with_reducible refine blk_set_other ?_ ?h _); (case h => (dsimp only; omega))) | (with_reducible refine blk_alloc_other ?_ _) | (with_reducible refine blk_drew ?_) | ((with_reducible refine (hbb.block _ ?h).trans ?_); (case h => (first | omega | (simp only [World.size_drew, World.size_alloc]; omega)))) | ((with_reducible refine (hba.block _ ?h).trans ?_); (case h => (first | omega | (simp only [World.size_drew, World.size_alloc]; omega))))))
  · (repeat (first | (with_reducible exact blk_alloc_new _ _) | (with_reducible exact blk_alloc_new1 _ _ _) | ((with_reducible refine blk_alloc_at _ _ ?_); (simp only [World.size_setCell, World.size_drew, World.size_alloc]; done)) | (with_reducible refine blk_set3 (x := .int .i64 0) (y := .int .i64 0) (z := .slice none 0 0) ?_ _ _ _) | ((with_reducible refine blk_set_other ?_ ?h _); (case h => (dsimp only; omega))) | (with_reducible refine blk_alloc_other ?_ _) | (with_reducible refine blk_drew ?_) | ((with_reducible refine (hbb.block _ ?h).trans ?_); (case h => (first | omega | (simp only [World.size_drew, World.size_alloc]; omega)))) | ((with_reducible refine (hba.block _ ?h).trans ?_); (case h => (first | omega | (simp only [World.size_drew, World.size_alloc]; omega))))))
  · (repeat (first | (with_reducible exact hb3) | (with_reducible refine below_alloc ?_ HS3 _) | (with_reducible refine Below.drew ?_) | (with_reducible refine Below.setCell ?_ (by dsimp only; omega) _)))

set_option maxHeartbeats 1600000 in
theorem made_01_8 {w W0 W1 wA wB : World} {W H : Nat} {n ga gb : Nat} {ks js : List Int} (hb2 : Below (w.heap.size + 3) W0 W1) (HS3 : w.heap.size + 3 ≤ W0.heap.size)
    (hba : Below W1.drew.heap.size W1.drew wA) (hga : W1.drew.heap.size ≤ ga) (hra : RowAt wA ga n ks) (hbb : Below (wA.alloc (.cells #[.int .i64 0, .int .i64 0, .slice none 0 0] 76)).heap.size (wA.alloc (.cells #[.int .i64 0, .int .i64 0, .slice none 0 0] 76)) wB) (hgb : (wA.alloc (.cells #[.int .i64 0, .int .i64 0, .slice none 0 0] 76)).heap.size ≤ gb) (hrb : RowAt wB gb n js) (hb3 : Below (w.heap.size + 3) W0 wB) :
    GridsMade w W0 W H n ks js (.pointer (some ⟨wB.heap.size, 0, none⟩)) (.pointer (some ⟨wA.heap.size, 0, none⟩)) ((((wB.setCell ⟨wA.heap.size, 0, none⟩ (.int .i64 W)).setCell ⟨wA.heap.size, 1, none⟩ (.int .i64 H)).setCell ⟨wA.heap.size, 2, none⟩ (.slice (some ⟨gb, 0, none⟩) n n)).alloc (.cells #[.int .i64 W, .int .i64 H, .slice (some ⟨ga, 0, none⟩) n n] 76)) := by
  have s1 := hb2.size
  have s2 := hba.size
  have s3 := hbb.size
  have l1 := hra.lt
  have l2 := hrb.lt
  simp only [World.size_drew, World.size_alloc] at s2 s3 hga hgb
  have hrB : RowAt wB ga n ks := RowAt.below (RowAt.alloc hra _) hbb (by first | omega | (simp only [World.size_alloc]; omega))
  refine ⟨_, _, ga, gb, rfl, rfl, GridAt.of_blk (T := 76) ?_, GridAt.of_blk (T := 76) ?_, ?_, ?_, lt_of_blk (o := .cells #[.int .i64 W, .int .i64 H, .slice (some ⟨ga, 0, none⟩) n n] 76 (0, 0)) ?_, lt_of_blk (o := .cells #[.int .i64 W, .int .i64 H, .slice (some ⟨gb, 0, none⟩) n n] 76 (0, 0)) ?_, ?_⟩
  · (repeat (first | (with_reducible exact blk_alloc_new _ _) | (with_reducible exact blk_alloc_new1 _ _ _) | ((with_reducible refine blk_alloc_at _ _ ?_); (simp only [World.size_setCell, World.size_drew, World.size_alloc]; done)) | (with_reducible refine blk_set3 (x := .int .i64 0) (y := .int .i64 0) (z := .slice none 0 0) ?_ _ _ _) | ((with_reducible refine blk_set_other ?_ ?h _); (case h => (dsimp only; omega))) | (with_reducible refine blk_alloc_other ?_ _) | (with_reducible refine blk_drew ?_) | ((with_reducible refine (hbb.block _ ?h).trans ?_); (case h => (first | omega | (simp only [World.size_drew, World.size_alloc]; omega)))) | ((with_reducible refine (hba.block _ ?h).trans ?_); (case h => (first | omega | (simp only [World.size_drew, World.size_alloc]; omega))))))
  · (repeat (first | (with_reducible exact blk_alloc_new _ _) | (with_reducible exact blk_alloc_new1 _ _ _) | ((with_reducible refine blk_alloc_at _ _ ?_); (simp only [World.size_setCell, World.size_drew, World.size_alloc]; done)) | (with_reducible refine blk_set3 (x := .int .i64 0) (y := .int .i64 0) (z := .slice none 0 0) ?_ _ _ _) | ((with_reducible refine blk_set_other ?_ ?h _); (case h => (dsimp only; omega))) | (with_reducible refine blk_alloc_other ?_ _) | (with_reducible refine blk_drew ?_) | ((with_reducible refine (hbb.block _ ?h).trans ?_); (case h => (first | omega | (simp only [World.size_drew, World.size_alloc]; omega)))) | ((with_reducible refine (hba.block _ ?h).trans ?_); (case h => (first | omega | (simp only [World.size_drew, World.size_alloc]; omega))))))
  · (repeat (first | (with_reducible exact hrB) | (with_reducible refine RowAt.set ?_ (by dsimp only; omega) _) | (with_reducible refine RowAt.alloc ?_ _)))
  · (repeat (first | (with_reducible exact hrb) | (with_reducible refine RowAt.set ?_ (by dsimp only; omega) _) | (with_reducible refine RowAt.alloc ?_ _)))
  · (repeat (first | (with_reducible exact blk_alloc_new _ _) | (with_reducible exact blk_alloc_new1 _ _ _) | ((with_reducible refine blk_alloc_at _ _ ?_); (simp only [World.size_setCell, World.size_drew, World.size_alloc]; done)) | (with_reducible refine blk_set3 (x := .int .i64 0) (y := .int .i64 0) (z := .slice none 0 0) ?_ _ _ _) | ((with_reducible refine blk_set_other ?_ ?h _); (case h => (dsimp only; omega))) | (with_reducible refine blk_alloc_other ?_ _) | (with_reducible refine blk_drew ?_) | ((with_reducible refine (hbb.block _ ?h).trans ?_); (case h => (first | omega | (simp only [World.size_drew, World.size_alloc]; omega)))) | ((with_reducible refine (hba.block _ ?h).trans ?_); (case h => (first | omega | (simp only [World.size_drew, World.size_alloc]; omega))))))
  · (repeat (first | (with_reducible exact blk_alloc_new _ _) | (with_reducible exact blk_alloc_new1 _ _ _) | ((with_reducible refine blk_alloc_at _ _ ?_); (simp only [World.size_setCell, World.size_drew, World.size_alloc]; done)) | (with_reducible refine blk_set3 (x := .int .i64 0) (y := .int .i64 0) (z := .slice none 0 0) ?_ _ _ _) | ((with_reducible refine blk_set_other ?_ ?h _); (case h => (dsimp only; omega))) | (with_reducible refine blk_alloc_other ?_ _) | (with_reducible refine blk_drew ?_) | ((with_reducible refine (hbb.block _ ?h).trans ?_); (case h => (first | omega | (simp only [World.size_drew, World.size_alloc]; omega)))) | ((with_reducible refine (hba.block _ ?h).trans ?_); (case h => (first | omega | (simp only [World.size_drew, World.size_alloc]; omega))))))
  · (repeat (first | (with_reducible exact hb3) | (with_reducible refine below_alloc ?_ HS3 _) | (with_reducible refine Below.drew ?_) | (with_reducible refine Below.setCell ?_ (by dsimp only; omega) _)))

set_option maxHeartbeats 1600000 in
theorem made_02_7 {w W0 W1 wA wB : World} {W H : Nat} {n ga gb : Nat} {ks js : List Int} (hb2 : Below (w.heap.size + 3) W0 W1) (HS3 : w.heap.size + 3 ≤ W0.heap.size)
    (hba : Below W1.drew.heap.size W1.drew wA) (hga : W1.drew.heap.size ≤ ga) (hra : RowAt wA ga n ks) (hbb : Below ((wA.alloc (.cells #[.int .i64 0, .int .i64 0, .slice none 0 0] 76)).alloc (.cells #[.int .i64 0, .int .i64 0, .slice none 0 0] 76)).heap.size ((wA.alloc (.cells #[.int .i64 0, .int .i64 0, .slice none 0 0] 76)).alloc (.cells #[.int .i64 0, .int .i64 0, .slice none 0 0] 76)) wB) (hgb : ((wA.alloc (.cells #[.int .i64 0, .int .i64 0, .slice none 0 0] 76)).alloc (.cells #[.int .i64 0, .int .i64 0, .slice none 0 0] 76)).heap.size ≤ gb) (hrb : RowAt wB gb n js) (hb3 : Below (w.heap.size + 3) W0 wB) :
    GridsMade w W0 W H n ks js (.pointer (some ⟨wA.heap.size, 0, none⟩)) (.pointer (some ⟨wA.heap.size + 1, 0, none⟩)) ((((((wB.setCell ⟨wA.heap.size, 0, none⟩ (.int .i64 W)).setCell ⟨wA.heap.size, 1, none⟩ (.int .i64 H)).setCell ⟨wA.heap.size, 2, none⟩ (.slice (some ⟨ga, 0, none⟩) n n)).setCell ⟨wA.heap.size + 1, 0, none⟩ (.int .i64 W)).setCell ⟨wA.heap.size + 1, 1, none⟩ (.int .i64 H)).setCell ⟨wA.heap.size + 1, 2, none⟩ (.slice (some ⟨gb, 0, none⟩) n n)) := by
  have s1 := hb2.size
  have s2 := hba.size
  have s3 := hbb.size
  have l1 := hra.lt
  have l2 := hrb.lt
  simp only [World.size_drew, World.size_alloc] at s2 s3 hga hgb
  have hrB : RowAt wB ga n ks := RowAt.below (RowAt.alloc (RowAt.alloc hra _) _) hbb (by first | omega | (simp only [World.size_alloc]; omega))
  refine ⟨_, _, ga, gb, rfl, rfl, GridAt.of_blk (T := 76) ?_, GridAt.of_blk (T := 76) ?_, ?_, ?_, lt_of_blk (o := .cells #[.int .i64 W, .int .i64 H, .slice (some ⟨ga, 0, none⟩) n n] 76 (0, 0)) ?_, lt_of_blk (o := .cells #[.int .i64 W, .int .i64 H, .slice (some ⟨gb, 0, none⟩) n n] 76 (0, 0)) ?_, ?_⟩
  · (repeat (first | (with_reducible exact blk_alloc_new _ _) | (with_reducible exact blk_alloc_new1 _ _ _) | ((with_reducible refine blk_alloc_at _ _ ?_); (simp only [World.size_setCell, World.size_drew, World.size_alloc]; done)) | (with_reducible refine blk_set3 (x := .int .i64 0) (y := .int .i64 0) (z := .slice none 0 0) ?_ _ _ _) | ((with_reducible refine blk_set_other ?_ ?h _); (case h => (dsimp only; omega))) | (with_reducible refine blk_alloc_other ?_ _) | (with_reducible refine blk_drew ?_) | ((with_reducible refine (hbb.block _ ?h).trans ?_); (case h => (first | omega | (simp only [World.size_drew, World.size_alloc]; omega)))) | ((with_reducible refine (hba.block _ ?h).trans ?_); (case h => (first | omega | (simp only [World.size_drew, World.size_alloc]; omega))))))
  · (repeat (first | (with_reducible exact blk_alloc_new _ _) | (with_reducible exact blk_alloc_new1 _ _ _) | ((with_reducible refine blk_alloc_at _ _ ?_); (simp only [World.size_setCell, World.size_drew, World.size_alloc]; done)) | (with_reducible refine blk_set3 (x := .int .i64 0) (y := .int .i64 0) (z := .slice none 0 0) ?_ _ _ _) | ((with_reducible refine blk_set_other ?_ ?h _); (case h => (dsimp only; omega))) | (with_reducible refine blk_alloc_other ?_ _) | (with_reducible refine blk_drew ?_) | ((with_reducible refine (hbb.block _ ?h).trans ?_); (case h => (first | omega | (simp only [World.size_drew, World.size_alloc]; omega)))) | ((with_reducible refine (hba.block _ ?h).trans ?_); (case h => (first | omega | (simp only [World.size_drew, World.size_alloc]; omega))))))
  · (repeat (first | (with_reducible exact hrB) | (with_reducible refine RowAt.set ?_ (by dsimp only; omega) _) | (with_reducible refine RowAt.alloc ?_ _)))
  · (repeat (first | (with_reducible exact hrb) | (with_reducible refine RowAt.set ?_ (by dsimp only; omega) _) | (with_reducible refine RowAt.alloc ?_ _)))
  · (repeat (first | (with_reducible exact blk_alloc_new _ _) | (with_reducible exact blk_alloc_new1 _ _ _) | ((with_reducible refine blk_alloc_at _ _ ?_); (simp only [World.size_setCell, World.size_drew, World.size_alloc]; done)) | (with_reducible refine blk_set3 (x := .int .i64 0) (y := .int .i64 0) (z := .slice none 0 0) ?_ _ _ _) | ((with_reducible refine blk_set_other ?_ ?h _); (case h => (dsimp only; omega))) | (with_reducible refine blk_alloc_other ?_ _) | (with_reducible refine blk_drew ?_) | ((with_reducible refine (hbb.block _ ?h).trans ?_); (case h => (first | omega | (simp only [World.size_drew, World.size_alloc]; omega)))) | ((with_reducible refine (hba.block _ ?h).trans ?_); (case h => (first | omega | (simp only [World.size_drew, World.size_alloc]; omega))))))
  · (repeat (first | (with_reducible exact blk_alloc_new _ _) | (with_reducible exact blk_alloc_new1 _ _ _) | ((with_reducible refine blk_alloc_at _ _ ?_); (simp only [World.size_setCell, World.size_drew, World.size_alloc]; done)) | (with_reducible refine blk_set3 (x := .int .i64 0) (y := .int .i64 0) (z := .slice none 0 0) ?_ _ _ _) | ((with_reducible refine blk_set_other ?_ ?h _); (case h => (dsimp only; omega))) | (with_reducible refine blk_alloc_other ?_ _) | (with_reducible refine blk_drew ?_) | ((with_reducible refine (hbb.block _ ?h).trans ?_); (case h => (first | omega | (simp only [World.size_drew, World.size_alloc]; omega)))) | ((with_reducible refine (hba.block _ ?h).trans ?_); (case h => (first | omega | (simp only [World.size_drew, World.size_alloc]; omega))))))
  · (repeat (first | (with_reducible exact hb3) | (with_reducible refine below_alloc ?_ HS3 _) | (with_reducible refine Below.drew ?_) | (with_reducible refine Below.setCell ?_ (by dsimp only; omega) _)))

set_option maxHeartbeats 1600000 in
theorem made_02_8 {w W0 W1 wA wB : World} {W H : Nat} {n ga gb : Nat} {ks js : List Int} (hb2 : Below (w.heap.size + 3) W0 W1) (HS3 : w.heap.size + 3 ≤ W0.heap.size)
    (hba : Below W1.drew.heap.size W1.drew wA) (hga : W1.drew.heap.size ≤ ga) (hra : RowAt wA ga n ks) (hbb : Below ((wA.alloc (.cells #[.int .i64 0, .int .i64 0, .slice none 0 0] 76)).alloc (.cells #[.int .i64 0, .int .i64 0, .slice none 0 0] 76)).heap.size ((wA.alloc (.cells #[.int .i64 0, .int .i64 0, .slice none 0 0] 76)).alloc (.cells #[.int .i64 0, .int .i64 0, .slice none 0 0] 76)) wB) (hgb : ((wA.alloc (.cells #[.int .i64 0, .int .i64 0, .slice none 0 0] 76)).alloc (.cells #[.int .i64 0, .int .i64 0, .slice none 0 0] 76)).heap.size ≤ gb) (hrb : RowAt wB gb n js) (hb3 : Below (w.heap.size + 3) W0 wB) :
    GridsMade w W0 W H n ks js (.pointer (some ⟨wA.heap.size + 1, 0, none⟩)) (.pointer (some ⟨wA.heap.size, 0, none⟩)) ((((((wB.setCell ⟨wA.heap.size + 1, 0, none⟩ (.int .i64 W)).setCell ⟨wA.heap.size + 1, 1, none⟩ (.int .i64 H)).setCell ⟨wA.heap.size + 1, 2, none⟩ (.slice (some ⟨ga, 0, none⟩) n n)).setCell ⟨wA.heap.size, 0, none⟩ (.int .i64 W)).setCell ⟨wA.heap.size, 1, none⟩ (.int .i64 H)).setCell ⟨wA.heap.size, 2, none⟩ (.slice (some ⟨gb, 0, none⟩) n n)) := by
  have s1 := hb2.size
  have s2 := hba.size
  have s3 := hbb.size
  have l1 := hra.lt
  have l2 := hrb.lt
  simp only [World.size_drew, World.size_alloc] at s2 s3 hga hgb
  have hrB : RowAt wB ga n ks := RowAt.below (RowAt.alloc (RowAt.alloc hra _) _) hbb (by first | omega | (simp only [World.size_alloc]; omega))
  refine ⟨_, _, ga, gb, rfl, rfl, GridAt.of_blk (T := 76) ?_, GridAt.of_blk (T := 76) ?_, ?_, ?_, lt_of_blk (o := .cells #[.int .i64 W, .int .i64 H, .slice (some ⟨ga, 0, none⟩) n n] 76 (0, 0)) ?_, lt_of_blk (o := .cells #[.int .i64 W, .int .i64 H, .slice (some ⟨gb, 0, none⟩) n n] 76 (0, 0)) ?_, ?_⟩
  · (repeat (first | (with_reducible exact blk_alloc_new _ _) | (with_reducible exact blk_alloc_new1 _ _ _) | ((with_reducible refine blk_alloc_at _ _ ?_); (simp only [World.size_setCell, World.size_drew, World.size_alloc]; done)) | (with_reducible refine blk_set3 (x := .int .i64 0) (y := .int .i64 0) (z := .slice none 0 0) ?_ _ _ _) | ((with_reducible refine blk_set_other ?_ ?h _); (case h => (dsimp only; omega))) | (with_reducible refine blk_alloc_other ?_ _) | (with_reducible refine blk_drew ?_) | ((with_reducible refine (hbb.block _ ?h).trans ?_); (case h => (first | omega | (simp only [World.size_drew, World.size_alloc]; omega)))) | ((with_reducible refine (hba.block _ ?h).trans ?_); (case h => (first | omega | (simp only [World.size_drew, World.size_alloc]; omega))))))
  · (repeat (first | (with_reducible exact blk_alloc_new _ _) | (with_reducible exact blk_alloc_new1 _ _ _) | ((with_reducible refine blk_alloc_at _ _ ?_); (simp only [World.size_setCell, World.size_drew, World.size_alloc]; done)) | (with_reducible refine blk_set3 (x := .int .i64 0) (y := .int .i64 0) (z := .slice none 0 0) ?_ _ _ _) | ((with_reducible refine blk_set_other ?_ ?h _); (case h => (dsimp only; omega))) | (with_reducible refine blk_alloc_other ?_ _) | (with_reducible refine blk_drew ?_) | ((with_reducible refine (hbb.block _ ?h).trans ?_); (case h => (first | omega | (simp only [World.size_drew, World.size_alloc]; omega)))) | ((with_reducible refine (hba.block _ ?h).trans ?_); (case h => (first | omega | (simp only [World.size_drew, World.size_alloc]; omega))))))
  · (repeat (first | (with_reducible exact hrB) | (with_reducible refine RowAt.set ?_ (by dsimp only; omega) _) | (with_reducible refine RowAt.alloc ?_ _)))
  · (repeat (first | (with_reducible exact hrb) | (with_reducible refine RowAt.set ?_ (by dsimp only; omega) _) | (with_reducible refine RowAt.alloc ?_ _)))
  · (repeat (first | (with_reducible exact blk_alloc_new _ _) | (with_reducible exact blk_alloc_new1 _ _ _) | ((with_reducible refine blk_alloc_at _ _ ?_); (simp only [World.size_setCell, World.size_drew, World.size_alloc]; done)) | (with_reducible refine blk_set3 (x := .int .i64 0) (y := .int .i64 0) (z := .slice none 0 0) ?_ _ _ _) | ((with_reducible refine blk_set_other ?_ ?h _); (case h => (dsimp only; omega))) | (with_reducible refine blk_alloc_other ?_ _) | (with_reducible refine blk_drew ?_) | ((with_reducible refine (hbb.block _ ?h).trans ?_); (case h => (first | omega | (simp only [World.size_drew, World.size_alloc]; omega)))) | ((with_reducible refine (hba.block _ ?h).trans ?_); (case h => (first | omega | (simp only [World.size_drew, World.size_alloc]; omega))))))
  · (repeat (first | (with_reducible exact blk_alloc_new _ _) | (with_reducible exact blk_alloc_new1 _ _ _) | ((with_reducible refine blk_alloc_at _ _ ?_); (simp only [World.size_setCell, World.size_drew, World.size_alloc]; done)) | (with_reducible refine blk_set3 (x := .int .i64 0) (y := .int .i64 0) (z := .slice none 0 0) ?_ _ _ _) | ((with_reducible refine blk_set_other ?_ ?h _); (case h => (dsimp only; omega))) | (with_reducible refine blk_alloc_other ?_ _) | (with_reducible refine blk_drew ?_) | ((with_reducible refine (hbb.block _ ?h).trans ?_); (case h => (first | omega | (simp only [World.size_drew, World.size_alloc]; omega)))) | ((with_reducible refine (hba.block _ ?h).trans ?_); (case h => (first | omega | (simp only [World.size_drew, World.size_alloc]; omega))))))
  · (repeat (first | (with_reducible exact hb3) | (with_reducible refine below_alloc ?_ HS3 _) | (with_reducible refine Below.drew ?_) | (with_reducible refine Below.setCell ?_ (by dsimp only; omega) _)))

set_option maxHeartbeats 1600000 in
theorem made_10_7 {w W0 W1 wA wB : World} {W H : Nat} {n ga gb : Nat} {ks js : List Int} (hb2 : Below (w.heap.size + 3) W0 W1) (HS3 : w.heap.size + 3 ≤ W0.heap.size)
    (hba : Below (W1.alloc (.cells #[.int .i64 0, .int .i64 0, .slice none 0 0] 76)).drew.heap.size (W1.alloc (.cells #[.int .i64 0, .int .i64 0, .slice none 0 0] 76)).drew wA) (hga : (W1.alloc (.cells #[.int .i64 0, .int .i64 0, .slice none 0 0] 76)).drew.heap.size ≤ ga) (hra : RowAt wA ga n ks) (hbb : Below wA.heap.size wA wB) (hgb : wA.heap.size ≤ gb) (hrb : RowAt wB gb n js) (hb3 : Below (w.heap.size + 3) W0 wB) :
    GridsMade w W0 W H n ks js (.pointer (some ⟨W1.heap.size, 0, none⟩)) (.pointer (some ⟨wB.heap.size, 0, none⟩)) ((((wB.setCell ⟨W1.heap.size, 0, none⟩ (.int .i64 W)).setCell ⟨W1.heap.size, 1, none⟩ (.int .i64 H)).setCell ⟨W1.heap.size, 2, none⟩ (.slice (some ⟨ga, 0, none⟩) n n)).alloc (.cells #[.int .i64 W, .int .i64 H, .slice (some ⟨gb, 0, none⟩) n n] 76)) := by
  have s1 := hb2.size
  have s2 := hba.size
  have s3 := hbb.size
  have l1 := hra.lt
  have l2 := hrb.lt
  simp only [World.size_drew, World.size_alloc] at s2 s3 hga hgb
  have hrB : RowAt wB ga n ks := RowAt.below hra hbb (by first | omega | (simp only [World.size_alloc]; omega))
  refine ⟨_, _, ga, gb, rfl, rfl, GridAt.of_blk (T := 76) ?_, GridAt.of_blk (T := 76) ?_, ?_, ?_, lt_of_blk (o := .cells #[.int .i64 W, .int .i64 H, .slice (some ⟨ga, 0, none⟩) n n] 76 (0, 0)) ?_, lt_of_blk (o := .cells #[.int .i64 W, .int .i64 H, .slice (some ⟨gb, 0, none⟩) n n] 76 (0, 0)) ?_, ?_⟩
  · (repeat (first | (with_reducible exact blk_alloc_new _ _) | (with_reducible exact blk_alloc_new1 _ _ _) | ((with_reducible refine blk_alloc_at _ _ ?_); (simp only [World.size_setCell, World.size_drew, World.size_alloc]; done)) | (with_reducible refine blk_set3 (x := .int .i64 0) (y := .int .i64 0) (z := .slice none 0 0) ?_ _ _ _) | ((with_reducible refine blk_set_other ?_ ?h _); (case h => (dsimp only; omega))) | (with_reducible refine blk_alloc_other ?_ _) | (with_reducible refine blk_drew ?_) | ((with_reducible refine (hbb.block _ ?h).trans ?_); (case h => (first | omega | (simp only [World.size_drew, World.size_alloc]; omega)))) | ((with_reducible refine (hba.block _ ?h).trans ?_); (case h => (first | omega | (simp only [World.size_drew, World.size_alloc]; omega))))))
  · (repeat (first | (with_reducible exact blk_alloc_new _ _) | (with_reducible exact blk_alloc_new1 _ _ _) | ((with_reducible refine blk_alloc_at _ _ ?_); (simp only [World.size_setCell, World.size_drew, World.size_alloc]; done)) | (with_reducible refine blk_set3 (x := .int .i64 0) (y := .int .i64 0) (z := .slice none 0 0) ?_ _ _ _) | ((with_reducible refine blk_set_other ?_ ?h _); (case h => (dsimp only; omega))) | (with_reducible refine blk_alloc_other ?_ _) | (with_reducible refine blk_drew ?_) | ((with_reducible refine (hbb.block _ ?h).trans ?_); (case h => (first | omega | (simp only [World.size_drew, World.size_alloc]; omega)))) | ((with_reducible refine (hba.block _ ?h).trans ?_); (case h => (first | omega | (simp only [World.size_drew, World.size_alloc]; omega))))))
  · (repeat (first | (with_reducible exact hrB) | (with_reducible refine RowAt.set ?_ (by dsimp only; omega) _) | (with_reducible refine RowAt.alloc ?_ _)))
  · (repeat (first | (with_reducible exact hrb) | (with_reducible refine RowAt.set ?_ (by dsimp only; omega) _) | (with_reducible refine RowAt.alloc ?_ _)))
  · (repeat (first | (with_reducible exact blk_alloc_new _ _) | (with_reducible exact blk_alloc_new1 _ _ _) | ((with_reducible refine blk_alloc_at _ _ ?_); (simp only [World.size_setCell, World.size_drew, World.size_alloc]; done)) | (with_reducible refine blk_set3 (x := .int .i64 0) (y := .int .i64 0) (z := .slice none 0 0) ?_ _ _ _) | ((with_reducible refine blk_set_other ?_ ?h _); (case h => (dsimp only; omega))) | (with_reducible refine blk_alloc_other ?_ _) | (with_reducible refine blk_drew ?_) | ((with_reducible refine (hbb.block _ ?h).trans ?_); (case h => (first | omega | (simp only [World.size_drew, World.size_alloc]; omega)))) | ((with_reducible refine (hba.block _ ?h).trans ?_); (case h => (first | omega | (simp only [World.size_drew, World.size_alloc]; omega))))))
  · (repeat (first | (with_reducible exact blk_alloc_new _ _) | (with_reducible exact blk_alloc_new1 _ _ _) | ((with_reducible refine blk_alloc_at _ _ ?_); (simp only [World.size_setCell, World.size_drew, World.size_alloc]; done)) | (with_reducible refine blk_set3 (x := .int .i64 0) (y := .int .i64 0) (z := .slice none 0 0) ?_ _ _ _) | ((with_reducible refine blk_set_other ?_ ?h _); (case h => (dsimp only; omega))) | (with_reducible refine blk_alloc_other ?_ _) | (with_reducible refine blk_drew ?_) | ((with_reducible refine (hbb.block _ ?h).trans ?_); (case h => (first | omega | (simp only [World.size_drew, World.size_alloc]; omega)))) | ((with_reducible refine (hba.block _ ?h).trans ?_); (case h => (first | omega | (simp only [World.size_drew, World.size_alloc]; omega))))))
  · (repeat (first | (with_reducible exact hb3) | (with_reducible refine below_alloc ?_ HS3 _) | (with_reducible refine Below.drew ?_) | (with_reducible refine Below.setCell ?_ (by dsimp only; omega) _)))

set_option maxHeartbeats 1600000 in
theorem made_10_8 {w W0 W1 wA wB : World} {W H : Nat} {n ga gb : Nat} {ks js : List Int} (hb2 : Below (w.heap.size + 3) W0 W1) (HS3 : w.heap.size + 3 ≤ W0.heap.size)
    (hba : Below (W1.alloc (.cells #[.int .i64 0, .int .i64 0, .slice none 0 0] 76)).drew.heap.size (W1.alloc (.cells #[.int .i64 0, .int .i64 0, .slice none 0 0] 76)).drew wA) (hga : (W1.alloc (.cells #[.int .i64 0, .int .i64 0, .slice none 0 0] 76)).drew.heap.size ≤ ga) (hra : RowAt wA ga n ks) (hbb : Below wA.heap.size wA wB) (hgb : wA.heap.size ≤ gb) (hrb : RowAt wB gb n js) (hb3 : Below (w.heap.size + 3) W0 wB) :
    GridsMade w W0 W H n ks js (.pointer (some ⟨wB.heap.size, 0, none⟩)) (.pointer (some ⟨W1.heap.size, 0, none⟩)) ((((wB.setCell ⟨W1.heap.size, 0, none⟩ (.int .i64 W)).setCell ⟨W1.heap.size, 1, none⟩ (.int .i64 H)).setCell ⟨W1.heap.size, 2, none⟩ (.slice (some ⟨gb, 0, none⟩) n n)).alloc (.cells #[.int .i64 W, .int .i64 H, .slice (some ⟨ga, 0, none⟩) n n] 76)) := by
  have s1 := hb2.size
  have s2 := hba.size
  have s3 := hbb.size
  have l1 := hra.lt
  have l2 := hrb.lt
  simp only [World.size_drew, World.size_alloc] at s2 s3 hga hgb
  have hrB : RowAt wB ga n ks := RowAt.below hra hbb (by first | omega | (simp only [World.size_alloc]; omega))
  refine ⟨_, _, ga, gb, rfl, rfl, GridAt.of_blk (T := 76) ?_, GridAt.of_blk (T := 76) ?_, ?_, ?_, lt_of_blk (o := .cells #[.int .i64 W, .int .i64 H, .slice (some ⟨ga, 0, none⟩) n n] 76 (0, 0)) ?_, lt_of_blk (o := .cells #[.int .i64 W, .int .i64 H, .slice (some ⟨gb, 0, none⟩) n n] 76 (0, 0)) ?_, ?_⟩
  · (repeat (first | (with_reducible exact blk_alloc_new _ _) | (with_reducible exact blk_alloc_new1 _ _ _) | ((with_reducible refine blk_alloc_at _ _ ?_); (simp only [World.size_setCell, World.size_drew, World.size_alloc]; done)) | (with_reducible refine blk_set3 (x := .int .i64 0) (y := .int .i64 0) (z := .slice none 0 0) ?_ _ _ _) | ((with_reducible refine blk_set_other ?_ ?h _); (case h => (dsimp only; omega))) | (with_reducible refine blk_alloc_other ?_ _) | (with_reducible refine blk_drew ?_) | ((with_reducible refine (hbb.block _ ?h).trans ?_); (case h => (first | omega | (simp only [World.size_drew, World.size_alloc]; omega)))) | ((with_reducible refine (hba.block _ ?h).trans ?_); (case h => (first | omega | (simp only [World.size_drew, World.size_alloc]; omega))))))
  · (repeat (first | (with_reducible exact blk_alloc_new _ _) | (with_reducible exact blk_alloc_new1 _ _ _) | ((with_reducible refine blk_alloc_at _ _ ?_); (simp only [World.size_setCell, World.size_drew, World.size_alloc]; done)) | (with_reducible refine blk_set3 (x := .int .i64 0) (y := .int .i64 0) (z := .slice none 0 0) ?_ _ _ _) | ((with_reducible refine blk_set_other ?_ ?h _); (case h => (dsimp only; omega))) | (with_reducible refine blk_alloc_other ?_ _) | (with_reducible refine blk_drew ?_) | ((with_reducible refine (hbb.block _ ?h).trans ?_); (case h => (first | omega | (simp only [World.size_drew, World.size_alloc]; omega)))) | ((with_reducible refine (hba.block _ ?h).trans ?_); (case h => (first | omega | (simp only [World.size_drew, World.size_alloc]; omega))))))
  · (repeat (first | (with_reducible exact hrB) | (with_reducible refine RowAt.set ?_ (by dsimp only; omega) _) | (with_reducible refine RowAt.alloc ?_ _)))
  · (repeat (first | (with_reducible exact hrb) | (with_reducible refine RowAt.set ?_ (by dsimp only; omega) _) | (with_reducible refine RowAt.alloc ?_ _)))
  · (repeat (first | (with_reducible exact blk_alloc_new _ _) | (with_reducible exact blk_alloc_new1 _ _ _) | ((with_reducible refine blk_alloc_at _ _ ?_); (simp only [World.size_setCell, World.size_drew, World.size_alloc]; done)) | (with_reducible refine blk_set3 (x := .int .i64 0) (y := .int .i64 0) (z := .slice none 0 0) ?_ _ _ _) | ((with_reducible refine blk_set_other ?_ ?h _); (case h => (dsimp only; omega))) | (with_reducible refine blk_alloc_other ?_ _) | (with_reducible refine blk_drew ?_) | ((with_reducible refine (hbb.block _ ?h).trans ?_); (case h => (first | omega | (simp only [World.size_drew, World.size_alloc]; omega)))) | ((with_reducible refine (hba.block _ ?h).trans ?_); (case h => (first | omega | (simp only [World.size_drew, World.size_alloc]; omega))))))
  · (repeat (first | (with_reducible exact blk_alloc_new _ _) | (with_reducible exact blk_alloc_new1 _ _ _) | ((with_reducible refine blk_alloc_at _ _ ?_); (simp only [World.size_setCell, World.size_drew, World.size_alloc]; done)) | (with_reducible refine blk_set3 (x := .int .i64 0) (y := .int .i64 0) (z := .slice none 0 0) ?_ _ _ _) | ((with_reducible refine blk_set_other ?_ ?h _); (case h => (dsimp only; omega))) | (with_reducible refine blk_alloc_other ?_ _) | (with_reducible refine blk_drew ?_) | ((with_reducible refine (hbb.block _ ?h).trans ?_); (case h => (first | omega | (simp only [World.size_drew, World.size_alloc]; omega)))) | ((with_reducible refine (hba.block _ ?h).trans ?_); (case h => (first | omega | (simp only [World.size_drew, World.size_alloc]; omega))))))
  · (repeat (first | (with_reducible exact hb3) | (with_reducible refine below_alloc ?_ HS3 _) | (with_reducible refine Below.drew ?_) | (with_reducible refine Below.setCell ?_ (by dsimp only; omega) _)))

set_option maxHeartbeats 1600000 in
theorem made_11_7 {w W0 W1 wA wB : World} {W H : Nat} {n ga gb : Nat} {ks js : List Int} (hb2 : Below (w.heap.size + 3) W0 W1) (HS3 : w.heap.size + 3 ≤ W0.heap.size)
    (hba : Below (W1.alloc (.cells #[.int .i64 0, .int .i64 0, .slice none 0 0] 76)).drew.heap.size (W1.alloc (.cells #[.int .i64 0, .int .i64 0, .slice none 0 0] 76)).drew wA) (hga : (W1.alloc (.cells #[.int .i64 0, .int .i64 0, .slice none 0 0] 76)).drew.heap.size ≤ ga) (hra : RowAt wA ga n ks) (hbb : Below (wA.alloc (.cells #[.int .i64 0, .int .i64 0, .slice none 0 0] 76)).heap.size (wA.alloc (.cells #[.int .i64 0, .int .i64 0, .slice none 0 0] 76)) wB) (hgb : (wA.alloc (.cells #[.int .i64 0, .int .i64 0, .slice none 0 0] 76)).heap.size ≤ gb) (hrb : RowAt wB gb n js) (hb3 : Below (w.heap.size + 3) W0 wB) :
    GridsMade w W0 W H n ks js (.pointer (some ⟨W1.heap.size, 0, none⟩)) (.pointer (some ⟨wA.heap.size, 0, none⟩)) ((((((wB.setCell ⟨W1.heap.size, 0, none⟩ (.int .i64 W)).setCell ⟨W1.heap.size, 1, none⟩ (.int .i64 H)).setCell ⟨W1.heap.size, 2, none⟩ (.slice (some ⟨ga, 0, none⟩) n n)).setCell ⟨wA.heap.size, 0, none⟩ (.int .i64 W)).setCell ⟨wA.heap.size, 1, none⟩ (.int .i64 H)).setCell ⟨wA.heap.size, 2, none⟩ (.slice (some ⟨gb, 0, none⟩) n n)) := by
  have s1 := hb2.size
  have s2 := hba.size
  have s3 := hbb.size
  have l1 := hra.lt
  have l2 := hrb.lt
  simp only [World.size_drew, World.size_alloc] at s2 s3 hga hgb
  have hrB : RowAt wB ga n ks := RowAt.below (RowAt.alloc hra _) hbb (by first | omega | (simp only [World.size_alloc]; omega))
  refine ⟨_, _, ga, gb, rfl, rfl, GridAt.of_blk (T := 76) ?_, GridAt.of_blk (T := 76) ?_, ?_, ?_, lt_of_blk (o := .cells #[.int .i64 W, .int .i64 H, .slice (some ⟨ga, 0, none⟩) n n] 76 (0, 0)) ?_, lt_of_blk (o := .cells #[.int .i64 W, .int .i64 H, .slice (some ⟨gb, 0, none⟩) n n] 76 (0, 0)) ?_, ?_⟩
  · (repeat (first | (with_reducible exact blk_alloc_new _ _) | (with_reducible exact blk_alloc_new1 _ _ _) | ((with_reducible refine blk_alloc_at _ _ ?_); (simp only [World.size_setCell, World.size_drew, World.size_alloc]; done)) | (with_reducible refine blk_set3 (x := .int .i64 0) (y := .int .i64 0) (z := .slice none 0 0) ?_ _ _ _) | ((with_reducible refine blk_set_other ?_ ?h _); (case h => (dsimp only; omega))) | (with_reducible refine blk_alloc_other ?_ _) | (with_reducible refine blk_drew ?_) | ((with_reducible refine (hbb.block _ ?h).trans ?_); (case h => (first | omega | (simp only [World.size_drew, World.size_alloc]; omega)))) | ((with_reducible refine (hba.block _ ?h).trans ?_); (case h => (first | omega | (simp only [World.size_drew, World.size_alloc]; omega))))))
  · (repeat (first | (with_reducible exact blk_alloc_new _ _) | (with_reducible exact blk_alloc_new1 _ _ _) | ((with_reducible refine blk_alloc_at _ _ ?_); (simp only [World.size_setCell, World.size_drew, World.size_alloc]; done)) | (with_reducible refine blk_set3 (x := .int .i64 0) (y := .int .i64 0) (z := .slice none 0 0) ?_ _ _ _) | ((with_reducible refine blk_set_other ?_ ?h _); (case h => (dsimp only; omega))) | (with_reducible refine blk_alloc_other ?_ _) | (with_reducible refine blk_drew ?_) | ((with_reducible refine (hbb.block _ ?h).trans ?_); (case h => (first | omega | (simp only [World.size_drew, World.size_alloc]; omega)))) | ((with_reducible refine (hba.block _ ?h).trans ?_); (case h => (first | omega | (simp only [World.size_drew, World.size_alloc]; omega))))))
  · (repeat (first | (with_reducible exact hrB) | (with_reducible refine RowAt.set ?_ (by dsimp only; omega) _) | (with_reducible refine RowAt.alloc ?_ _)))
  · (repeat (first | (with_reducible exact hrb) | (with_reducible refine RowAt.set ?_ (by dsimp only; omega) _) | (with_reducible refine RowAt.alloc ?_ _)))
  · (repeat (first | (with_reducible exact blk_alloc_new _ _) | (with_reducible exact blk_alloc_new1 _ _ _) | ((with_reducible refine blk_alloc_at _ _ ?_); (simp only [World.size_setCell, World.size_drew, World.size_alloc]; done)) | (with_reducible refine blk_set3 (x := .int .i64 0) (y := .int .i64 0) (z := .slice none 0 0) ?_ _ _ _) | ((with_reducible refine blk_set_other ?_ ?h _); (case h => (dsimp only; omega))) | (with_reducible refine blk_alloc_other ?_ _) | (with_reducible refine blk_drew ?_) | ((with_reducible refine (hbb.block _ ?h).trans ?_); (case h => (first | omega | (simp only [World.size_drew, World.size_alloc]; omega)))) | ((with_reducible refine (hba.block _ ?h).trans ?_); (case h => (first | omega | (simp only [World.size_drew, World.size_alloc]; omega))))))
  · (repeat (first | (with_reducible exact blk_alloc_new _ _) | (with_reducible exact blk_alloc_new1 _ _ _) | ((with_reducible refine blk_alloc_at _ _ ?_); (simp only [World.size_setCell, World.size_drew, World.size_alloc]; done)) | (with_reducible refine blk_set3 (x := .int .i64 0) (y := .int .i64 0) (z := .slice none 0 0) ?_ _ _ _) | ((with_reducible refine blk_set_other ?_ ?h _); (case h => (dsimp only; omega))) | (with_reducible refine blk_alloc_other ?_ _) | (with_reducible refine blk_drew ?_) | ((with_reducible refine (hbb.block _ ?h).trans ?_); (case h => (first | omega | (simp only [World.size_drew, World.size_alloc]; omega)))) | ((with_reducible refine (hba.block _ ?h).trans ?_); (case h => (first | omega | (simp only [World.size_drew, World.size_alloc]; omega))))))
  · (repeat (first | (with_reducible exact hb3) | (with_reducible refine below_alloc ?_ HS3 _) | (with_reducible refine Below.drew ?_) | (with_reducible refine Below.setCell ?_ (by dsimp only; omega) _)))

set_option maxHeartbeats 1600000 in
theorem made_11_8 {w W0 W1 wA wB : World} {W H : Nat} {n ga gb : Nat} {ks js : List Int} (hb2 : Below (w.heap.size + 3) W0 W1) (HS3 : w.heap.size + 3 ≤ W0.heap.size)
    (hba : Below (W1.alloc (.cells #[.int .i64 0, .int .i64 0, .slice none 0 0] 76)).drew.heap.size (W1.alloc (.cells #[.int .i64 0, .int .i64 0, .slice none 0 0] 76)).drew wA) (hga : (W1.alloc (.cells #[.int .i64 0, .int .i64 0, .slice none 0 0] 76)).drew.heap.size ≤ ga) (hra : RowAt wA ga n ks) (hbb : Below (wA.alloc (.cells #[.int .i64 0, .int .i64 0, .slice none 0 0] 76)).heap.size (wA.alloc (.cells #[.int .i64 0, .int .i64 0, .slice none 0 0] 76)) wB) (hgb : (wA.alloc (.cells #[.int .i64 0, .int .i64 0, .slice none 0 0] 76)).heap.size ≤ gb) (hrb : RowAt wB gb n js) (hb3 : Below (w.heap.size + 3) W0 wB) :
    GridsMade w W0 W H n ks js (.pointer (some ⟨wA.heap.size, 0, none⟩)) (.pointer (some ⟨W1.heap.size, 0, none⟩)) ((((((wB.setCell ⟨wA.heap.size, 0, none⟩ (.int .i64 W)).setCell ⟨wA.heap.size, 1, none⟩ (.int .i64 H)).setCell ⟨wA.heap.size, 2, none⟩ (.slice (some ⟨ga, 0, none⟩) n n)).setCell ⟨W1.heap.size, 0, none⟩ (.int .i64 W)).setCell ⟨W1.heap.size, 1, none⟩ (.int .i64 H)).setCell ⟨W1.heap.size, 2, none⟩ (.slice (some ⟨gb, 0, none⟩) n n)) := by
  have s1 := hb2.size
  have s2 := hba.size
  have s3 := hbb.size
  have l1 := hra.lt
  have l2 := hrb.lt
  simp only [World.size_drew, World.size_alloc] at s2 s3 hga hgb
  have hrB : RowAt wB ga n ks := RowAt.below (RowAt.alloc hra _) hbb (by first | omega | (simp only [World.size_alloc]; omega))
  refine ⟨_, _, ga, gb, rfl, rfl, GridAt.of_blk (T := 76) ?_, GridAt.of_blk (T := 76) ?_, ?_, ?_, lt_of_blk (o := .cells #[.int .i64 W, .int .i64 H, .slice (some ⟨ga, 0, none⟩) n n] 76 (0, 0)) ?_, lt_of_blk (o := .cells #[.int .i64 W, .int .i64 H, .slice (some ⟨gb, 0, none⟩) n n] 76 (0, 0)) ?_, ?_⟩
  · (repeat (first | (with_reducible exact blk_alloc_new _ _) | (with_reducible exact blk_alloc_new1 _ _ _) | ((with_reducible refine blk_alloc_at _ _ ?_); (simp only [World.size_setCell, World.size_drew, World.size_alloc]; done)) | (with_reducible refine blk_set3 (x := .int .i64 0) (y := .int .i64 0) (z := .slice none 0 0) ?_ _ _ _) | ((with_reducible refine blk_set_other ?_ ?h _); (case h => (dsimp only; omega))) | (with_reducible refine blk_alloc_other ?_ _) | (with_reducible refine blk_drew ?_) | ((with_reducible refine (hbb.block _ ?h).trans ?_); (case h => (first | omega | (simp only [World.size_drew, World.size_alloc]; omega)))) | ((with_reducible refine (hba.block _ ?h).trans ?_); (case h => (first | omega | (simp only [World.size_drew, World.size_alloc]; omega))))))
  · (repeat (first | (with_reducible exact blk_alloc_new _ _) | (with_reducible exact blk_alloc_new1 _ _ _) | ((with_reducible refine blk_alloc_at _ _ ?_); (simp only [World.size_setCell, World.size_drew, World.size_alloc]; done)) | (with_reducible refine blk_set3 (x := .int .i64 0) (y := .int .i64 0) (z := .slice none 0 0) ?_ _ _ _) | ((with_reducible refine blk_set_other ?_ ?h _); (case h => (dsimp only; omega))) | (with_reducible refine blk_alloc_other ?_ _) | (with_reducible refine blk_drew ?_) | ((with_reducible refine (hbb.block _ ?h).trans ?_); (case h => (first | omega | (simp only [World.size_drew, World.size_alloc]; omega)))) | ((with_reducible refine (hba.block _ ?h).trans ?_); (case h => (first | omega | (simp only [World.size_drew, World.size_alloc]; omega))))))
  · (repeat (first | (with_reducible exact hrB) | (with_reducible refine RowAt.set ?_ (by dsimp only; omega) _) | (with_reducible refine RowAt.alloc ?_ _)))
  · (repeat (first | (with_reducible exact hrb) | (with_reducible refine RowAt.set ?_ (by dsimp only; omega) _) | (with_reducible refine RowAt.alloc ?_ _)))
  · (repeat (first | (with_reducible exact blk_alloc_new _ _) | (with_reducible exact blk_alloc_new1 _ _ _) | ((with_reducible refine blk_alloc_at _ _ ?_); (simp only [World.size_setCell, World.size_drew, World.size_alloc]; done)) | (with_reducible refine blk_set3 (x := .int .i64 0) (y := .int .i64 0) (z := .slice none 0 0) ?_ _ _ _) | ((with_reducible refine blk_set_other ?_ ?h _); (case h => (dsimp only; omega))) | (with_reducible refine blk_alloc_other ?_ _) | (with_reducible refine blk_drew ?_) | ((with_reducible refine (hbb.block _ ?h).trans ?_); (case h => (first | omega | (simp only [World.size_drew, World.size_alloc]; omega)))) | ((with_reducible refine (hba.block _ ?h).trans ?_); (case h => (first | omega | (simp only [World.size_drew, World.size_alloc]; omega))))))
  · (repeat (first | (with_reducible exact blk_alloc_new _ _) | (with_reducible exact blk_alloc_new1 _ _ _) | ((with_reducible refine blk_alloc_at _ _ ?_); (simp only [World.size_setCell, World.size_drew, World.size_alloc]; done)) | (with_reducible refine blk_set3 (x := .int .i64 0) (y := .int .i64 0) (z := .slice none 0 0) ?_ _ _ _) | ((with_reducible refine blk_set_other ?_ ?h _); (case h => (dsimp only; omega))) | (with_reducible refine blk_alloc_other ?_ _) | (with_reducible refine blk_drew ?_) | ((with_reducible refine (hbb.block _ ?h).trans ?_); (case h => (first | omega | (simp only [World.size_drew, World.size_alloc]; omega)))) | ((with_reducible refine (hba.block _ ?h).trans ?_); (case h => (first | omega | (simp only [World.size_drew, World.size_alloc]; omega))))))
  · (repeat (first | (with_reducible exact hb3) | (with_reducible refine below_alloc ?_ HS3 _) | (with_reducible refine Below.drew ?_) | (with_reducible refine Below.setCell ?_ (by dsimp only; omega) _)))

set_option maxHeartbeats 1600000 in
theorem made_20_7 {w W0 W1 wA wB : World} {W H : Nat} {n ga gb : Nat} {ks js : List Int} (hb2 : Below (w.heap.size + 3) W0 W1) (HS3 : w.heap.size + 3 ≤ W0.heap.size)
    (hba : Below ((W1.alloc (.cells #[.int .i64 0, .int .i64 0, .slice none 0 0] 76)).alloc (.cells #[.int .i64 0, .int .i64 0, .slice none 0 0] 76)).drew.heap.size ((W1.alloc (.cells #[.int .i64 0, .int .i64 0, .slice none 0 0] 76)).alloc (.cells #[.int .i64 0, .int .i64 0, .slice none 0 0] 76)).drew wA) (hga : ((W1.alloc (.cells #[.int .i64 0, .int .i64 0, .slice none 0 0] 76)).alloc (.cells #[.int .i64 0, .int .i64 0, .slice none 0 0] 76)).drew.heap.size ≤ ga) (hra : RowAt wA ga n ks) (hbb : Below wA.heap.size wA wB) (hgb : wA.heap.size ≤ gb) (hrb : RowAt wB gb n js) (hb3 : Below (w.heap.size + 3) W0 wB) :
    GridsMade w W0 W H n ks js (.pointer (some ⟨W1.heap.size, 0, none⟩)) (.pointer (some ⟨W1.heap.size + 1, 0, none⟩)) ((((((wB.setCell ⟨W1.heap.size, 0, none⟩ (.int .i64 W)).setCell ⟨W1.heap.size, 1, none⟩ (.int .i64 H)).setCell ⟨W1.heap.size, 2, none⟩ (.slice (some ⟨ga, 0, none⟩) n n)).setCell ⟨W1.heap.size + 1, 0, none⟩ (.int .i64 W)).setCell ⟨W1.heap.size + 1, 1, none⟩ (.int .i64 H)).setCell ⟨W1.heap.size + 1, 2, none⟩ (.slice (some ⟨gb, 0, none⟩) n n)) := by
  have s1 := hb2.size
  have s2 := hba.size
  have s3 := hbb.size
  have l1 := hra.lt
  have l2 := hrb.lt
  simp only [World.size_drew, World.size_alloc] at s2 s3 hga hgb
  have hrB : RowAt wB ga n ks := RowAt.below hra hbb (by first | omega | (simp only [World.size_alloc]; omega))
  refine ⟨_, _, ga, gb, rfl, rfl, GridAt.of_blk (T := 76) ?_, GridAt.of_blk (T := 76) ?_, ?_, ?_, lt_of_blk (o := .cells #[.int .i64 W, .int .i64 H, .slice (some ⟨ga, 0, none⟩) n n] 76 (0, 0)) ?_, lt_of_blk (o := .cells #[.int .i64 W, .int .i64 H, .slice (some ⟨gb, 0, none⟩) n n] 76 (0, 0)) ?_, ?_⟩
  · (repeat (first | (with_reducible exact blk_alloc_new _ _) | (with_reducible exact blk_alloc_new1 _ _ _) | ((with_reducible refine blk_alloc_at _ _ ?_); (simp only [World.size_setCell, World.size_drew, World.size_alloc]; done)) | (with_reducible refine blk_set3 (x := .int .i64 0) (y := .int .i64 0) (z := .slice none 0 0) ?_ _ _ _) | ((with_reducible refine blk_set_other ?_ ?h _); (case h => (dsimp only; omega))) | (with_reducible refine blk_alloc_other ?_ _) | (with_reducible refine blk_drew ?_) | ((with_reducible refine (hbb.block _ ?h).trans ?_); (case h => (first | omega | (simp only [World.size_drew, World.size_alloc]; omega)))) | ((with_reducible refine (hba.block _ ?h).trans ?_); (case h => (first | omega | (simp only [World.size_drew, World.size_alloc]; omega))))))
  · (repeat (first | (with_reducible exact blk_alloc_new _ _) | (with_reducible exact blk_alloc_new1 _ _ _) | ((with_reducible refine blk_alloc_at _ _ ?_); (simp only [World.size_setCell, World.size_drew, World.size_alloc]; done)) | (with_reducible refine blk_set3 (x := .int .i64 0) (y := .int .i64 0) (z := .slice none 0 0) ?_ _ _ _) | ((with_reducible refine blk_set_other ?_ ?h _); (case h => (dsimp only; omega))) | (with_reducible refine blk_alloc_other ?_ _) | (with_reducible refine blk_drew ?_) | ((with_reducible refine (hbb.block _ ?h).trans ?_); (case h => (first | omega | (simp only [World.size_drew, World.size_alloc]; omega)))) | ((with_reducible refine (hba.block _ ?h).trans ?_); (case h => (first | omega | (simp only [World.size_drew, World.size_alloc]; omega))))))
  · (repeat (first | (with_reducible exact hrB) | (with_reducible refine RowAt.set ?_ (by dsimp only; omega) _) | (with_reducible refine RowAt.alloc ?_ _)))
  · (repeat (first | (with_reducible exact hrb) | (with_reducible refine RowAt.set ?_ (by dsimp only; omega) _) | (with_reducible refine RowAt.alloc ?_ _)))
  · (repeat (first | (with_reducible exact blk_alloc_new _ _) | (with_reducible exact blk_alloc_new1 _ _ _) | ((with_reducible refine blk_alloc_at _ _ ?_); (simp only [World.size_setCell, World.size_drew, World.size_alloc]; done)) | (with_reducible refine blk_set3 (x := .int .i64 0) (y := .int .i64 0) (z := .slice none 0 0) ?_ _ _ _) | ((with_reducible refine blk_set_other ?_ ?h _); (case h => (dsimp only; omega))) | (with_reducible refine blk_alloc_other ?_ _) | (with_reducible refine blk_drew ?_) | ((with_reducible refine (hbb.block _ ?h).trans ?_); (case h => (first | omega | (simp only [World.size_drew, World.size_alloc]; omega)))) | ((with_reducible refine (hba.block _ ?h).trans ?_); (case h => (first | omega | (simp only [World.size_drew, World.size_alloc]; omega))))))
  · (repeat (first | (with_reducible exact blk_alloc_new _ _) | (with_reducible exact blk_alloc_new1 _ _ _) | ((with_reducible refine blk_alloc_at _ _ ?_); (simp only [World.size_setCell, World.size_drew, World.size_alloc]; done)) | (with_reducible refine blk_set3 (x := .int .i64 0) (y := .int .i64 0) (z := .slice none 0 0) ?_ _ _ _) | ((with_reducible refine blk_set_other ?_ ?h _); (case h => (dsimp only; omega))) | (with_reducible refine blk_alloc_other ?_ _) | (with_reducible refine blk_drew ?_) | ((with_reducible refine (hbb.block _ ?h).trans ?_); (case h => (first | omega | (simp only [World.size_drew, World.size_alloc]; omega)))) | ((with_reducible refine (hba.block _ ?h).trans ?_); (case h => (first | omega | (simp only [World.size_drew, World.size_alloc]; omega))))))
  · (repeat (first | (with_reducible exact hb3) | (with_reducible refine below_alloc ?_ HS3 _) | (with_reducible refine Below.drew ?_) | (with_reducible refine Below.setCell ?_ (by dsimp only; omega) _)))

set_option maxHeartbeats 1600000 in
theorem made_20_8 {w W0 W1 wA wB : World} {W H : Nat} {n ga gb : Nat} {ks js : List Int} (hb2 : Below (w.heap.size + 3) W0 W1) (HS3 : w.heap.size + 3 ≤ W0.heap.size)
    (hba : Below ((W1.alloc (.cells #[.int .i64 0, .int .i64 0, .slice none 0 0] 76)).alloc (.cells #[.int .i64 0, .int .i64 0, .slice none 0 0] 76)).drew.heap.size ((W1.alloc (.cells #[.int .i64 0, .int .i64 0, .slice none 0 0] 76)).alloc (.cells #[.int .i64 0, .int .i64 0, .slice none 0 0] 76)).drew wA) (hga : ((W1.alloc (.cells #[.int .i64 0, .int .i64 0, .slice none 0 0] 76)).alloc (.cells #[.int .i64 0, .int .i64 0, .slice none 0 0] 76)).drew.heap.size ≤ ga) (hra : RowAt wA ga n ks) (hbb : Below wA.heap.size wA wB) (hgb : wA.heap.size ≤ gb) (hrb : RowAt wB gb n js) (hb3 : Below (w.heap.size + 3) W0 wB) :
    GridsMade w W0 W H n ks js (.pointer (some ⟨W1.heap.size + 1, 0, none⟩)) (.pointer (some ⟨W1.heap.size, 0, none⟩)) ((((((wB.setCell ⟨W1.heap.size + 1, 0, none⟩ (.int .i64 W)).setCell ⟨W1.heap.size + 1, 1, none⟩ (.int .i64 H)).setCell ⟨W1.heap.size + 1, 2, none⟩ (.slice (some ⟨ga, 0, none⟩) n n)).setCell ⟨W1.heap.size, 0, none⟩ (.int .i64 W)).setCell ⟨W1.heap.size, 1, none⟩ (.int .i64 H)).setCell ⟨W1.heap.size, 2, none⟩ (.slice (some ⟨gb, 0, none⟩) n n)) := by
  have s1 := hb2.size
  have s2 := hba.size
  have s3 := hbb.size
  have l1 := hra.lt
  have l2 := hrb.lt
  simp only [World.size_drew, World.size_alloc] at s2 s3 hga hgb
  have hrB : RowAt wB ga n ks := RowAt.below hra hbb (by first | omega | (simp only [World.size_alloc]; omega))
  refine ⟨_, _, ga, gb, rfl, rfl, GridAt.of_blk (T := 76) ?_, GridAt.of_blk (T := 76) ?_, ?_, ?_, lt_of_blk (o := .cells #[.int .i64 W, .int .i64 H, .slice (some ⟨ga, 0, none⟩) n n] 76 (0, 0)) ?_, lt_of_blk (o := .cells #[.int .i64 W, .int .i64 H, .slice (some ⟨gb, 0, none⟩) n n] 76 (0, 0)) ?_, ?_⟩
  · (repeat (first | (with_reducible exact blk_alloc_new _ _) | (with_reducible exact blk_alloc_new1 _ _ _) | ((with_reducible refine blk_alloc_at _ _ ?_); (simp only [World.size_setCell, World.size_drew, World.size_alloc]; done)) | (with_reducible refine blk_set3 (x := .int .i64 0) (y := .int .i64 0) (z := .slice none 0 0) ?_ _ _ _) | ((with_reducible refine blk_set_other ?_ ?h _); (case h => (dsimp only; omega))) | (with_reducible refine blk_alloc_other ?_ _) | (with_reducible refine blk_drew ?_) | ((with_reducible refine (hbb.block _ ?h).trans ?_); (case h => (first | omega | (simp only [World.size_drew, World.size_alloc]; omega)))) | ((with_reducible refine (hba.block _ ?h).trans ?_); (case h => (first | omega | (simp only [World.size_drew, World.size_alloc]; omega))))))
  · (repeat (first | (with_reducible exact blk_alloc_new _ _) | (with_reducible exact blk_alloc_new1 _ _ _) | ((with_reducible refine blk_alloc_at _ _ ?_); (simp only [World.size_setCell, World.size_drew, World.size_alloc]; done)) | (with_reducible refine blk_set3 (x := .int .i64 0) (y := .int .i64 0) (z := .slice none 0 0) ?_ _ _ _) | ((with_reducible refine blk_set_other ?_ ?h _); (case h => (dsimp only; omega))) | (with_reducible refine blk_alloc_other ?_ _) | (with_reducible refine blk_drew ?_) | ((with_reducible refine (hbb.block _ ?h).trans ?_); (case h => (first | omega | (simp only [World.size_drew, World.size_alloc]; omega)))) | ((with_reducible refine (hba.block _ ?h).trans ?_); (case h => (first | omega | (simp only [World.size_drew, World.size_alloc]; omega))))))
  · (repeat (first | (with_reducible exact hrB) | (with_reducible refine RowAt.set ?_ (by dsimp only; omega) _) | (with_reducible refine RowAt.alloc ?_ _)))
  · (repeat (first | (with_reducible exact hrb) | (with_reducible refine RowAt.set ?_ (by dsimp only; omega) _) | (with_reducible refine RowAt.alloc ?_ _)))
  · (repeat (first | (with_reducible exact blk_alloc_new _ _) | (with_reducible exact blk_alloc_new1 _ _ _) | ((with_reducible refine blk_alloc_at _ _ ?_); (simp only [World.size_setCell, World.size_drew, World.size_alloc]; done)) | (with_reducible refine blk_set3 (x := .int .i64 0) (y := .int .i64 0) (z := .slice none 0 0) ?_ _ _ _) | ((with_reducible refine blk_set_other ?_ ?h _); (case h => (dsimp only; omega))) | (with_reducible refine blk_alloc_other ?_ _) | (with_reducible refine blk_drew ?_) | ((with_reducible refine (hbb.block _ ?h).trans ?_); (case h => (first | omega | (simp only [World.size_drew, World.size_alloc]; omega)))) | ((with_reducible refine (hba.block _ ?h).trans ?_); (case h => (first | omega | (simp only [World.size_drew, World.size_alloc]; omega))))))
  · (repeat (first | (with_reducible exact blk_alloc_new _ _) | (with_reducible exact blk_alloc_new1 _ _ _) | ((with_reducible refine blk_alloc_at _ _ ?_); (simp only [World.size_setCell, World.size_drew, World.size_alloc]; done)) | (with_reducible refine blk_set3 (x := .int .i64 0) (y := .int .i64 0) (z := .slice none 0 0) ?_ _ _ _) | ((with_reducible refine blk_set_other ?_ ?h _); (case h => (dsimp only; omega))) | (with_reducible refine blk_alloc_other ?_ _) | (with_reducible refine blk_drew ?_) | ((with_reducible refine (hbb.block _ ?h).trans ?_); (case h => (first | omega | (simp only [World.size_drew, World.size_alloc]; omega)))) | ((with_reducible refine (hba.block _ ?h).trans ?_); (case h => (first | omega | (simp only [World.size_drew, World.size_alloc]; omega))))))
  · (repeat (first | (with_reducible exact hb3) | (with_reducible refine below_alloc ?_ HS3 _) | (with_reducible refine Below.drew ?_) | (with_reducible refine Below.setCell ?_ (by dsimp only; omega) _)))

end Go.Proofs.Ytfdkmmllemkogaa

/-
  Contract of Added for two right maps of one size whose sums are in range: the map of the sums.
-/
namespace Go.Proofs.Ytfdkmmllemkogaa
open Go.RowKit
set_option linter.unusedVariables false
attribute [local go_sem ↓] Go.wp_at_zero Go.wp_at_succ

set_option maxRecDepth 100000 in
set_option maxHeartbeats 25600000 in
theorem added_any (W H : Nat) (b o c b' o' c' n : Nat) (xs ys : List Nat) (ks js : List Int) (w : World) (hA : RightMap w W H b o n xs ks) (hB : RightMap w W H b' o' n ys js) (hb : b < w.heap.size) (hb' : b' < w.heap.size)
    (hs : ∀ j : Nat, (ks[j]?.getD 0 + js[j]?.getD 0 : Int).natAbs ≤ 16384) :
    Calls Try.prog 12 #[.agg #[.int .i64 W, .int .i64 H, .slice (some ⟨b, o, none⟩) n c], .agg #[.int .i64 W, .int .i64 H, .slice (some ⟨b', o', none⟩) n c']] w fun e w' =>
      ∃ g, e = .returned (.tuple #[.agg #[.int .i64 W, .int .i64 H, .slice (some ⟨g, 0, none⟩) n n], .int .i64 0]) ∧ g < w'.heap.size ∧ (∀ j, j < n → w'.cell? ⟨g, j, none⟩ = some (.float .f32 (smpOf (ks[j]?.getD 0 + js[j]?.getD 0)))) ∧ Below w.heap.size w w' := by
  obtain ⟨W0, hW0⟩ : ∃ W0, ((w.alloc (.cells #[.int .i64 W, .int .i64 H, .slice (some ⟨b, o, none⟩) n c] 50)).alloc (.cells #[.int .i64 W, .int .i64 H, .slice (some ⟨b', o', none⟩) n c'] 50)).alloc (.cells #[.int .i64 0, .int .i64 0, .slice none 0 0] 50) = W0 := ⟨_, rfl⟩
  have hB0 : Below w.heap.size w W0 := by rw [← hW0]; exact (((Below.refl _ w).alloc (Nat.le_refl _) _).alloc (by simp) _).alloc (by simp; omega) _
  have hS0 : W0.heap.size = w.heap.size + 3 := by rw [← hW0]; simp
  have a0 : W0.cell? ⟨w.heap.size, 0, none⟩ = some (.int .i64 W) := by rw [← hW0]; simp [go_sem]
  have a1 : W0.cell? ⟨w.heap.size, 1, none⟩ = some (.int .i64 H) := by rw [← hW0]; simp [go_sem]
  have a2 : W0.cell? ⟨w.heap.size, 2, none⟩ = some (.slice (some ⟨b, o, none⟩) n c) := by rw [← hW0]; simp [go_sem]
  have c0 : W0.cell? ⟨w.heap.size + 1, 0, none⟩ = some (.int .i64 W) := by rw [← hW0]; simp [go_sem]
  have c1 : W0.cell? ⟨w.heap.size + 1, 1, none⟩ = some (.int .i64 H) := by rw [← hW0]; simp [go_sem]
  have c2 : W0.cell? ⟨w.heap.size + 1, 2, none⟩ = some (.slice (some ⟨b', o', none⟩) n c') := by rw [← hW0]; simp [go_sem]
  have z0 : W0.cell? ⟨w.heap.size + 1 + 1, 0, none⟩ = some (.int .i64 0) := by rw [← hW0]; simp [go_sem]
  have z1 : W0.cell? ⟨w.heap.size + 1 + 1, 1, none⟩ = some (.int .i64 0) := by rw [← hW0]; simp [go_sem]
  have z2 : W0.cell? ⟨w.heap.size + 1 + 1, 2, none⟩ = some (.slice none 0 0) := by rw [← hW0]; simp [go_sem]
  have zf : ∀ j, W0.frozen? ⟨w.heap.size + 1 + 1, j, none⟩ = false := fun j => by rw [← hW0]; simp [go_sem]
  have KA : ∀ w1 : World, Blw (w.heap.size + 3) W0 w1 → Calls Try.prog 31 #[.agg #[.int .i64 W, .int .i64 H, .slice (some ⟨b, o, none⟩) n c]] w1 fun e w' => e = .returned (.int .i64 0) ∧ Below (w.heap.size + 3) W0 w' := fun w1 (h : Below (w.heap.size + 3) W0 w1) => by
    have h1 := h.size
    have h2 := hB0.trans (h.mono (by omega))
    exact (checkMap_any W H b o n c xs ks w1 (hA.below h2 hb) (by omega)).mono fun e w' ⟨he, hw⟩ => ⟨he, h.trans (hw.mono (by omega))⟩
  have KB : ∀ w1 : World, Blw (w.heap.size + 3) W0 w1 → Calls Try.prog 31 #[.agg #[.int .i64 W, .int .i64 H, .slice (some ⟨b', o', none⟩) n c']] w1 fun e w' => e = .returned (.int .i64 0) ∧ Below (w.heap.size + 3) W0 w' := fun w1 (h : Below (w.heap.size + 3) W0 w1) => by
    have h1 := h.size
    have h2 := hB0.trans (h.mono (by omega))
    exact (checkMap_any W H b' o' n c' ys js w1 (hB.below h2 hb') (by omega)).mono fun e w' ⟨he, hw⟩ => ⟨he, h.trans (hw.mono (by omega))⟩
  have GA : ∀ w1 : World, Blw (w.heap.size + 3) W0 w1 → Calls Try.prog 32 #[.agg #[.int .i64 W, .int .i64 H, .slice (some ⟨b, o, none⟩) n c]] w1 fun e w' =>
      ∃ g, e = .returned (.agg #[.int .i64 W, .int .i64 H, .slice (some ⟨g, 0, none⟩) n n]) ∧ w1.heap.size ≤ g ∧ RowAt w' g n ks ∧ Below w1.heap.size w1 w' ∧ Below (w.heap.size + 3) W0 w' := fun w1 (h : Below (w.heap.size + 3) W0 w1) => by
    have h1 := h.size
    have h2 := hB0.trans (h.mono (by omega))
    exact (grid_row W H b o n c xs ks w1 (hA.below h2 hb).toWords (by omega)).mono fun e w' ⟨g, he, h3, h4, h5⟩ => ⟨g, he, h3, h4, h5, h.trans (h5.mono (by omega))⟩
  have GB : ∀ w1 : World, Blw (w.heap.size + 3) W0 w1 → Calls Try.prog 32 #[.agg #[.int .i64 W, .int .i64 H, .slice (some ⟨b', o', none⟩) n c']] w1 fun e w' =>
      ∃ g, e = .returned (.agg #[.int .i64 W, .int .i64 H, .slice (some ⟨g, 0, none⟩) n n]) ∧ w1.heap.size ≤ g ∧ RowAt w' g n js ∧ Below w1.heap.size w1 w' ∧ Below (w.heap.size + 3) W0 w' := fun w1 (h : Below (w.heap.size + 3) W0 w1) => by
    have h1 := h.size
    have h2 := hB0.trans (h.mono (by omega))
    exact (grid_row W H b' o' n c' ys js w1 (hB.below h2 hb').toWords (by omega)).mono fun e w' ⟨g, he, h3, h4, h5⟩ => ⟨g, he, h3, h4, h5, h.trans (h5.mono (by omega))⟩
  have HKA := Lib.hid KA
  have HKB := Lib.hid KB
  have HGA := Lib.hid GA
  have HGB := Lib.hid GB
  have HB0 := Lib.hid hB0
  have HS0 := Lib.hid hS0
  have HSUM := Lib.hid hs
  have HRA := Lib.hid hA
  have HRB := Lib.hid hB
  have hR : Blw (w.heap.size + 3) W0 W0.drew := show Below _ _ _ from (Below.refl (w.heap.size + 3) W0).drew
  clear KA KB GA GB hs hA hB hB0 hS0
  go_enter Try.func12, Try.ntmps12
  go_wp2_with fail
  try rw [hW0]
  clear hW0
  go_region_held3 (fun w' => w'.cell? ⟨w.heap.size, 0, none⟩ = some (.int .i64 W) ∧ w'.cell? ⟨w.heap.size, 1, none⟩ = some (.int .i64 H) ∧ w'.cell? ⟨w.heap.size, 2, none⟩ = some (.slice (some ⟨b, o, none⟩) n c) ∧
      w'.cell? ⟨w.heap.size + 1, 0, none⟩ = some (.int .i64 W) ∧ w'.cell? ⟨w.heap.size + 1, 1, none⟩ = some (.int .i64 H) ∧ w'.cell? ⟨w.heap.size + 1, 2, none⟩ = some (.slice (some ⟨b', o', none⟩) n c') ∧ Blw (w.heap.size + 3) W0 w')
    (first
      | (go_split_ands; refine ⟨?_, ?_, ?_, ?_, ?_, ?_, ?_⟩ <;> first | assumption | exact hb1 | ((rw [hb1.cell (by simp; try omega)]; assumption)))
      | (go_split_ands; refine ⟨?_, ?_, ?_, ?_, ?_, ?_, ?_⟩ <;> first | ((rw [(hb1.alloc (by have := hb1.size; have := HS0.out; omega) _).cell (by simp; try omega)]; assumption)) | exact (hb1.alloc (by have := hb1.size; have := HS0.out; omega) _ : Below _ _ _))
      | go_keep)
    (first
      | (go_at_call_of 31 (Value.agg #[.int .i64 W, .int .i64 H, .slice (some ⟨b, o, none⟩) n c]); refine (HKA.out _ ?_).mono ?_; rotate_left 1; rintro e w' ⟨rfl, hb1⟩; rotate_left 1; (simp [*]))
      | (go_at_call_of 31 (Value.agg #[.int .i64 W, .int .i64 H, .slice (some ⟨b', o', none⟩) n c']); refine (HKB.out _ ?_).mono ?_; rotate_left 1; rintro e w' ⟨rfl, hb1⟩; rotate_left 1; (simp [*]))
      | ((go_at_call 26; refine (first_zeros _ 0 2 2 (by omega) _ ?_).mono ?_; rotate_left 1; rintro e w' ⟨rfl, rfl⟩; rotate_left 1; (intro j hj; match j, hj with | 0, _ => simp [go_sem] | 1, _ => simp [go_sem]))))
  have hb2 : Below (w.heap.size + 3) W0 (w'.alloc (.cells #[.int .i64 0, .int .i64 0] 37)) := hb1.alloc (by have := hb1.size; have := HS0.out; omega) _
  obtain ⟨W1, hW1⟩ : ∃ W1, w'.alloc (.cells #[.int .i64 0, .int .i64 0] 37) = W1 := ⟨_, rfl⟩
  rw [hW1] at hb2 ⊢
  clear hW1
  have a0' := (hb2.cell (p := ⟨w.heap.size, 0, none⟩) (by show w.heap.size < _; omega)).trans a0
  have a1' := (hb2.cell (p := ⟨w.heap.size, 1, none⟩) (by show w.heap.size < _; omega)).trans a1
  have a2' := (hb2.cell (p := ⟨w.heap.size, 2, none⟩) (by show w.heap.size < _; omega)).trans a2
  have c0' := (hb2.cell (p := ⟨w.heap.size + 1, 0, none⟩) (by show w.heap.size + 1 < _; omega)).trans c0
  have c1' := (hb2.cell (p := ⟨w.heap.size + 1, 1, none⟩) (by show w.heap.size + 1 < _; omega)).trans c1
  have c2' := (hb2.cell (p := ⟨w.heap.size + 1, 2, none⟩) (by show w.heap.size + 1 < _; omega)).trans c2
  have eW : ((W : Int) != W) = false := by simp
  have eH : ((H : Int) != H) = false := by simp
  have HS3 : w.heap.size + 3 ≤ W0.heap.size := by have := HS0.out; omega
  have hR2 : Below (w.heap.size + 3) W0 W1.drew := hb2.drew
  go_upto_region 6 with fail
  go_cut [7, 8] (fun s7 s8 wx => GridsMade w W0 W H n ks js s7 s8 wx)
  case first =>
   have hb3 := hb2
   have hz3 := hb3.size
   go_region_held3 (fun w' => w'.cell? ⟨w.heap.size, 0, none⟩ = some (.int .i64 W) ∧ w'.cell? ⟨w.heap.size, 1, none⟩ = some (.int .i64 H) ∧ w'.cell? ⟨w.heap.size, 2, none⟩ = some (.slice (some ⟨b, o, none⟩) n c) ∧
      w'.cell? ⟨w.heap.size + 1, 0, none⟩ = some (.int .i64 W) ∧ w'.cell? ⟨w.heap.size + 1, 1, none⟩ = some (.int .i64 H) ∧ w'.cell? ⟨w.heap.size + 1, 2, none⟩ = some (.slice (some ⟨b', o', none⟩) n c') ∧ Blw (w.heap.size + 3) W0 w')
    ((go_split_ands; refine ⟨?_, ?_, ?_, ?_, ?_, ?_, ?_⟩ <;> first
      | (with_reducible refine Eq.trans (Below.cell (B := w.heap.size + 3) (w := W0) ?_ (by first | (simp; done) | (simp; omega))) (by with_reducible assumption); (repeat (first | (with_reducible exact hb3) | (with_reducible refine below_alloc ?_ HS3 _) | (with_reducible refine Below.drew ?_) | (with_reducible refine Below.setCell ?_ (by dsimp only; omega) _))); done)
      | (show Below _ _ _; (repeat (first | (with_reducible exact hb3) | (with_reducible refine below_alloc ?_ HS3 _) | (with_reducible refine Below.drew ?_) | (with_reducible refine Below.setCell ?_ (by dsimp only; omega) _))); done)))
    (first
      | (go_at_call_of 32 (Value.agg #[.int .i64 W, .int .i64 H, .slice (some ⟨b, o, none⟩) n c]); refine (HGA.out _ ?_).mono ?_; rotate_left 1; rintro e wA ⟨ga, rfl, hga, hra, hba, hb3⟩; (obtain ⟨hcc, hff⟩ := bcell hba); (have hz3 := hb3.size); (have hls := hba.size); (try simp at hls); (try have hqW10 : W1.heap.size < wA.heap.size := by omega); (try have hqW11 : W1.heap.size + 1 < wA.heap.size := by omega); rotate_left 1; (simp [*]))
      | (go_at_call_of 32 (Value.agg #[.int .i64 W, .int .i64 H, .slice (some ⟨b', o', none⟩) n c']); refine (HGB.out _ ?_).mono ?_; rotate_left 1; rintro e wB ⟨gb, rfl, hgb, hrb, hbb, hb3⟩; (obtain ⟨hcc, hff⟩ := bcell hbb); (have hz3 := hb3.size); (have hls := hbb.size); (try simp at hls); (try have hqW10 : W1.heap.size < wB.heap.size := by omega); (try have hqW11 : W1.heap.size + 1 < wB.heap.size := by omega); (try have hqwA0 : wA.heap.size < wB.heap.size := by omega); (try have hqwA1 : wA.heap.size + 1 < wB.heap.size := by omega); rotate_left 1; (simp [*])))
   all_goals go_wp2_with fail
   all_goals go_meet
   all_goals first | (with_reducible exact made_00_7 hb2 HS3 hba hga hra hbb hgb hrb hb3) | (with_reducible exact made_00_8 hb2 HS3 hba hga hra hbb hgb hrb hb3) | (with_reducible exact made_01_7 hb2 HS3 hba hga hra hbb hgb hrb hb3) | (with_reducible exact made_01_8 hb2 HS3 hba hga hra hbb hgb hrb hb3) | (with_reducible exact made_02_7 hb2 HS3 hba hga hra hbb hgb hrb hb3) | (with_reducible exact made_02_8 hb2 HS3 hba hga hra hbb hgb hrb hb3) | (with_reducible exact made_10_7 hb2 HS3 hba hga hra hbb hgb hrb hb3) | (with_reducible exact made_10_8 hb2 HS3 hba hga hra hbb hgb hrb hb3) | (with_reducible exact made_11_7 hb2 HS3 hba hga hra hbb hgb hrb hb3) | (with_reducible exact made_11_8 hb2 HS3 hba hga hra hbb hgb hrb hb3) | (with_reducible exact made_20_7 hb2 HS3 hba hga hra hbb hgb hrb hb3) | (with_reducible exact made_20_8 hb2 HS3 hba hga hra hbb hgb hrb hb3)
  case rest =>
    obtain ⟨g7, g8, ga, gb, rfl, rfl, hGA, hGB, hRA, hRB, l7, l8, hbc⟩ := hcut
    obtain ⟨q0, q1, q2⟩ := hGA
    have hGA1 := q1
    obtain ⟨r0, r1, r2⟩ := hGB
    have hbw := hbc.size
    have hS3 := HS0.out
    have z0' := (hbc.cell (p := ⟨w.heap.size + 1 + 1, 0, none⟩) (by show w.heap.size + 1 + 1 < _; omega)).trans z0
    have z1' := (hbc.cell (p := ⟨w.heap.size + 1 + 1, 1, none⟩) (by show w.heap.size + 1 + 1 < _; omega)).trans z1
    have z2' := (hbc.cell (p := ⟨w.heap.size + 1 + 1, 2, none⟩) (by show w.heap.size + 1 + 1 < _; omega)).trans z2
    have zf' : ∀ j, wc.frozen? ⟨w.heap.size + 1 + 1, j, none⟩ = false := fun j => (hbc.frozen (p := ⟨w.heap.size + 1 + 1, j, none⟩) (by show w.heap.size + 1 + 1 < _; omega)).trans (zf j)
    have hN : W * H = n := by have := HRA.out.area; exact_mod_cast this
    have KP := Lib.hid (callsIn_wide.1 (painted_added W H (by have := HRA.out.wid; omega) (by have := HRA.out.hei; omega) g7 g8 wc (fun p => ks[p.2 * W + p.1]?.getD 0 + js[p.2 * W + p.1]?.getD 0) (fun p => HSUM.out _) (fun p W1 hp h1 => by
        have hlt := idx_lt hp.1 hp.2 hN
        have hsz := h1.size
        have e1 : ((p.2 : Int) * (W : Int) + (p.1 : Int)).toNat = p.2 * W + p.1 := by
          have : ((p.2 : Int) * (W : Int) + (p.1 : Int)) = ((p.2 * W + p.1 : Nat) : Int) := by push_cast; rfl
          rw [this]; rfl
        have e2 : (p.2 : Int) * (W : Int) = ((p.2 * W : Nat) : Int) := by push_cast; rfl
        have hW := HRA.out.wid
        have hH := HRA.out.hei
        have hsm := HRA.out.small
        have b1 := HRA.out.sizes _ hlt
        have b2 := HRB.out.sizes _ hlt
        have m1 : p.2 * W ≤ 64 * 64 := Nat.mul_le_mul (by omega) (by omega)
        exact added1_any W H ga n n gb n n g7 g8 p.1 p.2 _ _ (by omega) (by omega) (by omega) (by omega) (by omega) (by omega) W1 (by omega) (by omega) (by omega) (by omega) (by have := hRA.lt; omega) (by have := hRB.lt; omega)
          ⟨(h1.cell (p := ⟨g7, 0, none⟩) l7).trans q0, (h1.cell (p := ⟨g7, 1, none⟩) l7).trans q1, (h1.cell (p := ⟨g7, 2, none⟩) l7).trans q2⟩
          ⟨(h1.cell (p := ⟨g8, 0, none⟩) l8).trans r0, (h1.cell (p := ⟨g8, 1, none⟩) l8).trans r1, (h1.cell (p := ⟨g8, 2, none⟩) l8).trans r2⟩
          (by rw [e1]; exact (hRA.below h1 hRA.lt).cells _ hlt) (by rw [e1]; exact (hRB.below h1 hRB.lt).cells _ hlt))))
    have HN := Lib.hid hN
    have HRA' := Lib.hid hRA
    clear hN hRA hRB q1 q2 r0 r1 r2 z0 z1 z2 zf a0 a1 a2 c0 c1 c2 a0' a1' a2' c0' c1' c2'
    have q1 := hGA1
    go_wp2_with ((go_at_call 33; refine KP.out.mono ?_; rintro e w5 ⟨g, rfl, hown5, hb5⟩
                  have s0 : w5.cell? ⟨w.heap.size + 1 + 1, 0, none⟩ = some (.int .i64 0) := (hb5.cell (p := ⟨w.heap.size + 1 + 1, 0, none⟩) (by show w.heap.size + 1 + 1 < _; omega)).trans z0'
                  have s1 : w5.cell? ⟨w.heap.size + 1 + 1, 1, none⟩ = some (.int .i64 0) := (hb5.cell (p := ⟨w.heap.size + 1 + 1, 1, none⟩) (by show w.heap.size + 1 + 1 < _; omega)).trans z1'
                  have s2 : w5.cell? ⟨w.heap.size + 1 + 1, 2, none⟩ = some (.slice none 0 0) := (hb5.cell (p := ⟨w.heap.size + 1 + 1, 2, none⟩) (by show w.heap.size + 1 + 1 < _; omega)).trans z2'
                  have f0 : w5.frozen? ⟨w.heap.size + 1 + 1, 0, none⟩ = false := (hb5.frozen (p := ⟨w.heap.size + 1 + 1, 0, none⟩) (by show w.heap.size + 1 + 1 < _; omega)).trans (zf' 0)
                  have f1 : w5.frozen? ⟨w.heap.size + 1 + 1, 1, none⟩ = false := (hb5.frozen (p := ⟨w.heap.size + 1 + 1, 1, none⟩) (by show w.heap.size + 1 + 1 < _; omega)).trans (zf' 1)
                  have f2 : w5.frozen? ⟨w.heap.size + 1 + 1, 2, none⟩ = false := (hb5.frozen (p := ⟨w.heap.size + 1 + 1, 2, none⟩) (by show w.heap.size + 1 + 1 < _; omega)).trans (zf' 2)))
    have hN := HN.out
    have hsz5 := hb5.size
    have hg5 : wc.heap.size ≤ g ∧ g < w5.heap.size := hown5.lt g rfl
    rw [hN] at hown5
    refine bodyPost_ret (v := .tuple #[.agg #[.int .i64 W, .int .i64 H, .slice (some ⟨g, 0, none⟩) n n], .int .i64 0]) (by simp [results, Try.results12, go_sem, s0, s1, s2, hN]) rfl ⟨g, rfl, ?_, ?_, ?_⟩
    · simp; omega
    · intro j hj
      refine owns_cell (ownsRow_setCell_below (ownsRow_setCell_below (ownsRow_setCell_below hown5 (by dsimp only; omega) _) (by dsimp only; omega) _) (by dsimp only; omega) _) ?_
      rw [List.getElem?_map, placesTo_get W (H * W) j (by rw [Nat.mul_comm H W, hN]; exact hj), Option.map_some]
      have e : j / W * W + j % W = j := by rw [Nat.mul_comm]; exact Nat.div_add_mod j W
      simp only [e]
    · exact (((HB0.out.trans (hbc.mono (by omega))).trans (hb5.mono (by omega))).setCell (p := ⟨w.heap.size + 1 + 1, 0, none⟩) (by dsimp only; omega) _ |>.setCell (p := ⟨w.heap.size + 1 + 1, 1, none⟩) (by dsimp only; omega) _).setCell (p := ⟨w.heap.size + 1 + 1, 2, none⟩) (by dsimp only; omega) _
end Go.Proofs.Ytfdkmmllemkogaa
