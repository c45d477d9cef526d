/-
  Contract of emberRing: the fixed example of chapter 1.
-/
import Derived.Test.YtnlbgikhkpalcaaCXi
import Derived.Test.YtnlbgikhkpalcaaCXk
import Derived.Test.YtnlbgikhkpalcaaCXa
import Derived.Test.YtnlbgikhkpalcaaCWh
namespace Go.Proofs.Ytnlbgikhkpalcaa
open Go.RowKit
set_option linter.unusedVariables false

theorem smpOf_lt (n : Int) (hn : n.natAbs < 2 ^ 24) : smpOf n < 2 ^ 32 := by
  have := floatBits_wf (smpOf_run n hn)
  simpa [Lit.wf] using this
theorem right_of {w : World} {W H : Int} {b n : Nat} {ks : List Int} (hl : ks.length = n) (hn : n ≤ 4096) (hc : ∀ j, j < n → w.cell? ⟨b, j, none⟩ = some (.float .f32 (smpOf (ks[j]?.getD 0)))) (hs : ∀ j, j < n → (ks[j]?.getD 0).natAbs ≤ 16384)
    (hW : 1 ≤ W ∧ W ≤ 64) (hH : 1 ≤ H ∧ H ≤ 64) (ha : W * H = n) : RightMap w W H b 0 n (ks.map smpOf) ks := by
  have e : ∀ j, j < n → (ks.map smpOf)[j]?.getD 0 = smpOf (ks[j]?.getD 0) := fun j hj => by
    rw [List.getElem?_map, List.getElem?_eq_getElem (by omega)]; rfl
  exact ⟨⟨by rw [List.length_map]; exact hl, hl, hn, fun j hj => by rw [Nat.zero_add, e j hj]; exact hc j hj, fun j hj => by rw [e j hj]; exact smpOf_lt _ (Nat.lt_of_le_of_lt (hs j hj) (by decide)), fun j hj => by rw [e j hj]; exact smpOf_smp _ (Nat.lt_of_le_of_lt (hs j hj) (by decide)), hs⟩, hW, hH, ha⟩

theorem lt4 {P : Nat → Prop} (h0 : P 0) (h1 : P 1) (h2 : P 2) (h3 : P 3) : ∀ j, j < 4 → P j
  | 0, _ => h0
  | 1, _ => h1
  | 2, _ => h2
  | 3, _ => h3
  | n + 4, h => by omega

set_option maxRecDepth 100000 in
set_option maxHeartbeats 3200000 in
theorem emberRing_any (w : World) : Calls Try.prog 5 #[] w fun e w' => e = .returned (.bool true) ∧ Below w.heap.size w w' := by
  obtain ⟨W1, hW1⟩ : ∃ W1, (w.alloc (.cells #[.float .f32 1065353216, .float .f32 0, .float .f32 0, .float .f32 0] 27)).alloc (.cells #[.int .i64 2, .int .i64 2, .slice (some ⟨w.heap.size, 0, none⟩) 4 4] 50) = W1 := ⟨_, rfl⟩
  have hB1 : Below w.heap.size w W1 := by rw [← hW1]; exact ((Below.refl _ w).alloc (Nat.le_refl _) _).alloc (by simp) _
  have hS1 : w.heap.size + 2 ≤ W1.heap.size := by rw [← hW1]; simp
  have bq : W1.heap[w.heap.size]? = some (.cells #[.float .f32 1065353216, .float .f32 0, .float .f32 0, .float .f32 0] 27 (0, 0)) := by rw [← hW1]; exact blk_alloc_other (blk_alloc_new _ _) _
  have bm : W1.heap[w.heap.size + 1]? = some (.cells #[.int .i64 2, .int .i64 2, .slice (some ⟨w.heap.size, 0, none⟩) 4 4] 50 (0, 0)) := by rw [← hW1]; exact blk_alloc_new1 _ _ _
  have s16 : smpOf 16 = 1065353216 := by kernel_rfl
  have s0 : smpOf 0 = 0 := by kernel_rfl
  have s8 : smpOf 8 = 1056964608 := by kernel_rfl
  have s4 : smpOf 4 = 1048576000 := by kernel_rfl
  have hM : RightMap W1 2 2 w.heap.size 0 4 ([16, 0, 0, 0].map smpOf) [16, 0, 0, 0] := right_of rfl (by omega) (lt4
      (by rw [cell_of_row W1 _ 0 _ _ (0, 0) bq]; show _ = some (Value.float .f32 (smpOf 16)); rw [s16]; rfl)
      (by rw [cell_of_row W1 _ 1 _ _ (0, 0) bq]; show _ = some (Value.float .f32 (smpOf 0)); rw [s0]; rfl)
      (by rw [cell_of_row W1 _ 2 _ _ (0, 0) bq]; show _ = some (Value.float .f32 (smpOf 0)); rw [s0]; rfl)
      (by rw [cell_of_row W1 _ 3 _ _ (0, 0) bq]; show _ = some (Value.float .f32 (smpOf 0)); rw [s0]; rfl)) (lt4 (by decide) (by decide) (by decide) (by decide)) (by omega) (by omega) (by decide)
  have hRT : roundsTo 2 2 4 [16, 0, 0, 0] (placesTo 2 (2 * 2)) = [8, 4, 4, 0] := by decide +kernel
  have K1 : Hid (Calls Try.prog 18 #[.agg #[.int .i64 2, .int .i64 2, .slice (some ⟨w.heap.size, 0, none⟩) 4 4]] W1 fun e w' =>
      ∃ g, e = .returned (.tuple #[.agg #[.int .i64 2, .int .i64 2, .slice (some ⟨g, 0, none⟩) 4 4], .int .i64 0]) ∧ g < w'.heap.size ∧
        (∀ j, j < 4 → w'.cell? ⟨g, j, none⟩ = some (.float .f32 (smpOf (([16, 0, 0, 0] : List Int)[(2 - 1 - j % 2) * 2 + j / 2]?.getD 0)))) ∧ Below W1.heap.size W1 w') := Lib.hid (turned_any 2 2 w.heap.size 0 4 4 _ _ W1 hM (by omega))
  have K2 : Hid (∀ Wx : World, Below W1.heap.size W1 Wx → Calls Try.prog 19 #[.agg #[.int .i64 2, .int .i64 2, .slice (some ⟨w.heap.size, 0, none⟩) 4 4], .int .i64 4] Wx fun e w' =>
      ∃ g, e = .returned (.tuple #[.agg #[.int .i64 2, .int .i64 2, .slice (some ⟨g, 0, none⟩) 4 4], .int .i64 0]) ∧ g < w'.heap.size ∧
        (∀ j, j < 4 → w'.cell? ⟨g, j, none⟩ = some (.float .f32 (smpOf (([8, 4, 4, 0] : List Int)[j]?.getD 0)))) ∧ Below Wx.heap.size Wx w') := Lib.hid (fun Wx h => by
    have h1 := spread_any 2 2 4 (by omega) (by omega) w.heap.size 0 4 4 _ _ Wx (hM.below h (by omega)) (by have := h.size; omega) (fun j => by
      rw [hRT]
      by_cases hj : j < 4
      · exact lt4 (P := fun j => (([8, 4, 4, 0] : List Int)[j]?.getD 0).natAbs ≤ 16384) (by decide) (by decide) (by decide) (by decide) j hj
      · rw [List.getElem?_eq_none (by simp; omega)]; decide)
    rw [hRT] at h1
    exact h1)
  have HB1 := Lib.hid hB1
  have c0 := GridAt.of_blk (W := 2) (H := 2) bm
  obtain ⟨c0, c1, c2⟩ := c0
  have HBM := Lib.hid bm
  clear hM hRT hB1 bq bm s16 s0 s8 s4
  go_enter Try.func5, Try.ntmps5
  go_wp2_with (first
    | ((go_at_call 18; refine K1.out.mono ?_; rintro e w2 ⟨ga, rfl, hga, hca, hb2⟩
        have hs2 := hb2.size
        obtain ⟨W2, hW2⟩ : ∃ W2, w2.alloc (.cells #[.int .i64 2, .int .i64 2, .slice (some ⟨ga, 0, none⟩) 4 4] 50) = W2 := ⟨_, rfl⟩
        have hB2 : Below W1.heap.size W1 W2 := by rw [← hW2]; exact hb2.alloc hb2.size _
        have bA : W2.heap[w2.heap.size]? = some (.cells #[.int .i64 2, .int .i64 2, .slice (some ⟨ga, 0, none⟩) 4 4] 50 (0, 0)) := by rw [← hW2]; exact blk_alloc_new _ _
        have hcA : ∀ j, j < 4 → W2.cell? ⟨ga, j, none⟩ = some (.float .f32 (smpOf (([16, 0, 0, 0] : List Int)[(2 - 1 - j % 2) * 2 + j / 2]?.getD 0))) := fun j hj => by
          rw [← hW2]; exact (((Below.refl _ w2).alloc (Nat.le_refl _) _).cell (p := ⟨ga, j, none⟩) hga).trans (hca j hj)
        have hgA : ga < W2.heap.size := by rw [← hW2]; simp; omega
        obtain ⟨d0, d1, d2⟩ := GridAt.of_blk (W := 2) (H := 2) ((hB2.block _ (by omega)).trans HBM.out)
        have K3 := Lib.hid (K2.out W2 hB2)
        have HBA := Lib.hid bA
        have HCA := Lib.hid hcA
        have HB2 := Lib.hid hB2
        clear hb2 hca hcA bA hB2 c0 c1 c2))
    | ((go_at_call 19; refine K3.out.mono ?_; rintro e w3 ⟨gb, rfl, hgb, hcb, hb3⟩
        have hs3 := hb3.size
        obtain ⟨W3, hW3⟩ : ∃ W3, w3.alloc (.cells #[.int .i64 2, .int .i64 2, .slice (some ⟨gb, 0, none⟩) 4 4] 50) = W3 := ⟨_, rfl⟩
        have hB3 : Below W2.heap.size W2 W3 := by rw [← hW3]; exact hb3.alloc hb3.size _
        have bB : W3.heap[w3.heap.size]? = some (.cells #[.int .i64 2, .int .i64 2, .slice (some ⟨gb, 0, none⟩) 4 4] 50 (0, 0)) := by rw [← hW3]; exact blk_alloc_new _ _
        have hcB : ∀ j, j < 4 → W3.cell? ⟨gb, j, none⟩ = some (.float .f32 (smpOf (([8, 4, 4, 0] : List Int)[j]?.getD 0))) := fun j hj => by
          rw [← hW3]; exact (((Below.refl _ w3).alloc (Nat.le_refl _) _).cell (p := ⟨gb, j, none⟩) hgb).trans (hcb j hj)
        have hgB : gb < W3.heap.size := by rw [← hW3]; simp; omega
        have hMB : RightMap W3 2 2 gb 0 4 ([8, 4, 4, 0].map smpOf) [8, 4, 4, 0] := right_of rfl (by omega) hcB (lt4 (by decide) (by decide) (by decide) (by decide)) (by omega) (by omega) (by decide)
        have K4 := Lib.hid (total_any 2 2 gb 0 4 4 _ _ W3 hMB hgB)
        obtain ⟨e0, e1, e2⟩ := GridAt.of_blk (W := 2) (H := 2) bB
        have HBB := Lib.hid bB
        have HCB := Lib.hid hcB
        have HB3 := Lib.hid hB3
        clear hb3 hcb hcB bB hB3 hMB d0 d1 d2))
    | ((go_at_call 14; refine K4.out.mono ?_; rintro e w4 ⟨rfl, hb4⟩
        have hs4 := hb4.size
        have hlB := lt_of_blk HBB.out
        have hlA := lt_of_blk HBA.out
        have hsB := HB3.out.size
        obtain ⟨d0, d1, d2⟩ := GridAt.of_blk (W := 2) (H := 2) ((hb4.block _ (Nat.lt_of_lt_of_le hlA hsB)).trans ((HB3.out.block _ hlA).trans HBA.out))
        obtain ⟨e0, e1, e2⟩ := GridAt.of_blk (W := 2) (H := 2) ((hb4.block _ hlB).trans HBB.out)
        have e16 : (([8, 4, 4, 0] : List Int).sum == 16) = true := by decide
        have HB4 := Lib.hid hb4)))
  have s16 : smpOf 16 = 1065353216 := by kernel_rfl
  have s0 : smpOf 0 = 0 := by kernel_rfl
  have s8 : smpOf 8 = 1056964608 := by kernel_rfl
  have s4 : smpOf 4 = 1048576000 := by kernel_rfl
  obtain ⟨W5, hW5⟩ : ∃ W5, w4.alloc (.cells #[.float .f32 0, .float .f32 1065353216, .float .f32 0, .float .f32 0] 27) = W5 := ⟨_, rfl⟩
  have hB5 : Below w4.heap.size w4 W5 := by rw [← hW5]; exact (Below.refl _ w4).alloc (Nat.le_refl _) _
  have b5 : W5.heap[w4.heap.size]? = some (.cells #[.float .f32 0, .float .f32 1065353216, .float .f32 0, .float .f32 0] 27 (0, 0)) := by rw [← hW5]; exact blk_alloc_new _ _
  have hb45 : Below W2.heap.size W2 W5 := (HB3.out.trans (HB4.out.mono hsB)).trans (hB5.mono (by omega))
  have hs5 := hB5.size
  rw [hW5]
  clear hW5
  have cA : ∀ j, j < 4 → W5.cell? ⟨ga, 0 + j, none⟩ = some (.float .f32 (([0, 1065353216, 0, 0] : List Nat)[j]?.getD 0)) := fun j hj => by
    rw [Nat.zero_add]
    refine ((hb45.cell (p := ⟨ga, j, none⟩) hgA).trans (HCA.out j hj)).trans ?_
    exact lt4 (P := fun j => some (Value.float .f32 (smpOf (([16, 0, 0, 0] : List Int)[(2 - 1 - j % 2) * 2 + j / 2]?.getD 0))) = some (Value.float .f32 (([0, 1065353216, 0, 0] : List Nat)[j]?.getD 0)))
      (by show some (Value.float .f32 (smpOf 0)) = _; rw [s0]; rfl) (by show some (Value.float .f32 (smpOf 16)) = _; rw [s16]; rfl) (by show some (Value.float .f32 (smpOf 0)) = _; rw [s0]; rfl) (by show some (Value.float .f32 (smpOf 0)) = _; rw [s0]; rfl) j hj
  have cA' : ∀ j, j < 4 → W5.cell? ⟨w4.heap.size, 0 + j, none⟩ = some (.float .f32 (([0, 1065353216, 0, 0] : List Nat)[j]?.getD 0)) := fun j hj => by
    rw [Nat.zero_add, cell_of_row W5 _ j _ _ (0, 0) b5]
    exact lt4 (P := fun j => (#[Value.float .f32 0, .float .f32 1065353216, .float .f32 0, .float .f32 0] : Array Value)[j]? = some (Value.float .f32 (([0, 1065353216, 0, 0] : List Nat)[j]?.getD 0))) rfl rfl rfl rfl j hj
  have S0 : Smp 0 0 := by have := smpOf_smp 0 (by decide); rwa [s0] at this
  have S16 : Smp 1065353216 16 := by have := smpOf_smp 16 (by decide); rwa [s16] at this
  have S8 : Smp 1056964608 8 := by have := smpOf_smp 8 (by decide); rwa [s8] at this
  have S4 : Smp 1048576000 4 := by have := smpOf_smp 4 (by decide); rwa [s4] at this
  have SA : ∀ j, j < 4 → Smp (([0, 1065353216, 0, 0] : List Nat)[j]?.getD 0) (([0, 16, 0, 0] : List Int)[j]?.getD 0) := lt4 S0 S16 S0 S0
  have SB : ∀ j, j < 4 → Smp (([1056964608, 1048576000, 1048576000, 0] : List Nat)[j]?.getD 0) (([8, 4, 4, 0] : List Int)[j]?.getD 0) := lt4 S8 S4 S4 S0
  have hlW5 : w4.heap.size < W5.heap.size := lt_of_blk b5
  refine (sameSamples_any ga 0 4 w4.heap.size 0 4 4 _ _ _ (by omega) (by have := hb45.size; omega) hlW5 cA cA' SA SA).mono ?_
  rintro e w6 ⟨rfl, hb6⟩
  have hs6 := hb6.size
  have gB5 : gb < W5.heap.size := by have := HB4.out.size; omega
  obtain ⟨f0, f1, f2⟩ := GridAt.of_blk (W := 2) (H := 2) ((hb6.block _ (by omega)).trans ((hB5.block _ (by omega)).trans ((HB4.out.block _ hlB).trans HBB.out)))
  go_wp2_with fail
  obtain ⟨W7, hW7⟩ : ∃ W7, w6.alloc (.cells #[.float .f32 1056964608, .float .f32 1048576000, .float .f32 1048576000, .float .f32 0] 27) = W7 := ⟨_, rfl⟩
  have hB7 : Below w6.heap.size w6 W7 := by rw [← hW7]; exact (Below.refl _ w6).alloc (Nat.le_refl _) _
  have b7 : W7.heap[w6.heap.size]? = some (.cells #[.float .f32 1056964608, .float .f32 1048576000, .float .f32 1048576000, .float .f32 0] 27 (0, 0)) := by rw [← hW7]; exact blk_alloc_new _ _
  have hb37 : Below W3.heap.size W3 W7 := ((HB4.out.trans (hB5.mono (by have := HB4.out.size; omega))).trans (hb6.mono (by have := HB4.out.size; omega))).trans (hB7.mono (by have := HB4.out.size; omega))
  have hs7 := hB7.size
  rw [hW7]
  clear hW7
  have cB : ∀ j, j < 4 → W7.cell? ⟨gb, 0 + j, none⟩ = some (.float .f32 (([1056964608, 1048576000, 1048576000, 0] : List Nat)[j]?.getD 0)) := fun j hj => by
    rw [Nat.zero_add]
    refine ((hb37.cell (p := ⟨gb, j, none⟩) hgB).trans (HCB.out j hj)).trans ?_
    exact lt4 (P := fun j => some (Value.float .f32 (smpOf (([8, 4, 4, 0] : List Int)[j]?.getD 0))) = some (Value.float .f32 (([1056964608, 1048576000, 1048576000, 0] : List Nat)[j]?.getD 0)))
      (by show some (Value.float .f32 (smpOf 8)) = _; rw [s8]; rfl) (by show some (Value.float .f32 (smpOf 4)) = _; rw [s4]; rfl) (by show some (Value.float .f32 (smpOf 4)) = _; rw [s4]; rfl) (by show some (Value.float .f32 (smpOf 0)) = _; rw [s0]; rfl) j hj
  have cB' : ∀ j, j < 4 → W7.cell? ⟨w6.heap.size, 0 + j, none⟩ = some (.float .f32 (([1056964608, 1048576000, 1048576000, 0] : List Nat)[j]?.getD 0)) := fun j hj => by
    rw [Nat.zero_add, cell_of_row W7 _ j _ _ (0, 0) b7]
    exact lt4 (P := fun j => (#[Value.float .f32 1056964608, .float .f32 1048576000, .float .f32 1048576000, .float .f32 0] : Array Value)[j]? = some (Value.float .f32 (([1056964608, 1048576000, 1048576000, 0] : List Nat)[j]?.getD 0))) rfl rfl rfl rfl j hj
  refine (sameSamples_any gb 0 4 w6.heap.size 0 4 4 _ _ _ (by omega) (by have := hb37.size; omega) (lt_of_blk b7) cB cB' SB SB).mono ?_
  rintro e w8 ⟨rfl, hb8⟩
  go_wp2
  go_ret
  exact ⟨rfl, ((HB1.out.trans (HB2.out.mono (by omega))).trans (hb37.mono (by have := HB2.out.size; omega) |> fun h => HB3.out.mono (by have := HB2.out.size; omega) |>.trans h)).trans (hb8.mono (by have := HB2.out.size; have := HB3.out.size; have := hb37.size; omega))⟩
end Go.Proofs.Ytnlbgikhkpalcaa
