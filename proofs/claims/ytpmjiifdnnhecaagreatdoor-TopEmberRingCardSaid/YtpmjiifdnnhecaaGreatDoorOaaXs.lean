/-
  Contract of emberRing: the fixed example of chapter 1.
-/
import Derived.Test.YtpmjiifdnnhecaaGreatDoorOaaXi
import Derived.Test.YtpmjiifdnnhecaaGreatDoorOaaXk
import Derived.Test.YtpmjiifdnnhecaaGreatDoorOaaXe
import Derived.Test.YtpmjiifdnnhecaaGreatDoorOaaWh
import Derived.Test.YtpmjiifdnnhecaaGreatDoorOaaBd
import Derived.Test.YtpmjiifdnnhecaaGreatDoorOaaZk
import Derived.Test.YtpmjiifdnnhecaaGreatDoorOaaJe
import Derived.Test.YtpmjiifdnnhecaaGreatDoorCards
import Derived.Test.YtpmjiifdnnhecaaGreatDoorTie
import Derived.WalkKit
import Derived.ProofKit
import Derived.OpenShut
import Derived.Lib.SmallJoins
import Derived.Laws.Cover2
import Derived.Carry
import Derived.SizedLaws
import Derived.Deep.Slices
import Derived.Deep.DeepHandedRow
import Derived.Lib.LaidTab
import Derived.Lay
import Derived.Deep.CutBlock
import Derived.Deep.DeepCutAuto
import Derived.Test.YtpmjiifdnnhecaaGreatDoorOaaVa
namespace Go.Proofs.YtpmjiifdnnhecaaGreatDoor
open Go.RowKit
set_option linter.unusedVariables false

theorem smpOf_lt (n : Int) (hn : n.natAbs < 2 ^ 24) : smpOf n < 2 ^ 32 := by
  have := floatBits_wf (smpOf_run n hn)
  simpa [Lit.wf] using this
theorem right_of {w : World} {W H : Int} {b n : Nat} {ks : List Int} (hl : ks.length = n) (hn : n ≤ 4096) (hc : ∀ j, j < n → w.cell? ⟨b, j, none⟩ = some (.float .f32 (smpOf (ks[j]?.getD 0)))) (hs : ∀ j, j < n → (ks[j]?.getD 0).natAbs ≤ 16384)
    (hW : 1 ≤ W ∧ W ≤ 64) (hH : 1 ≤ H ∧ H ≤ 64) (ha : W * H = n) : RightMap w W H b 0 n (ks.map smpOf) ks := by
  have e : ∀ j, j < n → (ks.map smpOf)[j]?.getD 0 = smpOf (ks[j]?.getD 0) := fun j hj => by
    rw [List.getElem?_map, List.getElem?_eq_getElem (by omega)]; rfl
  exact ⟨⟨by rw [List.length_map]; exact hl, hl, hn, fun j hj => by rw [Nat.zero_add, e j hj]; exact hc j hj, fun j hj => by rw [e j hj]; exact smpOf_lt _ (Nat.lt_of_le_of_lt (hs j hj) (by decide)), fun j hj => by rw [e j hj]; exact smpOf_smp _ (Nat.lt_of_le_of_lt (hs j hj) (by decide)), hs⟩, hW, hH, ha⟩

theorem lt4 {P : Nat → Prop} (h0 : P 0) (h1 : P 1) (h2 : P 2) (h3 : P 3) : ∀ j, j < 4 → P j
  | 0, _ => h0
  | 1, _ => h1
  | 2, _ => h2
  | 3, _ => h3
  | n + 4, h => by omega

set_option maxRecDepth 100000 in
set_option maxHeartbeats 3200000 in
theorem emberRing_any (w : World) : Calls Tryz.prog 61 #[] w fun e w' => e = .returned (.bool true) ∧ Below w.heap.size w w' := by
  obtain ⟨W1, hW1⟩ : ∃ W1, (w.alloc (.cells #[.float .f32 1065353216, .float .f32 0, .float .f32 0, .float .f32 0] 119)).alloc (.cells #[.int .i64 2, .int .i64 2, .slice (some ⟨w.heap.size, 0, none⟩) 4 4] 121) = W1 := ⟨_, rfl⟩
  have hB1 : Below w.heap.size w W1 := by rw [← hW1]; exact ((Below.refl _ w).alloc (Nat.le_refl _) _).alloc (by simp) _
  have hS1 : w.heap.size + 2 ≤ W1.heap.size := by rw [← hW1]; simp
  have bq : W1.heap[w.heap.size]? = some (.cells #[.float .f32 1065353216, .float .f32 0, .float .f32 0, .float .f32 0] 119 (0, 0)) := by rw [← hW1]; exact blk_alloc_other (blk_alloc_new _ _) _
  have bm : W1.heap[w.heap.size + 1]? = some (.cells #[.int .i64 2, .int .i64 2, .slice (some ⟨w.heap.size, 0, none⟩) 4 4] 121 (0, 0)) := by rw [← hW1]; exact blk_alloc_new1 _ _ _
  have s16 : smpOf 16 = 1065353216 := by kernel_rfl
  have s0 : smpOf 0 = 0 := by kernel_rfl
  have s8 : smpOf 8 = 1056964608 := by kernel_rfl
  have s4 : smpOf 4 = 1048576000 := by kernel_rfl
  have hM : RightMap W1 2 2 w.heap.size 0 4 ([16, 0, 0, 0].map smpOf) [16, 0, 0, 0] := right_of rfl (by omega) (lt4
      (by rw [cell_of_row W1 _ 0 _ _ (0, 0) bq]; show _ = some (Value.float .f32 (smpOf 16)); rw [s16]; rfl)
      (by rw [cell_of_row W1 _ 1 _ _ (0, 0) bq]; show _ = some (Value.float .f32 (smpOf 0)); rw [s0]; rfl)
      (by rw [cell_of_row W1 _ 2 _ _ (0, 0) bq]; show _ = some (Value.float .f32 (smpOf 0)); rw [s0]; rfl)
      (by rw [cell_of_row W1 _ 3 _ _ (0, 0) bq]; show _ = some (Value.float .f32 (smpOf 0)); rw [s0]; rfl)) (lt4 (by decide) (by decide) (by decide) (by decide)) (by omega) (by omega) (by decide)
  have hRT : roundsTo 2 2 4 [16, 0, 0, 0] (placesTo 2 (2 * 2)) = [8, 4, 4, 0] := by decide +kernel
  have K1 : Hid (Calls Tryz.prog 66 #[.agg #[.int .i64 2, .int .i64 2, .slice (some ⟨w.heap.size, 0, none⟩) 4 4]] W1 fun e w' =>
      ∃ g, e = .returned (.tuple #[.agg #[.int .i64 2, .int .i64 2, .slice (some ⟨g, 0, none⟩) 4 4], .int .i64 0]) ∧ g < w'.heap.size ∧
        (∀ j, j < 4 → w'.cell? ⟨g, j, none⟩ = some (.float .f32 (smpOf (([16, 0, 0, 0] : List Int)[(2 - 1 - j % 2) * 2 + j / 2]?.getD 0)))) ∧ Below W1.heap.size W1 w') := Lib.hid (turned_any 2 2 w.heap.size 0 4 4 _ _ W1 hM (by omega))
  have K2 : Hid (∀ Wx : World, Below W1.heap.size W1 Wx → Calls Tryz.prog 69 #[.agg #[.int .i64 2, .int .i64 2, .slice (some ⟨w.heap.size, 0, none⟩) 4 4], .int .i64 4] Wx fun e w' =>
      ∃ g, e = .returned (.tuple #[.agg #[.int .i64 2, .int .i64 2, .slice (some ⟨g, 0, none⟩) 4 4], .int .i64 0]) ∧ g < w'.heap.size ∧
        (∀ j, j < 4 → w'.cell? ⟨g, j, none⟩ = some (.float .f32 (smpOf (([8, 4, 4, 0] : List Int)[j]?.getD 0)))) ∧ Below Wx.heap.size Wx w') := Lib.hid (fun Wx h => by
    have h1 := spread_any 2 2 4 (by omega) (by omega) w.heap.size 0 4 4 _ _ Wx (hM.below h (by omega)) (by have := h.size; omega) (fun j => by
      rw [hRT]
      by_cases hj : j < 4
      · exact lt4 (P := fun j => (([8, 4, 4, 0] : List Int)[j]?.getD 0).natAbs ≤ 16384) (by decide) (by decide) (by decide) (by decide) j hj
      · rw [List.getElem?_eq_none (by simp; omega)]; decide)
    rw [hRT] at h1
    exact h1)
  have HB1 := Lib.hid hB1
  have c0 := GridAt.of_blk (W := 2) (H := 2) bm
  obtain ⟨c0, c1, c2⟩ := c0
  have HBM := Lib.hid bm
  clear hM hRT hB1 bq bm s16 s0 s8 s4
  go_enter Tryz.func61, Tryz.ntmps61
  go_wp2_with (first
    | ((go_at_call 66; refine K1.out.mono ?_; rintro e w2 ⟨ga, rfl, hga, hca, hb2⟩
        have hs2 := hb2.size
        obtain ⟨W2, hW2⟩ : ∃ W2, w2.alloc (.cells #[.int .i64 2, .int .i64 2, .slice (some ⟨ga, 0, none⟩) 4 4] 121) = W2 := ⟨_, rfl⟩
        have hB2 : Below W1.heap.size W1 W2 := by rw [← hW2]; exact hb2.alloc hb2.size _
        have bA : W2.heap[w2.heap.size]? = some (.cells #[.int .i64 2, .int .i64 2, .slice (some ⟨ga, 0, none⟩) 4 4] 121 (0, 0)) := by rw [← hW2]; exact blk_alloc_new _ _
        have hcA : ∀ j, j < 4 → W2.cell? ⟨ga, j, none⟩ = some (.float .f32 (smpOf (([16, 0, 0, 0] : List Int)[(2 - 1 - j % 2) * 2 + j / 2]?.getD 0))) := fun j hj => by
          rw [← hW2]; exact (((Below.refl _ w2).alloc (Nat.le_refl _) _).cell (p := ⟨ga, j, none⟩) hga).trans (hca j hj)
        have hgA : ga < W2.heap.size := by rw [← hW2]; simp; omega
        obtain ⟨d0, d1, d2⟩ := GridAt.of_blk (W := 2) (H := 2) ((hB2.block _ (by omega)).trans HBM.out)
        have K3 := Lib.hid (K2.out W2 hB2)
        have HBA := Lib.hid bA
        have HCA := Lib.hid hcA
        have HB2 := Lib.hid hB2
        clear hb2 hca hcA bA hB2 c0 c1 c2))
    | ((go_at_call 69; refine K3.out.mono ?_; rintro e w3 ⟨gb, rfl, hgb, hcb, hb3⟩
        have hs3 := hb3.size
        obtain ⟨W3, hW3⟩ : ∃ W3, w3.alloc (.cells #[.int .i64 2, .int .i64 2, .slice (some ⟨gb, 0, none⟩) 4 4] 121) = W3 := ⟨_, rfl⟩
        have hB3 : Below W2.heap.size W2 W3 := by rw [← hW3]; exact hb3.alloc hb3.size _
        have bB : W3.heap[w3.heap.size]? = some (.cells #[.int .i64 2, .int .i64 2, .slice (some ⟨gb, 0, none⟩) 4 4] 121 (0, 0)) := by rw [← hW3]; exact blk_alloc_new _ _
        have hcB : ∀ j, j < 4 → W3.cell? ⟨gb, j, none⟩ = some (.float .f32 (smpOf (([8, 4, 4, 0] : List Int)[j]?.getD 0))) := fun j hj => by
          rw [← hW3]; exact (((Below.refl _ w3).alloc (Nat.le_refl _) _).cell (p := ⟨gb, j, none⟩) hgb).trans (hcb j hj)
        have hgB : gb < W3.heap.size := by rw [← hW3]; simp; omega
        have hMB : RightMap W3 2 2 gb 0 4 ([8, 4, 4, 0].map smpOf) [8, 4, 4, 0] := right_of rfl (by omega) hcB (lt4 (by decide) (by decide) (by decide) (by decide)) (by omega) (by omega) (by decide)
        have K4 := Lib.hid (total_any 2 2 gb 0 4 4 _ _ W3 hMB hgB)
        obtain ⟨e0, e1, e2⟩ := GridAt.of_blk (W := 2) (H := 2) bB
        have HBB := Lib.hid bB
        have HCB := Lib.hid hcB
        have HB3 := Lib.hid hB3
        clear hb3 hcb hcB bB hB3 hMB d0 d1 d2))
    | ((go_at_call 62; refine K4.out.mono ?_; rintro e w4 ⟨rfl, hb4⟩
        have hs4 := hb4.size
        have hlB := lt_of_blk HBB.out
        have hlA := lt_of_blk HBA.out
        have hsB := HB3.out.size
        obtain ⟨d0, d1, d2⟩ := GridAt.of_blk (W := 2) (H := 2) ((hb4.block _ (Nat.lt_of_lt_of_le hlA hsB)).trans ((HB3.out.block _ hlA).trans HBA.out))
        obtain ⟨e0, e1, e2⟩ := GridAt.of_blk (W := 2) (H := 2) ((hb4.block _ hlB).trans HBB.out)
        have e16 : (([8, 4, 4, 0] : List Int).sum == 16) = true := by decide
        have HB4 := Lib.hid hb4)))
  have s16 : smpOf 16 = 1065353216 := by kernel_rfl
  have s0 : smpOf 0 = 0 := by kernel_rfl
  have s8 : smpOf 8 = 1056964608 := by kernel_rfl
  have s4 : smpOf 4 = 1048576000 := by kernel_rfl
  obtain ⟨W5, hW5⟩ : ∃ W5, w4.alloc (.cells #[.float .f32 0, .float .f32 1065353216, .float .f32 0, .float .f32 0] 119) = W5 := ⟨_, rfl⟩
  have hB5 : Below w4.heap.size w4 W5 := by rw [← hW5]; exact (Below.refl _ w4).alloc (Nat.le_refl _) _
  have b5 : W5.heap[w4.heap.size]? = some (.cells #[.float .f32 0, .float .f32 1065353216, .float .f32 0, .float .f32 0] 119 (0, 0)) := by rw [← hW5]; exact blk_alloc_new _ _
  have hb45 : Below W2.heap.size W2 W5 := (HB3.out.trans (HB4.out.mono hsB)).trans (hB5.mono (by omega))
  have hs5 := hB5.size
  rw [hW5]
  clear hW5
  have cA : ∀ j, j < 4 → W5.cell? ⟨ga, 0 + j, none⟩ = some (.float .f32 (([0, 1065353216, 0, 0] : List Nat)[j]?.getD 0)) := fun j hj => by
    rw [Nat.zero_add]
    refine ((hb45.cell (p := ⟨ga, j, none⟩) hgA).trans (HCA.out j hj)).trans ?_
    exact lt4 (P := fun j => some (Value.float .f32 (smpOf (([16, 0, 0, 0] : List Int)[(2 - 1 - j % 2) * 2 + j / 2]?.getD 0))) = some (Value.float .f32 (([0, 1065353216, 0, 0] : List Nat)[j]?.getD 0)))
      (by show some (Value.float .f32 (smpOf 0)) = _; rw [s0]; rfl) (by show some (Value.float .f32 (smpOf 16)) = _; rw [s16]; rfl) (by show some (Value.float .f32 (smpOf 0)) = _; rw [s0]; rfl) (by show some (Value.float .f32 (smpOf 0)) = _; rw [s0]; rfl) j hj
  have cA' : ∀ j, j < 4 → W5.cell? ⟨w4.heap.size, 0 + j, none⟩ = some (.float .f32 (([0, 1065353216, 0, 0] : List Nat)[j]?.getD 0)) := fun j hj => by
    rw [Nat.zero_add, cell_of_row W5 _ j _ _ (0, 0) b5]
    exact lt4 (P := fun j => (#[Value.float .f32 0, .float .f32 1065353216, .float .f32 0, .float .f32 0] : Array Value)[j]? = some (Value.float .f32 (([0, 1065353216, 0, 0] : List Nat)[j]?.getD 0))) rfl rfl rfl rfl j hj
  have S0 : Smp 0 0 := by have := smpOf_smp 0 (by decide); rwa [s0] at this
  have S16 : Smp 1065353216 16 := by have := smpOf_smp 16 (by decide); rwa [s16] at this
  have S8 : Smp 1056964608 8 := by have := smpOf_smp 8 (by decide); rwa [s8] at this
  have S4 : Smp 1048576000 4 := by have := smpOf_smp 4 (by decide); rwa [s4] at this
  have SA : ∀ j, j < 4 → Smp (([0, 1065353216, 0, 0] : List Nat)[j]?.getD 0) (([0, 16, 0, 0] : List Int)[j]?.getD 0) := lt4 S0 S16 S0 S0
  have SB : ∀ j, j < 4 → Smp (([1056964608, 1048576000, 1048576000, 0] : List Nat)[j]?.getD 0) (([8, 4, 4, 0] : List Int)[j]?.getD 0) := lt4 S8 S4 S4 S0
  have hlW5 : w4.heap.size < W5.heap.size := lt_of_blk b5
  refine (sameSamples_any ga 0 4 w4.heap.size 0 4 4 _ _ _ (by omega) (by have := hb45.size; omega) hlW5 cA cA' SA SA).mono ?_
  rintro e w6 ⟨rfl, hb6⟩
  have hs6 := hb6.size
  have gB5 : gb < W5.heap.size := by have := HB4.out.size; omega
  obtain ⟨f0, f1, f2⟩ := GridAt.of_blk (W := 2) (H := 2) ((hb6.block _ (by omega)).trans ((hB5.block _ (by omega)).trans ((HB4.out.block _ hlB).trans HBB.out)))
  go_wp2_with fail
  obtain ⟨W7, hW7⟩ : ∃ W7, w6.alloc (.cells #[.float .f32 1056964608, .float .f32 1048576000, .float .f32 1048576000, .float .f32 0] 119) = W7 := ⟨_, rfl⟩
  have hB7 : Below w6.heap.size w6 W7 := by rw [← hW7]; exact (Below.refl _ w6).alloc (Nat.le_refl _) _
  have b7 : W7.heap[w6.heap.size]? = some (.cells #[.float .f32 1056964608, .float .f32 1048576000, .float .f32 1048576000, .float .f32 0] 119 (0, 0)) := by rw [← hW7]; exact blk_alloc_new _ _
  have hb37 : Below W3.heap.size W3 W7 := ((HB4.out.trans (hB5.mono (by have := HB4.out.size; omega))).trans (hb6.mono (by have := HB4.out.size; omega))).trans (hB7.mono (by have := HB4.out.size; omega))
  have hs7 := hB7.size
  rw [hW7]
  clear hW7
  have cB : ∀ j, j < 4 → W7.cell? ⟨gb, 0 + j, none⟩ = some (.float .f32 (([1056964608, 1048576000, 1048576000, 0] : List Nat)[j]?.getD 0)) := fun j hj => by
    rw [Nat.zero_add]
    refine ((hb37.cell (p := ⟨gb, j, none⟩) hgB).trans (HCB.out j hj)).trans ?_
    exact lt4 (P := fun j => some (Value.float .f32 (smpOf (([8, 4, 4, 0] : List Int)[j]?.getD 0))) = some (Value.float .f32 (([1056964608, 1048576000, 1048576000, 0] : List Nat)[j]?.getD 0)))
      (by show some (Value.float .f32 (smpOf 8)) = _; rw [s8]; rfl) (by show some (Value.float .f32 (smpOf 4)) = _; rw [s4]; rfl) (by show some (Value.float .f32 (smpOf 4)) = _; rw [s4]; rfl) (by show some (Value.float .f32 (smpOf 0)) = _; rw [s0]; rfl) j hj
  have cB' : ∀ j, j < 4 → W7.cell? ⟨w6.heap.size, 0 + j, none⟩ = some (.float .f32 (([1056964608, 1048576000, 1048576000, 0] : List Nat)[j]?.getD 0)) := fun j hj => by
    rw [Nat.zero_add, cell_of_row W7 _ j _ _ (0, 0) b7]
    exact lt4 (P := fun j => (#[Value.float .f32 1056964608, .float .f32 1048576000, .float .f32 1048576000, .float .f32 0] : Array Value)[j]? = some (Value.float .f32 (([1056964608, 1048576000, 1048576000, 0] : List Nat)[j]?.getD 0))) rfl rfl rfl rfl j hj
  refine (sameSamples_any gb 0 4 w6.heap.size 0 4 4 _ _ _ (by omega) (by have := hb37.size; omega) (lt_of_blk b7) cB cB' SB SB).mono ?_
  rintro e w8 ⟨rfl, hb8⟩
  go_wp2
  go_ret
  exact ⟨rfl, ((HB1.out.trans (HB2.out.mono (by omega))).trans (hb37.mono (by have := HB2.out.size; omega) |> fun h => HB3.out.mono (by have := HB2.out.size; omega) |>.trans h)).trans (hb8.mono (by have := HB2.out.size; have := HB3.out.size; have := hb37.size; omega))⟩
end Go.Proofs.YtpmjiifdnnhecaaGreatDoor

/-
  Contract of small for every map: whether it is right, has at most 160 samples, and none above a bound.
-/

namespace Go.Proofs.YtpmjiifdnnhecaaGreatDoor
open Go.RowKit
set_option linter.unusedVariables false
set_option linter.unusedSimpArgs false

theorem order_lt {x y : Nat} {k l : Int} (hx : Smp x k) (hy : Smp y l) : (FloatKind.f32.format.order x y == some .lt) = decide (k < l) := by
  have e : Ieee.single.order x y = some (compare k l) := hx.order hy
  show (Ieee.single.order x y == some .lt) = decide (k < l)
  rw [e]
  have h : (compare k l = .lt) ↔ k < l := by
    show compareOfLessAndEq k l = .lt ↔ _
    unfold compareOfLessAndEq
    split
    · simp_all
    · split <;> simp_all
  by_cases hk : k < l
  · rw [decide_eq_true hk, h.2 hk]; rfl
  · rw [decide_eq_false hk]
    cases h2 : compare k l
    · exact absurd (h.1 h2) hk
    · rfl
    · rfl

theorem ret_boolK {a b : Bool} (h : a = b) : Ending.returned (.bool a) = .returned (.bool b) := by rw [h]
end Go.Proofs.YtpmjiifdnnhecaaGreatDoor

/-
  Contract of emberSmall at 64 samples up to 16, for every map: whether it is right, has at most 64 samples, and none above 16.
-/

namespace Go.Proofs.YtpmjiifdnnhecaaGreatDoor
open Go.RowKit
set_option linter.unusedVariables false
set_option linter.unusedSimpArgs false

def ringB (W H : Int) (n : Nat) (xs : List Nat) : Bool := decide (mapErr W H n xs = 0 ∧ n ≤ 64 ∧ ∀ j, j < n → (kOf (xs[j]?.getD 0)).natAbs ≤ 256)
theorem smp16 : Smp 1098907648 ((256 : Nat) : Int) := by
  rw [show (1098907648 : Nat) = smpOf ((256 : Nat) : Int) by decide +kernel]; exact smpOf_smp _ (by decide)
theorem smpN16 : Smp 3246391296 (-((256 : Nat) : Int)) := by
  rw [show (3246391296 : Nat) = smpOf (-((256 : Nat) : Int)) from by decide +kernel]; exact smpOf_smp _ (by decide)
theorem neg16 : ∀ w : World, (Op.unary .neg (.float .f32 1098907648)).run Tryz.prog w = .ok (.float .f32 3246391296) w := fun w => by kernel_rfl

set_option maxRecDepth 100000 in
set_option maxHeartbeats 3200000 in
theorem ringSmall_all (W H : Int) (a : Option Addr) (n c : Nat) (xs : List Nat) (w : World) (hM : AnyMap w a n c xs) :
    Calls Tryz.prog 60 #[.agg #[.int .i64 W, .int .i64 H, .slice a n c], .int .i64 64, .float .f32 1098907648] w fun e w' => e = .returned (.bool (ringB W H n xs)) ∧ Below w.heap.size w w' := by
  obtain ⟨W0, hW0⟩ : ∃ W0, w.alloc (.cells #[.int .i64 W, .int .i64 H, .slice a n c] 117) = W0 := ⟨_, rfl⟩
  have hB0 : Below w.heap.size w W0 := by rw [← hW0]; exact (Below.refl _ w).alloc (Nat.le_refl _) _
  have r0 : W0.heap[w.heap.size]? = some (.cells #[.int .i64 W, .int .i64 H, .slice a n c] 117 (0, 0)) := by rw [← hW0]; exact blk_alloc_new _ _
  obtain ⟨z0, z1, z2⟩ := row_cells r0
  obtain ⟨er, her⟩ : ∃ er, mapErr W H n xs = er := ⟨_, rfl⟩
  have K0 := refCheckMap_map W H a n c xs W0 (hM.below hB0 (Nat.le_refl _))
  rw [her] at K0
  have K := Lib.hid K0
  have HB0 := Lib.hid hB0
  have HR0 := Lib.hid r0
  have HM := Lib.hid hM
  have HER := Lib.hid her
  clear hB0 r0 hM K0 her
  by_cases h1 : n ≤ 64
  · have i1 : ¬ ((64 : Int) < (n : Int)) := by omega
    by_cases h0 : er = 0
    · have e0 : (er != 0) = false := by simp [h0]
      have H0 := Lib.hid h0
      clear h0
      go_enter Tryz.func60, Tryz.ntmps60
      go_upto_region 1 with fail
      try rw [hW0]
      clear hW0
      go_upto_if 18 with (go_at_call 67; with_reducible refine K.out.mono ?_; rintro e w1 ⟨rfl, hb1⟩; have r1 := (hb1.block _ (lt_of_blk HR0.out)).trans HR0.out; have hb1' := HB0.out.trans (hb1.mono HB0.out.size); obtain ⟨y0, y1, y2⟩ := row_cells r1)
      have HB1 := Lib.hid hb1'
      have HR1 := Lib.hid r1
      clear hb1 hb1' r1 z0 z1 z2
      go_wp2_with fail
      go_loop [22] (fun i => ∃ k : Nat, k ≤ n ∧ i = .int .i64 k ∧ Hid (∀ j, j < k → (kOf (xs[j]?.getD 0)).natAbs ≤ 256)) (fun i => n - (intOf i).toNat)
      case atStart => exact ⟨0, Nat.zero_le _, rfl, Lib.hid fun j hj => absurd hj (by omega)⟩
      case round =>
        obtain ⟨k, hk, rfl, hh⟩ := hrel
        by_cases hlt : k < n
        · obtain ⟨b, o, rfl, hb, hcc⟩ := HM.out.cells k hlt
          have hcell : w1.cell? ⟨b, o + k, none⟩ = some (.float .f32 (xs[k]?.getD 0)) := (HB1.out.cell (by exact hb)).trans (hcc k hlt)
          have hs := (smp_kOf (mapErr_smps HM.out.len (HER.out.trans H0.out) k hlt)).1
          have hneg := neg16
          have t1 := order_gt hs smp16
          have t2 := order_lt hs smpN16
          obtain ⟨x, hx⟩ : ∃ x, xs[k]?.getD 0 = x := ⟨_, rfl⟩
          have HX := Lib.hid hx
          rw [hx] at hcell t1 t2
          have t1' : (FloatKind.f32.format.order x 1098907648 == some .gt) = decide (((256 : Nat) : Int) < kOf x) := t1
          clear t1 hs hcc hx
          by_cases hbad : (kOf x).natAbs ≤ 256
          · have u1 : (FloatKind.f32.format.order x 1098907648 == some .gt) = false := by rw [t1']; simp; omega
            have u2 : (FloatKind.f32.format.order x 3246391296 == some .lt) = false := by rw [t2]; simp; omega
            have HBAD := Lib.hid hbad
            clear t1' t2 hbad
            go_wp2_with fail
            go_round
            case rel => exact ⟨k + 1, by omega, by go_num, Lib.hid fun j hj => by
              by_cases hjk : j < k
              · exact hh.out j hjk
              · obtain rfl : j = k := by omega
                rw [HX.out]; exact HBAD.out⟩
            case measure => simp [intOf]; omega
          · have hfalse : ringB W H n xs = false := decide_eq_false fun h => hbad (by rw [← HX.out]; exact h.2.2 k hlt)
            have HF := Lib.hid hfalse
            by_cases hg : ((256 : Nat) : Int) < kOf x
            · have u1 : (FloatKind.f32.format.order x 1098907648 == some .gt) = true := by rw [t1']; simp; omega
              clear t1' t2 hbad hfalse hg
              go_wp2_with fail
              go_ret
              exact ⟨ret_boolK HF.out.symm, HB1.out⟩
            · have u1 : (FloatKind.f32.format.order x 1098907648 == some .gt) = false := by rw [t1']; simp; omega
              have u2 : (FloatKind.f32.format.order x 3246391296 == some .lt) = true := by rw [t2]; simp; omega
              clear t1' t2 hbad hfalse hg
              go_wp2_with fail
              go_ret
              exact ⟨ret_boolK HF.out.symm, HB1.out⟩
        · obtain rfl : k = n := by omega
          have htrue : ringB W H k xs = true := decide_eq_true ⟨HER.out.trans H0.out, h1, hh.out⟩
          have HT := Lib.hid htrue
          clear htrue
          go_wp2_with fail
          go_ret
          exact ⟨ret_boolK HT.out.symm, HB1.out⟩
    · have e0 : (er != 0) = true := by simp [h0]
      have hfalse : ringB W H n xs = false := decide_eq_false fun h => h0 (HER.out.symm.trans h.1)
      have HF := Lib.hid hfalse
      clear h0 hfalse h1
      go_enter Tryz.func60, Tryz.ntmps60
      go_upto_region 1 with fail
      try rw [hW0]
      clear hW0
      go_wp2_with (go_at_call 67; with_reducible refine K.out.mono ?_; rintro e w1 ⟨rfl, hb1⟩; have HB1 := Lib.hid (HB0.out.trans (hb1.mono HB0.out.size)); clear hb1)
      go_ret
      exact ⟨ret_boolK HF.out.symm, HB1.out⟩
  · have i1 : (64 : Int) < (n : Int) := by omega
    have hfalse : ringB W H n xs = false := decide_eq_false fun h => h1 h.2.1
    have HF := Lib.hid hfalse
    clear hfalse h1
    go_enter Tryz.func60, Tryz.ntmps60
    go_upto_region 1 with fail
    try rw [hW0]
    clear hW0
    go_wp2_with fail
    go_ret
    exact ⟨ret_boolK HF.out.symm, HB0.out⟩
end Go.Proofs.YtpmjiifdnnhecaaGreatDoor

/-
  What the rows of chapter 1 share: arguments that come in, opened; the table that Itoa reads; a world for the witness.
-/
namespace Go.Proofs.YtpmjiifdnnhecaaGreatDoor
open Go.ChangeShapes Go.WideShapes Go.ChangeAt Go.RowKit Go.Joins Go.Deep
set_option linter.unusedVariables false

theorem ownKnobOff : ownKnob Tryz.prog.godebug = none := by kernel_rfl
theorem laidOut : laidOutB Tryz.prog = true := by kernel_rfl
theorem cellsMap : Tryz.prog.cellsOf 117 = 3 := by kernel_rfl
theorem cellsF : Tryz.prog.cellsOf 119 = 1 := by kernel_rfl

theorem float_form {H : Type} {enc : TypeId × Value → H} {P : Program} {W : World} {sp : Nat → Bool} {t k : Nat} {v : Value} {x : DataW H × List MemPlace} (ht : P.underlying t = some (.float .f32))
    (h : DataW.trod enc P W 0 sp true k t [v] = some x) : ∃ x : Nat, v = .float .f32 x ∧ x < 2 ^ 32 := by
  cases k with
  | zero => simp [DataW.trod] at h
  | succ n =>
    unfold DataW.trod at h
    rw [ht] at h
    split at h <;> simp_all
    rename_i k1 k2 b1 e2
    subst e2
    simpa [Lit.wf] using h.1.2
theorem plain_at {w : World} {a : Addr} {v : Value} (h : w.cell? a = some v) : a = ⟨a.block, a.off, none⟩ ∧ a.block < w.heap.size := by
  unfold World.cell? at h
  obtain ⟨b, o, s⟩ := a
  split at h
  · rename_i hh
    split at h
    · cases h
    · rename_i hs
      cases s with
      | none => exact ⟨rfl, (Array.getElem?_eq_some_iff.1 hh).1⟩
      | some _ => simp at hs
  · cases h


set_option maxRecDepth 100000 in
/-- A map that comes in, opened: whatever its length. -/
theorem openMap {H : Type} {enc : TypeId × Value → H} {W : World} {b0 : Nat} {v : Value} {d : DataW H} {p : List MemPlace}
    (hv : Value.okWide Tryz.prog W .any b0 117 v) (h : DataW.Trod enc Tryz.prog W 0 (fun _ => true) true 117 v d p) :
    ∃ (X Y : Int) (a : Option Addr) (n c : Nat) (xs : List Nat), v = .agg #[.int .i64 X, .int .i64 Y, .slice a n c] ∧ AnyMap W a n c xs := by
  obtain ⟨c0, c1, c2, y0, y1, y2, k, rfl, rfl, rfl, h0, h1, h2⟩ := open_agg3 Tryz.underlying117 (by kernel_rfl) cellsMap hv h
  obtain ⟨X, e0, rfl, wX⟩ := DataW.trod_int Tryz.underlying3 h0
  obtain ⟨Y, e1, rfl, wY⟩ := DataW.trod_int Tryz.underlying3 h1
  simp at e0 e1
  subst e0 e1
  rcases open_slice1 Tryz.underlying115 cellsF h2 with ⟨hcs, rfl⟩ | ⟨a, n, c, m, f, V, D, Pl, hcs, _, hl, hm, hmm, rfl, hx⟩
  · simp at hcs
    subst hcs
    exact ⟨X, Y, none, 0, 0, [], rfl, ⟨rfl, fun j hj => by omega, .inl ⟨rfl, rfl, rfl⟩, fun j hj => by omega⟩⟩
  · simp at hcs
    subst hcs
    have hnm : n ≤ m := by rw [hmm]; simp; exact hl
    have hxs : ∀ j, j < n → ∃ x : Nat, V j = .float .f32 x ∧ x < 2 ^ 32 := fun j hj => float_form Tryz.underlying119 (hx j (by omega)).2
    obtain ⟨xs, hxl, hxx⟩ : ∃ xs : List Nat, xs.length = n ∧ ∀ j, j < n → V j = .float .f32 (xs[j]?.getD 0) ∧ xs[j]?.getD 0 < 2 ^ 32 := by
      refine ⟨(List.range n).map (fun j => match V j with | .float _ x => x | _ => 0), by simp, fun j hj => ?_⟩
      obtain ⟨x, e, hx⟩ := hxs j hj
      rw [List.getElem?_map, List.getElem?_range hj]
      simp only [Option.map_some, Option.getD_some]
      rw [e]
      exact ⟨rfl, hx⟩
    refine ⟨X, Y, some a, n, c, xs, rfl, ⟨hxl, fun j hj => (hxx j hj).2, .inr ⟨a, rfl⟩, fun j hj => ?_⟩⟩
    have hpl : a = ⟨a.block, a.off, none⟩ := (plain_at (by simpa [Addr.add] using (hx 0 (by omega)).1)).1
    refine ⟨a.block, a.off, by rw [← hpl], ?_, fun j hj => ?_⟩
    · exact (plain_at (a := a) (by simpa [Addr.add] using (hx 0 (by omega)).1)).2
    · have h := (hx j (by omega)).1
      rw [(hxx j hj).1] at h
      rw [hpl, Addr.add_mid] at h
      exact h

/-! ### The table that Itoa reads, by the row's list -/

theorem gTab : Tryz.prog.globalNamed "internal/strconv.uint64pow10" = some 3 := by kernel_rfl
theorem gTabType : (Tryz.prog.globals[3]?).map (·.type) = some 337 := by kernel_rfl
theorem cellsTab : Tryz.prog.cellsOf 337 = 20 := by kernel_rfl
theorem cellsU : Tryz.prog.cellsOf 319 = 1 := by kernel_rfl
end Go.Proofs.YtpmjiifdnnhecaaGreatDoor
