/-
  Contracts of Turned's literal and of Turned for a right map: the map that is turned to the right.
-/
import Derived.Test.YtfdkmmllemkogaaOXf
import Derived.Test.YtfdkmmllemkogaaOXe
namespace Go.Proofs.Ytfdkmmllemkogaa
open Go.RowKit
set_option linter.unusedVariables false

set_option maxRecDepth 100000 in
set_option maxHeartbeats 3200000 in
theorem turned1_any (W H X Y : Nat) (g n c g7 : Nat) (v : Int) (hW : W ≤ 64) (hH : H ≤ 64) (hX : X < H) (hY : Y < W) (w : World)
    (hn : (H - 1 - X) * W + Y < n) (g7l : g7 < w.heap.size) (gl : g < w.heap.size) (hA : GridAt w g7 W H g n c)
    (hc : w.cell? ⟨g, (H - 1 - X) * W + Y, none⟩ = some (.int .i64 v)) :
    Calls Try.prog 40 #[.agg #[.int .i64 X, .int .i64 Y], .pointer (some ⟨g7, 0, none⟩)] w fun e w' => e = .returned (.int .i64 v) ∧ Below w.heap.size w w' := by
  obtain ⟨a0, a1, a2⟩ := hA
  have m1 : (H - 1 - X) * W ≤ 64 * 64 := Nat.mul_le_mul (by omega) hW
  have eZ : ((H : Int) - 1 - (X : Int)) = ((H - 1 - X : Nat) : Int) := by omega
  have e2 : ((H : Int) - 1 - (X : Int)) * (W : Int) = (((H - 1 - X) * W : Nat) : Int) := by rw [eZ]; push_cast; rfl
  have e1 : (((H : Int) - 1 - (X : Int)) * (W : Int) + (Y : Int)).toNat = (H - 1 - X) * W + Y := by rw [e2]; omega
  have K : ∀ w1 : World, Below w.heap.size w w1 → Calls Try.prog 35 #[.agg #[.int .i64 W, .int .i64 H, .slice (some ⟨g, 0, none⟩) n c], .agg #[.int .i64 Y, .int .i64 ((H : Int) - 1 - (X : Int))]] w1 fun e w' => e = .returned (.int .i64 v) ∧ Below w1.heap.size w1 w' := fun w1 h => by
    have hs := h.size
    exact at_any W H Y ((H : Int) - 1 - (X : Int)) g n c v (by omega) (by omega) (by omega) (by rw [e2]; omega) w1 (by rw [e2]; omega) (by omega) (by rw [e1]; exact (h.cell (p := ⟨g, _, none⟩) gl).trans hc)
  have HK := Lib.hid K
  have n0 := World.new_ne w _ a0
  have i1 : (H : Int) ≤ 64 := by omega
  have i2 : (X : Int) < (H : Int) := by omega
  clear K e1 e2 eZ hc
  go_enter Try.func40, Try.ntmps40
  go_wp2_with (go_at_call 35; refine (HK.out _ ((Below.refl _ w).alloc (Nat.le_refl _) _)).mono ?_; rintro e w' ⟨rfl, hb1⟩)
  go_ret
  exact ⟨rfl, ((Below.refl _ w).alloc (Nat.le_refl _) _).trans (hb1.mono (by simp))⟩

set_option maxRecDepth 100000 in
set_option maxHeartbeats 3200000 in
theorem turned_any (W H : Nat) (b o n c : Nat) (xs : List Nat) (ks : List Int) (w : World) (hA : RightMap w W H b o n xs ks) (hb : b < w.heap.size) :
    Calls Try.prog 18 #[.agg #[.int .i64 W, .int .i64 H, .slice (some ⟨b, o, none⟩) n c]] w fun e w' =>
      ∃ g, e = .returned (.tuple #[.agg #[.int .i64 H, .int .i64 W, .slice (some ⟨g, 0, none⟩) n n], .int .i64 0]) ∧ g < w'.heap.size ∧
        (∀ j, j < n → w'.cell? ⟨g, j, none⟩ = some (.float .f32 (smpOf (ks[(H - 1 - j % H) * W + j / H]?.getD 0)))) ∧ Below w.heap.size w w' := by
  obtain ⟨W0, hW0⟩ : ∃ W0, (w.alloc (.cells #[.int .i64 W, .int .i64 H, .slice (some ⟨b, o, none⟩) n c] 50)).alloc (.cells #[.int .i64 0, .int .i64 0, .slice none 0 0] 50) = W0 := ⟨_, rfl⟩
  have hB0 : Below w.heap.size w W0 := by rw [← hW0]; exact ((Below.refl _ w).alloc (Nat.le_refl _) _).alloc (by simp) _
  have hS0 : W0.heap.size = w.heap.size + 2 := by rw [← hW0]; simp
  have a0 : W0.cell? ⟨w.heap.size, 0, none⟩ = some (.int .i64 W) := by rw [← hW0]; simp [go_sem]
  have a1 : W0.cell? ⟨w.heap.size, 1, none⟩ = some (.int .i64 H) := by rw [← hW0]; simp [go_sem]
  have a2 : W0.cell? ⟨w.heap.size, 2, none⟩ = some (.slice (some ⟨b, o, none⟩) n c) := by rw [← hW0]; simp [go_sem]
  have z0 : W0.cell? ⟨w.heap.size + 1, 0, none⟩ = some (.int .i64 0) := by rw [← hW0]; simp [go_sem]
  have z1 : W0.cell? ⟨w.heap.size + 1, 1, none⟩ = some (.int .i64 0) := by rw [← hW0]; simp [go_sem]
  have z2 : W0.cell? ⟨w.heap.size + 1, 2, none⟩ = some (.slice none 0 0) := by rw [← hW0]; simp [go_sem]
  have zf : ∀ j, W0.frozen? ⟨w.heap.size + 1, j, none⟩ = false := fun j => by rw [← hW0]; simp [go_sem]
  have K1 := Lib.hid (checkMap_any W H b o n c xs ks W0 (hA.below hB0 hb) (by omega))
  have K2 : Hid (∀ w1 : World, Below W0.heap.size W0 w1 → Calls Try.prog 32 #[.agg #[.int .i64 W, .int .i64 H, .slice (some ⟨b, o, none⟩) n c]] w1 fun e w' =>
      ∃ g, e = .returned (.agg #[.int .i64 W, .int .i64 H, .slice (some ⟨g, 0, none⟩) n n]) ∧ w1.heap.size ≤ g ∧ RowAt w' g n ks ∧ Below w1.heap.size w1 w') := Lib.hid (fun w1 h => by
    have h1 := h.size
    have h2 := hB0.trans (h.mono (by omega))
    exact grid_row W H b o n c xs ks w1 (hA.below h2 hb).toWords (by omega))
  have HB0 := Lib.hid hB0
  have HS0 := Lib.hid hS0
  have HRA := Lib.hid hA
  clear hA hB0
  go_enter Try.func18, Try.ntmps18
  go_wp2_with (first
    | ((go_at_call 31; refine K1.out.mono ?_; rintro e w1 ⟨rfl, hb1⟩
        have hs1 := hb1.size
        have a0' := (hb1.cell (p := ⟨w.heap.size, 0, none⟩) (by show w.heap.size < _; omega)).trans a0
        have a1' := (hb1.cell (p := ⟨w.heap.size, 1, none⟩) (by show w.heap.size < _; omega)).trans a1
        have a2' := (hb1.cell (p := ⟨w.heap.size, 2, none⟩) (by show w.heap.size < _; omega)).trans a2
        have K3 := Lib.hid (K2.out w1 hb1)))
    | ((go_at_call 32; refine K3.out.mono ?_; rintro e w2 ⟨ga, rfl, hga, hRA, hb2⟩
        have hs2 := hb2.size
        have hRA2 := hRA.below ((Below.refl _ w2).alloc (Nat.le_refl _) (.cells #[.int .i64 W, .int .i64 H, .slice (some ⟨ga, 0, none⟩) n n] 76)) hRA.lt
        obtain ⟨W3, hW3⟩ : ∃ W3, w2.alloc (.cells #[.int .i64 W, .int .i64 H, .slice (some ⟨ga, 0, none⟩) n n] 76) = W3 := ⟨_, rfl⟩
        have hS3 : W3.heap.size = w2.heap.size + 1 := by rw [← hW3]; simp
        have hB3 : Below W0.heap.size W0 W3 := by rw [← hW3]; exact (hb1.trans (hb2.mono hs1)).alloc (by omega) _
        have hG3 : GridAt W3 w2.heap.size W H ga n n := by rw [← hW3]; exact ⟨by simp [go_sem], by simp [go_sem], by simp [go_sem]⟩
        rw [hW3] at hRA2
        have z0' := (hB3.cell (p := ⟨w.heap.size + 1, 0, none⟩) (by show w.heap.size + 1 < _; omega)).trans z0
        have z1' := (hB3.cell (p := ⟨w.heap.size + 1, 1, none⟩) (by show w.heap.size + 1 < _; omega)).trans z1
        have z2' := (hB3.cell (p := ⟨w.heap.size + 1, 2, none⟩) (by show w.heap.size + 1 < _; omega)).trans z2
        have zf' : ∀ j, W3.frozen? ⟨w.heap.size + 1, j, none⟩ = false := fun j => (hB3.frozen (p := ⟨w.heap.size + 1, j, none⟩) (by show w.heap.size + 1 < _; omega)).trans (zf j)
        have hN : W * H = n := by have := HRA.out.area; exact_mod_cast this
        have KP := Lib.hid (callsIn_wide.1 (painted_turned H W (by have := HRA.out.hei; omega) (by have := HRA.out.wid; omega) w2.heap.size W3 (fun p => ks[(H - 1 - p.1) * W + p.2]?.getD 0) (fun p => by
            by_cases hj : (H - 1 - p.1) * W + p.2 < n
            · exact HRA.out.sizes _ hj
            · rw [List.getElem?_eq_none (by rw [HRA.out.lenk]; omega)]; simp) (fun p W1 hp h1 => by
          have hlt : (H - 1 - p.1) * W + p.2 < n := idx_lt (p := (p.2, H - 1 - p.1)) hp.2 (by omega) hN
          have hW := HRA.out.wid
          have hH := HRA.out.hei
          have hsz := h1.size
          have hR1 := hRA2.below h1 hRA2.lt
          exact turned1_any W H p.1 p.2 ga n n w2.heap.size _ (by omega) (by omega) hp.1 hp.2 W1 hlt (by omega) hR1.lt (hG3.below h1 (by omega)) (hR1.cells _ hlt))))
        have gg0 := hG3.c0
        have gg1 := hG3.c1
        have HZ := Lib.hid zf'
        have HB3 := Lib.hid hB3
        have HN := Lib.hid hN
        clear hRA hRA2 a0 a1 a2 a0' a1' a2' z0 z1 z2 zf zf' hB3 hN hb1 hb2 hG3))
    | ((go_at_call 33; refine KP.out.mono ?_; rintro e w5 ⟨g, rfl, hown5, hb5⟩
        have s0 : w5.cell? ⟨w.heap.size + 1, 0, none⟩ = some (.int .i64 0) := (hb5.cell (p := ⟨w.heap.size + 1, 0, none⟩) (by show w.heap.size + 1 < _; omega)).trans z0'
        have s1 : w5.cell? ⟨w.heap.size + 1, 1, none⟩ = some (.int .i64 0) := (hb5.cell (p := ⟨w.heap.size + 1, 1, none⟩) (by show w.heap.size + 1 < _; omega)).trans z1'
        have s2 : w5.cell? ⟨w.heap.size + 1, 2, none⟩ = some (.slice none 0 0) := (hb5.cell (p := ⟨w.heap.size + 1, 2, none⟩) (by show w.heap.size + 1 < _; omega)).trans z2'
        have f0 : w5.frozen? ⟨w.heap.size + 1, 0, none⟩ = false := (hb5.frozen (p := ⟨w.heap.size + 1, 0, none⟩) (by show w.heap.size + 1 < _; omega)).trans (HZ.out 0)
        have f1 : w5.frozen? ⟨w.heap.size + 1, 1, none⟩ = false := (hb5.frozen (p := ⟨w.heap.size + 1, 1, none⟩) (by show w.heap.size + 1 < _; omega)).trans (HZ.out 1)
        have f2 : w5.frozen? ⟨w.heap.size + 1, 2, none⟩ = false := (hb5.frozen (p := ⟨w.heap.size + 1, 2, none⟩) (by show w.heap.size + 1 < _; omega)).trans (HZ.out 2))))
  have hN := HN.out
  have hsz5 := hb5.size
  have hg5 : W3.heap.size ≤ g ∧ g < w5.heap.size := hown5.lt g rfl
  rw [Nat.mul_comm H W, hN] at hown5
  refine bodyPost_ret (v := .tuple #[.agg #[.int .i64 H, .int .i64 W, .slice (some ⟨g, 0, none⟩) n n], .int .i64 0]) (by simp [results, Try.results18, go_sem, s0, s1, s2, Nat.mul_comm H W, hN]) rfl ⟨g, rfl, ?_, ?_, ?_⟩
  · simp; omega
  · intro j hj
    refine owns_cell (ownsRow_setCell_below (ownsRow_setCell_below (ownsRow_setCell_below hown5 (by dsimp only; omega) _) (by dsimp only; omega) _) (by dsimp only; omega) _) ?_
    rw [List.getElem?_map, placesTo_get H n j hj, Option.map_some]
  · exact (((HB0.out.trans (HB3.out.mono (by omega))).trans (hb5.mono (by omega))).setCell (p := ⟨w.heap.size + 1, 0, none⟩) (by dsimp only; omega) _ |>.setCell (p := ⟨w.heap.size + 1, 1, none⟩) (by dsimp only; omega) _).setCell (p := ⟨w.heap.size + 1, 2, none⟩) (by dsimp only; omega) _
end Go.Proofs.Ytfdkmmllemkogaa
