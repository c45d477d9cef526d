/-
  Contracts of Flipped's literal and of Flipped for a right map: the map whose columns stand in the other order.
-/
import Derived.Test.YtfdkmmllemkogaaGreatDoorOZc
import Derived.Test.YtfdkmmllemkogaaGreatDoorOWv
import Derived.Test.YtfdkmmllemkogaaGreatDoorOZa
import Derived.Test.YtfdkmmllemkogaaGreatDoorOWf
import Derived.Test.YtfdkmmllemkogaaGreatDoorOWk
import Derived.Lib.AppendStr
import Derived.Deep.CutBlock
import Derived.Deep.DeepCutAuto
namespace Go.Proofs.YtfdkmmllemkogaaGreatDoor
open Go.RowKit
set_option linter.unusedVariables false
set_option linter.unusedSimpArgs false

set_option maxRecDepth 100000 in
set_option maxHeartbeats 3200000 in
theorem flipped1_any (W H X Y : Nat) (g n c g7 : Nat) (v : Int) (hW : W ≤ 64) (hH : H ≤ 64) (hX : X < W) (hY : Y < H) (w : World)
    (hn : Y * W + (W - 1 - X) < n) (g7l : g7 < w.heap.size) (gl : g < w.heap.size) (hA : GridAt w g7 W H g n c)
    (hc : w.cell? ⟨g, Y * W + (W - 1 - X), none⟩ = some (.int .i64 v)) :
    Calls Tryz.prog 138 #[.agg #[.int .i64 X, .int .i64 Y], .pointer (some ⟨g7, 0, none⟩)] w fun e w' => e = .returned (.int .i64 v) ∧ Below w.heap.size w w' := by
  obtain ⟨a0, a1, a2⟩ := hA
  have m1 : Y * W ≤ 64 * 64 := Nat.mul_le_mul (by omega) hW
  have e2 : (Y : Int) * (W : Int) = ((Y * W : Nat) : Int) := by push_cast; rfl
  have e1 : ((Y : Int) * (W : Int) + ((W : Int) - 1 - (X : Int))).toNat = Y * W + (W - 1 - X) := by rw [e2]; omega
  have K : ∀ w1 : World, Below w.heap.size w w1 → Calls Tryz.prog 126 #[.agg #[.int .i64 W, .int .i64 H, .slice (some ⟨g, 0, none⟩) n c], .agg #[.int .i64 ((W : Int) - 1 - (X : Int)), .int .i64 Y]] w1 fun e w' => e = .returned (.int .i64 v) ∧ Below w1.heap.size w1 w' := fun w1 h => by
    have hs := h.size
    exact at_any W H ((W : Int) - 1 - (X : Int)) Y g n c v (by omega) (by omega) (by omega) (by rw [e2]; omega) w1 (by rw [e2]; omega) (by omega) (by rw [e1]; exact (h.cell (p := ⟨g, _, none⟩) gl).trans hc)
  have HK := Lib.hid K
  have n0 := World.new_ne w _ a0
  have i1 : (W : Int) ≤ 64 := by omega
  have i2 : (X : Int) < (W : Int) := by omega
  clear K e1 e2 hc
  go_enter Tryz.func138, Tryz.ntmps138
  go_wp2_with (go_at_call 126; refine (HK.out _ ((Below.refl _ w).alloc (Nat.le_refl _) _)).mono ?_; rintro e w' ⟨rfl, hb1⟩)
  go_ret
  exact ⟨rfl, ((Below.refl _ w).alloc (Nat.le_refl _) _).trans (hb1.mono (by simp))⟩

set_option maxRecDepth 100000 in
set_option maxHeartbeats 3200000 in
theorem flipped_any (W H : Nat) (b o n c : Nat) (xs : List Nat) (ks : List Int) (w : World) (hA : RightMap w W H b o n xs ks) (hb : b < w.heap.size) :
    Calls Tryz.prog 56 #[.agg #[.int .i64 W, .int .i64 H, .slice (some ⟨b, o, none⟩) n c]] w fun e w' =>
      ∃ g, e = .returned (.tuple #[.agg #[.int .i64 W, .int .i64 H, .slice (some ⟨g, 0, none⟩) n n], .int .i64 0]) ∧ g < w'.heap.size ∧
        (∀ j, j < n → w'.cell? ⟨g, j, none⟩ = some (.float .f32 (smpOf (ks[j / W * W + (W - 1 - j % W)]?.getD 0)))) ∧ Below w.heap.size w w' := by
  obtain ⟨W0, hW0⟩ : ∃ W0, (w.alloc (.cells #[.int .i64 W, .int .i64 H, .slice (some ⟨b, o, none⟩) n c] 54)).alloc (.cells #[.int .i64 0, .int .i64 0, .slice none 0 0] 54) = W0 := ⟨_, rfl⟩
  have hB0 : Below w.heap.size w W0 := by rw [← hW0]; exact ((Below.refl _ w).alloc (Nat.le_refl _) _).alloc (by simp) _
  have hS0 : W0.heap.size = w.heap.size + 2 := by rw [← hW0]; simp
  have a0 : W0.cell? ⟨w.heap.size, 0, none⟩ = some (.int .i64 W) := by rw [← hW0]; simp [go_sem]
  have a1 : W0.cell? ⟨w.heap.size, 1, none⟩ = some (.int .i64 H) := by rw [← hW0]; simp [go_sem]
  have a2 : W0.cell? ⟨w.heap.size, 2, none⟩ = some (.slice (some ⟨b, o, none⟩) n c) := by rw [← hW0]; simp [go_sem]
  have z0 : W0.cell? ⟨w.heap.size + 1, 0, none⟩ = some (.int .i64 0) := by rw [← hW0]; simp [go_sem]
  have z1 : W0.cell? ⟨w.heap.size + 1, 1, none⟩ = some (.int .i64 0) := by rw [← hW0]; simp [go_sem]
  have z2 : W0.cell? ⟨w.heap.size + 1, 2, none⟩ = some (.slice none 0 0) := by rw [← hW0]; simp [go_sem]
  have zf : ∀ j, W0.frozen? ⟨w.heap.size + 1, j, none⟩ = false := fun j => by rw [← hW0]; simp [go_sem]
  have K1 := Lib.hid (checkMap_any W H b o n c xs ks W0 (hA.below hB0 hb) (by omega))
  have K2 : Hid (∀ w1 : World, Below W0.heap.size W0 w1 → Calls Tryz.prog 123 #[.agg #[.int .i64 W, .int .i64 H, .slice (some ⟨b, o, none⟩) n c]] w1 fun e w' =>
      ∃ g, e = .returned (.agg #[.int .i64 W, .int .i64 H, .slice (some ⟨g, 0, none⟩) n n]) ∧ w1.heap.size ≤ g ∧ RowAt w' g n ks ∧ Below w1.heap.size w1 w') := Lib.hid (fun w1 h => by
    have h1 := h.size
    have h2 := hB0.trans (h.mono (by omega))
    exact grid_row W H b o n c xs ks w1 (hA.below h2 hb).toWords (by omega))
  have HB0 := Lib.hid hB0
  have HS0 := Lib.hid hS0
  have HRA := Lib.hid hA
  clear hA hB0
  go_enter Tryz.func56, Tryz.ntmps56
  go_wp2_with (first
    | ((go_at_call 47; refine K1.out.mono ?_; rintro e w1 ⟨rfl, hb1⟩
        have hs1 := hb1.size
        have a0' := (hb1.cell (p := ⟨w.heap.size, 0, none⟩) (by show w.heap.size < _; omega)).trans a0
        have a1' := (hb1.cell (p := ⟨w.heap.size, 1, none⟩) (by show w.heap.size < _; omega)).trans a1
        have a2' := (hb1.cell (p := ⟨w.heap.size, 2, none⟩) (by show w.heap.size < _; omega)).trans a2
        have K3 := Lib.hid (K2.out w1 hb1)))
    | ((go_at_call 123; refine K3.out.mono ?_; rintro e w2 ⟨ga, rfl, hga, hRA, hb2⟩
        have hs2 := hb2.size
        have hRA2 := hRA.below ((Below.refl _ w2).alloc (Nat.le_refl _) (.cells #[.int .i64 W, .int .i64 H, .slice (some ⟨ga, 0, none⟩) n n] 188)) hRA.lt
        obtain ⟨W3, hW3⟩ : ∃ W3, w2.alloc (.cells #[.int .i64 W, .int .i64 H, .slice (some ⟨ga, 0, none⟩) n n] 188) = W3 := ⟨_, rfl⟩
        have hS3 : W3.heap.size = w2.heap.size + 1 := by rw [← hW3]; simp
        have hB3 : Below W0.heap.size W0 W3 := by rw [← hW3]; exact (hb1.trans (hb2.mono hs1)).alloc (by omega) _
        have hG3 : GridAt W3 w2.heap.size W H ga n n := by rw [← hW3]; exact ⟨by simp [go_sem], by simp [go_sem], by simp [go_sem]⟩
        rw [hW3] at hRA2
        have z0' := (hB3.cell (p := ⟨w.heap.size + 1, 0, none⟩) (by show w.heap.size + 1 < _; omega)).trans z0
        have z1' := (hB3.cell (p := ⟨w.heap.size + 1, 1, none⟩) (by show w.heap.size + 1 < _; omega)).trans z1
        have z2' := (hB3.cell (p := ⟨w.heap.size + 1, 2, none⟩) (by show w.heap.size + 1 < _; omega)).trans z2
        have zf' : ∀ j, W3.frozen? ⟨w.heap.size + 1, j, none⟩ = false := fun j => (hB3.frozen (p := ⟨w.heap.size + 1, j, none⟩) (by show w.heap.size + 1 < _; omega)).trans (zf j)
        have hN : W * H = n := by have := HRA.out.area; exact_mod_cast this
        have KP := Lib.hid (callsIn_wide.1 (painted_flipped W H (by have := HRA.out.wid; omega) (by have := HRA.out.hei; omega) w2.heap.size W3 (fun p => ks[p.2 * W + (W - 1 - p.1)]?.getD 0) (fun p => by
            by_cases hj : p.2 * W + (W - 1 - p.1) < n
            · exact HRA.out.sizes _ hj
            · rw [List.getElem?_eq_none (by rw [HRA.out.lenk]; omega)]; simp) (fun p W1 hp h1 => by
          have hlt : p.2 * W + (W - 1 - p.1) < n := idx_lt (p := (W - 1 - p.1, p.2)) (by omega) hp.2 hN
          have hW := HRA.out.wid
          have hH := HRA.out.hei
          have hsz := h1.size
          have hR1 := hRA2.below h1 hRA2.lt
          exact flipped1_any W H p.1 p.2 ga n n w2.heap.size _ (by omega) (by omega) hp.1 hp.2 W1 hlt (by omega) hR1.lt (hG3.below h1 (by omega)) (hR1.cells _ hlt))))
        have gg0 := hG3.c0
        have gg1 := hG3.c1
        have HZ := Lib.hid zf'
        have HB3 := Lib.hid hB3
        have HN := Lib.hid hN
        clear hRA hRA2 a0 a1 a2 a0' a1' a2' z0 z1 z2 zf zf' hB3 hN hb1 hb2 hG3))
    | ((go_at_call 132; refine KP.out.mono ?_; rintro e w5 ⟨g, rfl, hown5, hb5⟩
        have s0 : w5.cell? ⟨w.heap.size + 1, 0, none⟩ = some (.int .i64 0) := (hb5.cell (p := ⟨w.heap.size + 1, 0, none⟩) (by show w.heap.size + 1 < _; omega)).trans z0'
        have s1 : w5.cell? ⟨w.heap.size + 1, 1, none⟩ = some (.int .i64 0) := (hb5.cell (p := ⟨w.heap.size + 1, 1, none⟩) (by show w.heap.size + 1 < _; omega)).trans z1'
        have s2 : w5.cell? ⟨w.heap.size + 1, 2, none⟩ = some (.slice none 0 0) := (hb5.cell (p := ⟨w.heap.size + 1, 2, none⟩) (by show w.heap.size + 1 < _; omega)).trans z2'
        have f0 : w5.frozen? ⟨w.heap.size + 1, 0, none⟩ = false := (hb5.frozen (p := ⟨w.heap.size + 1, 0, none⟩) (by show w.heap.size + 1 < _; omega)).trans (HZ.out 0)
        have f1 : w5.frozen? ⟨w.heap.size + 1, 1, none⟩ = false := (hb5.frozen (p := ⟨w.heap.size + 1, 1, none⟩) (by show w.heap.size + 1 < _; omega)).trans (HZ.out 1)
        have f2 : w5.frozen? ⟨w.heap.size + 1, 2, none⟩ = false := (hb5.frozen (p := ⟨w.heap.size + 1, 2, none⟩) (by show w.heap.size + 1 < _; omega)).trans (HZ.out 2))))
  have hN := HN.out
  have hsz5 := hb5.size
  have hg5 : W3.heap.size ≤ g ∧ g < w5.heap.size := hown5.lt g rfl
  rw [Nat.mul_comm H W, hN] at hown5
  refine bodyPost_ret (v := .tuple #[.agg #[.int .i64 W, .int .i64 H, .slice (some ⟨g, 0, none⟩) n n], .int .i64 0]) (by simp [results, Tryz.results56, go_sem, s0, s1, s2, Nat.mul_comm H W, hN]) rfl ⟨g, rfl, ?_, ?_, ?_⟩
  · simp; omega
  · intro j hj
    refine owns_cell (ownsRow_setCell_below (ownsRow_setCell_below (ownsRow_setCell_below hown5 (by dsimp only; omega) _) (by dsimp only; omega) _) (by dsimp only; omega) _) ?_
    rw [List.getElem?_map, placesTo_get W n j hj, Option.map_some]
  · exact (((HB0.out.trans (HB3.out.mono (by omega))).trans (hb5.mono (by omega))).setCell (p := ⟨w.heap.size + 1, 0, none⟩) (by dsimp only; omega) _ |>.setCell (p := ⟨w.heap.size + 1, 1, none⟩) (by dsimp only; omega) _).setCell (p := ⟨w.heap.size + 1, 2, none⟩) (by dsimp only; omega) _
end Go.Proofs.YtfdkmmllemkogaaGreatDoor

/-
  Contracts of rounded, of Scaled's literal, of mapped with it, and of Scaled for a right map whose scaled integers are in range.
-/
namespace Go.Proofs.YtfdkmmllemkogaaGreatDoor
open Go.RowKit
set_option linter.unusedVariables false

/-- The nearest integer of a quotient, from the middle the greater one. -/
def roundK (a b : Int) : Int := (2 * a + b) / (2 * b)

set_option maxHeartbeats 1600000 in
theorem rounded_any (a b : Int) (h0 : -1073741824 ≤ a) (h1 : a ≤ 1073741824) (h2 : 1 ≤ b) (h3 : b ≤ 1073741824) (w : World) :
    Calls Tryz.prog 146 #[.int .i64 a, .int .i64 b] w fun e w' => e = .returned (.int .i64 (roundK a b)) ∧ w = w' := by
  have K : Hid (∀ w1 : World, Calls Tryz.prog 149 #[.int .i64 (2 * a + b), .int .i64 (2 * b)] w1 fun e w' => e = .returned (.int .i64 (roundK a b)) ∧ w1 = w') := Lib.hid fun w1 =>
    lowered_any (2 * a + b) (2 * b) (by omega) (by omega) (by omega) (by omega) w1
  have i1 : IntKind.i64.wrap (2 * a) = 2 * a := IntWalk.i64_in _ ⟨by omega, by omega⟩
  have i2 : IntKind.i64.wrap (2 * a + b) = 2 * a + b := IntWalk.i64_in _ ⟨by omega, by omega⟩
  have i3 : IntKind.i64.wrap (2 * b) = 2 * b := IntWalk.i64_in _ ⟨by omega, by omega⟩
  go_enter Tryz.func146, Tryz.ntmps146
  go_wp2_with (go_at_call 149; refine (K.out _).mono ?_; rintro e w' ⟨rfl, rfl⟩)
  go_ret
  exact ⟨rfl, rfl⟩

set_option maxHeartbeats 1600000 in
theorem scaledlit_any (k num den : Int) (hk : k.natAbs ≤ 16384) (hn : -1000 ≤ num ∧ num ≤ 1000) (hd : 1 ≤ den ∧ den ≤ 1000) (g4 g5 : Nat) (w : World) (h4 : w.cell? ⟨g4, 0, none⟩ = some (.int .i64 num)) (h5 : w.cell? ⟨g5, 0, none⟩ = some (.int .i64 den)) :
    Calls Tryz.prog 145 #[.int .i64 k, .pointer (some ⟨g4, 0, none⟩), .pointer (some ⟨g5, 0, none⟩)] w fun e w' => e = .returned (.int .i64 (roundK (k * num) den)) ∧ w = w' := by
  have hb : (k * num).natAbs ≤ 16384 * 1000 := by rw [Int.natAbs_mul]; exact Nat.mul_le_mul hk (by omega)
  have K : Hid (∀ w1 : World, Calls Tryz.prog 146 #[.int .i64 (k * num), .int .i64 den] w1 fun e w' => e = .returned (.int .i64 (roundK (k * num) den)) ∧ w1 = w') := Lib.hid fun w1 =>
    rounded_any _ _ (by omega) (by omega) (by omega) (by omega) w1
  have i1 : IntKind.i64.wrap (k * num) = k * num := IntWalk.i64_in _ ⟨by omega, by omega⟩
  clear hb
  go_enter Tryz.func145, Tryz.ntmps145
  go_wp2_with (go_at_call 146; refine (K.out _).mono ?_; rintro e w' ⟨rfl, rfl⟩)
  go_ret
  exact ⟨rfl, rfl⟩

set_option maxHeartbeats 2000000 in
set_option maxRecDepth 100000 in
theorem mapped_scaled {w : World} (b o n c : Nat) (ks : List Int) (num den : Int) (hnum : -1000 ≤ num ∧ num ≤ 1000) (hden : 1 ≤ den ∧ den ≤ 1000) (g4 g5 : Nat) (hk : ks.length = n) (hn : n ≤ 4096) (hb : b < w.heap.size) (l4 : g4 < w.heap.size) (l5 : g5 < w.heap.size)
    (h4 : w.cell? ⟨g4, 0, none⟩ = some (.int .i64 num)) (h5 : w.cell? ⟨g5, 0, none⟩ = some (.int .i64 den))
    (hc : ∀ j, j < n → w.cell? ⟨b, o + j, none⟩ = some (.int .i64 (ks[j]?.getD 0))) (hs : ∀ j, j < n → (ks[j]?.getD 0).natAbs ≤ 16384) :
    Calls Tryz.prog 144 #[.slice (some ⟨b, o, none⟩) n c, .func (.func 145) #[] #[.pointer (some ⟨g4, 0, none⟩), .pointer (some ⟨g5, 0, none⟩)]] w fun e w' =>
      e = .returned (.slice (some ⟨w.heap.size, 0, none⟩) n n) ∧ w'.ownsRow w.heap.size 3 1 (.slice (some ⟨w.heap.size, 0, none⟩) n n) n (ks.map (fun k : Int => Value.int .i64 (roundK (k * num) den))) ∧ Below w.heap.size w w' := by
  obtain ⟨i0, hi, hz0, hz1, hz2⟩ := info_parts Tryz.infoInt
  have Hk := Lib.hid hk
  have Hc := Lib.hid hc
  have Hs := Lib.hid hs
  clear hk hc hs
  go_enter Tryz.func144, Tryz.ntmps144
  go_wp2_with (at_make; refine wpList_make_own _ rfl _ _ 25 rfl w.heap.size 3 i0 (.int .i64 0) 1 Tryz.underlying25 hi hz0 hz1 _ _ _ n rfl rfl (by omega) ?b2 ?b3 (Nat.le_refl _) ?_)
  case b2 => rw [hz2]; omega
  case b3 => unfold maxLen; omega
  intro w0 hown0 hgrow0
  go_wp2
  go_loopw [5, 13] (fun out i wr => ∃ k : Nat, k ≤ n ∧ i = .int .i64 k ∧ out = .slice (some ⟨w.heap.size, 0, none⟩) k n ∧
      wr.ownsRow w.heap.size 3 1 (.slice (some ⟨w.heap.size, 0, none⟩) k n) k ((ks.take k).map (fun k : Int => Value.int .i64 (roundK (k * num) den))) ∧ Below w.heap.size w wr)
    (fun _ i _ => n - (intOf i).toNat)
  case atStart => exact ⟨0, Nat.zero_le _, rfl, rfl, hown0, (Below.refl _ _).grown hgrow0 (Nat.le_refl _) (fun k h => by cases h)⟩
  case round =>
    obtain ⟨k, hk, rfl, rfl, hown, hnx⟩ := hrel
    by_cases hlt : k < n
    · have hcell : wr.cell? ⟨b, o + k, none⟩ = some (.int .i64 (ks[k]?.getD 0)) := (hnx.cell (by exact hb)).trans (Hc.out k hlt)
      have K := Lib.hid (scaledlit_any (ks[k]?.getD 0) num den (Hs.out k hlt) hnum hden g4 g5 wr ((hnx.cell (by exact l4)).trans h4) ((hnx.cell (by exact l5)).trans h5))
      have hsz := hnx.size
      go_wp2_with (first
        | (go_at_call 145; refine K.out.mono ?_; rintro e w' ⟨rfl, rfl⟩)
        | (at_builtin; refine wpList_append_fits _ rfl (.tmp 17) (.tmp 21) 25 rfl w.heap.size 3 i0 1 Tryz.underlying25 hi hz1 w.heap.size k n _ rfl (hown.alloc _) ⟨wr.heap.size, 0, none⟩ 1 1 [.int .i64 (roundK ((ks[k]?.getD 0) * num) den)] rfl rfl (cell_one_new _ _ _) (by intro u hu; simp at hu; subst hu; rfl) (by omega) ?_; intro w1 hown1 hgrow1))
      go_roundw
      case rel => exact ⟨k + 1, by omega, by go_num, rfl, by rw [take_map_succ (fun k : Int => Value.int .i64 (roundK (k * num) den)) ks k (by have := Hk.out; omega) 0]; exact hown1, (hnx.alloc hnx.size _).grown hgrow1 (by simp; omega) (fun j hj => by cases hj; exact Nat.le_refl _)⟩
      case measure => simp [intOf]; omega
    · go_wp2
      go_ret
      obtain rfl : k = n := by omega
      rw [List.take_of_length_le (by have := Hk.out; omega)] at hown
      exact ⟨rfl, hown, hnx⟩
end Go.Proofs.YtfdkmmllemkogaaGreatDoor

/-
  Contract of Scaled for a right map whose scaled integers are in range.
-/
namespace Go.Proofs.YtfdkmmllemkogaaGreatDoor
open Go.RowKit
set_option linter.unusedVariables false

set_option maxRecDepth 100000 in
set_option maxHeartbeats 6400000 in
theorem scaled_any (W H : Nat) (num den : Int) (hnum : -1000 ≤ num ∧ num ≤ 1000) (hden : 1 ≤ den ∧ den ≤ 1000) (b o c n : Nat) (xs : List Nat) (ks : List Int) (w : World) (hA : RightMap w W H b o n xs ks) (hb : b < w.heap.size)
    (hs : ∀ j, j < n → (roundK (ks[j]?.getD 0 * num) den).natAbs ≤ 16384) :
    Calls Tryz.prog 62 #[.agg #[.int .i64 W, .int .i64 H, .slice (some ⟨b, o, none⟩) n c], .int .i64 num, .int .i64 den] w fun e w' =>
      ∃ g, e = .returned (.tuple #[.agg #[.int .i64 W, .int .i64 H, .slice (some ⟨g, 0, none⟩) n n], .int .i64 0]) ∧ g < w'.heap.size ∧
        (∀ j, j < n → w'.cell? ⟨g, j, none⟩ = some (.float .f32 (smpOf (roundK (ks[j]?.getD 0 * num) den)))) ∧ Below w.heap.size w w' := by
  obtain ⟨W0, hW0⟩ : ∃ W0, (((w.alloc (.cells #[.int .i64 W, .int .i64 H, .slice (some ⟨b, o, none⟩) n c] 54)).alloc (.cells #[.int .i64 num] 3)).alloc (.cells #[.int .i64 den] 3)).alloc (.cells #[.int .i64 0, .int .i64 0, .slice none 0 0] 54) = W0 := ⟨_, rfl⟩
  have hB0 : Below w.heap.size w W0 := by rw [← hW0]; exact ((((Below.refl _ w).alloc (Nat.le_refl _) _).alloc (by simp) _).alloc (by simp; omega) _).alloc (by simp; omega) _
  have hS0 : W0.heap.size = w.heap.size + 4 := by rw [← hW0]; simp
  have a0 : W0.cell? ⟨w.heap.size, 0, none⟩ = some (.int .i64 W) := by rw [← hW0]; simp [go_sem]
  have a1 : W0.cell? ⟨w.heap.size, 1, none⟩ = some (.int .i64 H) := by rw [← hW0]; simp [go_sem]
  have a2 : W0.cell? ⟨w.heap.size, 2, none⟩ = some (.slice (some ⟨b, o, none⟩) n c) := by rw [← hW0]; simp [go_sem]
  have c0 : W0.cell? ⟨w.heap.size + 1, 0, none⟩ = some (.int .i64 num) := by rw [← hW0]; simp [go_sem]
  have r0 : W0.cell? ⟨w.heap.size + 1 + 1, 0, none⟩ = some (.int .i64 den) := by rw [← hW0]; simp [go_sem]
  have zM : W0.heap[w.heap.size + 1 + 1 + 1]? = some (.cells #[.int .i64 0, .int .i64 0, .slice none 0 0] 54 (0, 0)) := by rw [← hW0]; exact blk_alloc_at _ _ (by simp)
  have HS3 : w.heap.size + 4 ≤ W0.heap.size := by omega
  have KA : Hid (∀ w1 : World, Blw (w.heap.size + 4) W0 w1 → Calls Tryz.prog 47 #[.agg #[.int .i64 W, .int .i64 H, .slice (some ⟨b, o, none⟩) n c]] w1 fun e w' => e = .returned (.int .i64 0) ∧ Below (w.heap.size + 4) W0 w') := Lib.hid fun w1 (h : Below (w.heap.size + 4) W0 w1) => by
    have h1 := h.size
    have h2 := hB0.trans (h.mono (by omega))
    exact (checkMap_any W H b o n c xs ks w1 (hA.below h2 hb) (by omega)).mono fun e w' ⟨he, hw⟩ => ⟨he, h.trans (hw.mono (by omega))⟩
  have K2 : Hid (∀ w1 : World, Below W0.heap.size W0 w1 → Calls Tryz.prog 123 #[.agg #[.int .i64 W, .int .i64 H, .slice (some ⟨b, o, none⟩) n c]] w1 fun e w' =>
      ∃ g, e = .returned (.agg #[.int .i64 W, .int .i64 H, .slice (some ⟨g, 0, none⟩) n n]) ∧ w1.heap.size ≤ g ∧ RowAt w' g n ks ∧ Below w1.heap.size w1 w') := Lib.hid (fun w1 h => by
    have h1 := h.size
    have h2 := hB0.trans (h.mono (by omega))
    exact grid_row W H b o n c xs ks w1 (hA.below h2 hb).toWords (by omega))
  have e1 : rangeErr num (-1000) 1000 = 0 := rangeErr_in hnum.1 hnum.2
  have e2 : rangeErr den 1 1000 = 0 := rangeErr_in hden.1 hden.2
  have KN : Hid (∀ w1 : World, Calls Tryz.prog 110 #[.int .i64 num, .int .i64 (-1000), .int .i64 1000] w1 fun e w' => e = .returned (.int .i64 0) ∧ w1 = w') := Lib.hid fun w1 => by have h := checkRange_any num (-1000) 1000 w1; rw [e1] at h; exact h
  have KD : Hid (∀ w1 : World, Calls Tryz.prog 110 #[.int .i64 den, .int .i64 1, .int .i64 1000] w1 fun e w' => e = .returned (.int .i64 0) ∧ w1 = w') := Lib.hid fun w1 => by have h := checkRange_any den 1 1000 w1; rw [e2] at h; exact h
  have HB0 := Lib.hid hB0
  have HS0 := Lib.hid hS0
  have HRA := Lib.hid hA
  have HSC := Lib.hid hs
  clear hA hB0 hs e1 e2
  go_enter Tryz.func62, Tryz.ntmps62
  go_upto_region 1 with fail
  try rw [hW0]
  clear hW0
  have hb3 : Below (w.heap.size + 4) W0 W0 := Below.refl _ _
  go_region_held3 (fun w' => w'.cell? ⟨w.heap.size, 0, none⟩ = some (.int .i64 W) ∧ w'.cell? ⟨w.heap.size, 1, none⟩ = some (.int .i64 H) ∧ w'.cell? ⟨w.heap.size, 2, none⟩ = some (.slice (some ⟨b, o, none⟩) n c) ∧ w'.cell? ⟨w.heap.size + 1, 0, none⟩ = some (.int .i64 num) ∧
      w'.cell? ⟨w.heap.size + 1 + 1, 0, none⟩ = some (.int .i64 den) ∧ Blw (w.heap.size + 4) W0 w')
    ((go_split_ands; refine ⟨?_, ?_, ?_, ?_, ?_, ?_⟩ <;> first
      | (with_reducible refine Eq.trans (Below.cell (B := w.heap.size + 4) (w := W0) ?_ (by first | (simp; done) | (simp; omega))) (by with_reducible assumption); (repeat (first | (with_reducible exact hb3) | (with_reducible refine below_alloc ?_ HS3 _) | (with_reducible refine Below.drew ?_))); done)
      | (show Below _ _ _; (repeat (first | (with_reducible exact hb3) | (with_reducible refine below_alloc ?_ HS3 _) | (with_reducible refine Below.drew ?_))); done)))
    (first
      | (go_at_call 47; refine (KA.out _ ?_).mono ?_; rotate_left 1; rintro e w' ⟨rfl, hb3⟩; rotate_left 1; (simp [*]))
      | (go_at_call_of 110 (Value.int .i64 num); refine (KN.out _).mono ?_; rintro e w9 ⟨rfl, rfl⟩)
      | (go_at_call_of 110 (Value.int .i64 den); refine (KD.out _).mono ?_; rintro e w9 ⟨rfl, rfl⟩)
      | ((go_at_call 109; refine (first_zeros _ 0 3 3 (by omega) _ ?_).mono ?_; rotate_left 1; rintro e w9 ⟨rfl, rfl⟩; rotate_left 1; (intro j hj; match j, hj with | 0, _ => simp [go_sem] | 1, _ => simp [go_sem] | 2, _ => simp [go_sem]))))
  have hb2 : Below (w.heap.size + 4) W0 (w'.alloc (.cells #[.int .i64 0, .int .i64 0, .int .i64 0] 26)) := hb3.alloc (by have := hb3.size; omega) _
  obtain ⟨W1, hW1⟩ : ∃ W1, w'.alloc (.cells #[.int .i64 0, .int .i64 0, .int .i64 0] 26) = W1 := ⟨_, rfl⟩
  rw [hW1] at hb2 ⊢
  clear hW1 hb3
  have hb2' : Below W0.heap.size W0 W1 := by rw [HS0.out]; exact hb2
  have a0' := (hb2.cell (p := ⟨w.heap.size, 0, none⟩) (by show w.heap.size < _; omega)).trans a0
  have a1' := (hb2.cell (p := ⟨w.heap.size, 1, none⟩) (by show w.heap.size < _; omega)).trans a1
  have a2' := (hb2.cell (p := ⟨w.heap.size, 2, none⟩) (by show w.heap.size < _; omega)).trans a2
  have HBW := Lib.hid hb2'
  clear hb2 hb2'
  go_upto_region 5 with (
    ((go_at_call 123; refine (K2.out _ (by first | exact HBW.out | exact HBW.out.drew)).mono ?_; rintro e w2 ⟨ga, rfl, hga, hRA, hb2⟩)))
  have hs2 := hb2.size
  have hsW := HBW.out.size
  have hszA : W1.heap.size ≤ w2.heap.size := hs2
  obtain ⟨W3, hW3⟩ : ∃ W3, w2.alloc (.cells #[.int .i64 W, .int .i64 H, .slice (some ⟨ga, 0, none⟩) n n] 188) = W3 := ⟨_, rfl⟩
  have hBG : Below w2.heap.size w2 W3 := by rw [← hW3]; exact (Below.refl _ w2).alloc (Nat.le_refl _) _
  have hRA3 := hRA.below hBG hRA.lt
  have hS3 : w2.heap.size + 1 ≤ W3.heap.size := by rw [← hW3]; simp
  have hB12 : Below W0.heap.size W0 w2 := HBW.out.trans ((show Below W1.heap.size W1 w2 from by first | exact hb2 | exact ((Below.refl W1.heap.size W1).drew).trans hb2).mono hsW)
  have hB3 : Below W0.heap.size W0 W3 := hB12.trans (hBG.mono (by omega))
  have bG : W3.heap[w2.heap.size]? = some (.cells #[.int .i64 W, .int .i64 H, .slice (some ⟨ga, 0, none⟩) n n] 188 (0, 0)) := by rw [← hW3]; exact blk_alloc_new _ _
  try rw [hW3]
  clear hW3
  obtain ⟨g0, g1, g2⟩ := GridAt.of_blk bG
  have bM := (hB3.block (w.heap.size + 1 + 1 + 1) (by omega)).trans zM
  have KM := Lib.hid (mapped_scaled (w := W3) ga 0 n n ks num den hnum hden (w.heap.size + 1) (w.heap.size + 1 + 1) HRA.out.lenk HRA.out.small hRA3.lt (by omega) (by omega)
    ((hB3.cell (p := ⟨w.heap.size + 1, 0, none⟩) (by show w.heap.size + 1 < _; omega)).trans c0) ((hB3.cell (p := ⟨w.heap.size + 1 + 1, 0, none⟩) (by show w.heap.size + 1 + 1 < _; omega)).trans r0)
    (fun j hj => by rw [Nat.zero_add]; exact hRA3.cells j hj) HRA.out.sizes)
  have HB3 := Lib.hid hB3
  have HBG := Lib.hid bG
  have HBM := Lib.hid bM
  clear hRA hRA3 hBG hB12 hB3 bG bM a0 a1 a2 a0' a1' a2' c0 r0 hb2
  go_upto_region 6 with (
    ((go_at_call 144; refine KM.out.mono ?_; rintro e w4 ⟨rfl, hown4, hb4⟩
      have b4 := (hb4.block _ (lt_of_blk HBG.out)).trans HBG.out
      have f2 : w4.frozen? ⟨w2.heap.size, 2, none⟩ = false := by simp [World.frozen?, b4]
      have h20 : w4.cell? ⟨w2.heap.size, 2, none⟩ = some (.slice (some ⟨ga, 0, none⟩) n n) := by rw [cell_of_row w4 _ 2 _ _ (0, 0) b4]; rfl)))
  obtain ⟨W5, hW5⟩ : ∃ W5, w4.setCell ⟨w2.heap.size, 2, none⟩ (.slice (some ⟨W3.heap.size, 0, none⟩) n n) = W5 := ⟨_, rfl⟩
  have b5 : W5.heap[w2.heap.size]? = some (.cells #[.int .i64 W, .int .i64 H, .slice (some ⟨W3.heap.size, 0, none⟩) n n] 188 (0, 0)) := by
    rw [← hW5]
    simp only [World.setCell, Array.getElem?_modify, if_true, b4, Option.map_some]
    simp
  have hO5 : W5.ownsRow W3.heap.size 3 1 (.slice (some ⟨W3.heap.size, 0, none⟩) n n) n (ks.map (fun k : Int => Value.int .i64 (roundK (k * num) den))) := by
    rw [← hW5]; exact ownsRow_setCell_below hown4 (by dsimp only; omega) _
  have hs4 := hb4.size
  have bM4 := (hb4.block _ (lt_of_blk HBM.out)).trans HBM.out
  have bM5 : W5.heap[w.heap.size + 1 + 1 + 1]? = some (.cells #[.int .i64 0, .int .i64 0, .slice none 0 0] 54 (0, 0)) := by
    rw [← hW5]; exact blk_set_other bM4 (by dsimp only; omega) _
  have hB5 : Below (w.heap.size + 4) W0 W5 := by
    rw [← hW5]; exact (((HB3.out.mono HS3).trans (hb4.mono (by omega))).setCell (p := ⟨w2.heap.size, 2, none⟩) (by show w.heap.size + 4 ≤ w2.heap.size; omega) _)
  try rw [hW5]
  clear hW5 b4 f2 h20 hown4 bM4 g0 g1 g2
  obtain ⟨g0, g1, g2⟩ := GridAt.of_blk b5
  have hO5l := hO5.lt _ rfl
  have KT := Lib.hid (toMap_any W H W3.heap.size 0 n n (ks.map (fun k => roundK (k * num) den)) (by rw [List.length_map]; exact HRA.out.lenk) HRA.out.small W5 hO5l.2 (fun j hj => by
      rw [Nat.zero_add]
      refine owns_cell hO5 ?_
      rw [List.getElem?_map, List.getElem?_map, List.getElem?_eq_getElem (by rw [HRA.out.lenk]; exact hj)]; rfl)
    (fun j hj => by
      have h := HSC.out j hj
      rw [List.getElem?_map, List.getElem?_eq_getElem (by rw [HRA.out.lenk]; exact hj)]
      rw [List.getElem?_eq_getElem (by rw [HRA.out.lenk]; exact hj)] at h
      exact h))
  have m0 : W5.cell? ⟨w.heap.size + 1 + 1 + 1, 0, none⟩ = some (.int .i64 0) := by rw [cell_of_row W5 _ 0 _ _ (0, 0) bM5]; rfl
  have m1 : W5.cell? ⟨w.heap.size + 1 + 1 + 1, 1, none⟩ = some (.int .i64 0) := by rw [cell_of_row W5 _ 1 _ _ (0, 0) bM5]; rfl
  have m2 : W5.cell? ⟨w.heap.size + 1 + 1 + 1, 2, none⟩ = some (.slice none 0 0) := by rw [cell_of_row W5 _ 2 _ _ (0, 0) bM5]; rfl
  have fm : ∀ j, W5.frozen? ⟨w.heap.size + 1 + 1 + 1, j, none⟩ = false := fun j => by simp [World.frozen?, bM5]
  have lM := lt_of_blk bM5
  have HFM := Lib.hid fm
  have HB5 := Lib.hid hB5
  clear fm bM5 b5 hO5 hB5 hb4
  go_wp2_with (
    ((go_at_call 147; refine KT.out.mono ?_; rintro e w9 ⟨rfl, hown9, hb9⟩
      have s0 : w9.cell? ⟨w.heap.size + 1 + 1 + 1, 0, none⟩ = some (.int .i64 0) := (hb9.cell lM).trans m0
      have s1 : w9.cell? ⟨w.heap.size + 1 + 1 + 1, 1, none⟩ = some (.int .i64 0) := (hb9.cell lM).trans m1
      have s2 : w9.cell? ⟨w.heap.size + 1 + 1 + 1, 2, none⟩ = some (.slice none 0 0) := (hb9.cell lM).trans m2
      have f0 : w9.frozen? ⟨w.heap.size + 1 + 1 + 1, 0, none⟩ = false := (hb9.frozen lM).trans (HFM.out 0)
      have f1 : w9.frozen? ⟨w.heap.size + 1 + 1 + 1, 1, none⟩ = false := (hb9.frozen lM).trans (HFM.out 1)
      have f2 : w9.frozen? ⟨w.heap.size + 1 + 1 + 1, 2, none⟩ = false := (hb9.frozen lM).trans (HFM.out 2))))
  have hs9 := hb9.size
  have hs5 := HB5.out.size
  have hg9 : W5.heap.size + 2 ≤ W5.heap.size + 2 ∧ W5.heap.size + 2 < w9.heap.size := hown9.lt _ rfl
  refine bodyPost_ret (v := .tuple #[.agg #[.int .i64 W, .int .i64 H, .slice (some ⟨W5.heap.size + 2, 0, none⟩) n n], .int .i64 0]) (by simp [results, Tryz.results62, go_sem, s0, s1, s2]) rfl ⟨_, rfl, ?_, ?_, ?_⟩
  · simp; omega
  · intro j hj
    refine owns_cell (ownsRow_setCell_below (ownsRow_setCell_below (ownsRow_setCell_below hown9 (by dsimp only; omega) _) (by dsimp only; omega) _) (by dsimp only; omega) _) ?_
    rw [List.getElem?_map, List.getElem?_map, List.getElem?_eq_getElem (by rw [HRA.out.lenk]; exact hj)]; rfl
  · exact (((HB0.out.trans (HB5.out.mono (by omega))).trans (hb9.mono (by omega))).setCell (p := ⟨w.heap.size + 1 + 1 + 1, 0, none⟩) (by dsimp only; omega) _ |>.setCell (p := ⟨w.heap.size + 1 + 1 + 1, 1, none⟩) (by dsimp only; omega) _).setCell (p := ⟨w.heap.size + 1 + 1 + 1, 2, none⟩) (by dsimp only; omega) _
end Go.Proofs.YtfdkmmllemkogaaGreatDoor

/-
  Contracts of streamSize and of appendNumber: four bytes of a number behind a row of bytes that the caller owns.
-/
namespace Go.Proofs.YtfdkmmllemkogaaGreatDoor
open Go.RowKit
set_option linter.unusedVariables false

/-- The four bytes of a number, the greatest one first. -/
def wordOf (x : Int) : List Int := [byt x 3, byt x 2, byt x 1, byt x 0]
theorem blk_set4 {w : World} {B : Nat} {T : TypeId} {x y z u : Value} (h : w.heap[B]? = some (.cells #[x, y, z, u] T (0, 0))) (a b c d : Value) :
    ((((w.setCell ⟨B, 3, none⟩ d).setCell ⟨B, 2, none⟩ c).setCell ⟨B, 1, none⟩ b).setCell ⟨B, 0, none⟩ a).heap[B]? = some (.cells #[a, b, c, d] T (0, 0)) := by
  simp only [World.setCell, Array.getElem?_modify, if_true, h, Option.map_some]
  simp
theorem Tryz.infoByte : (Tryz.prog.info? 5).map (fun i => (i.zero, i.size, i.bytes)) = some (some (.int .u8 0), 1, 1) := by kernel_rfl

set_option maxHeartbeats 800000 in
theorem streamSize_any (W H : Nat) (hW : W ≤ 64) (hH : H ≤ 64) (w : World) :
    Calls Tryz.prog 174 #[.int .i64 W, .int .i64 H] w fun e w' => e = .returned (.int .i64 ((10 + 4 * (W * H) : Nat) : Int)) ∧ w = w' := by
  have hm : W * H ≤ 64 * 64 := Nat.mul_le_mul hW hH
  have e1 : 4 * (W : Int) * (H : Int) = ((4 * (W * H) : Nat) : Int) := by push_cast; rw [Int.mul_assoc]
  have i1 : IntKind.i64.wrap (4 * (W : Int)) = 4 * (W : Int) := IntWalk.i64_in _ ⟨by omega, by omega⟩
  obtain ⟨q, hq⟩ : ∃ q : Nat, 4 * (W * H) = q := ⟨_, rfl⟩
  rw [hq] at e1
  have hq4 : q ≤ 16384 := by omega
  have e2 : ((10 + 4 * (W * H) : Nat) : Int) = 6 + (q : Int) + 4 := by omega
  rw [e2]
  have i2 : IntKind.i64.wrap (q : Int) = (q : Int) := IntWalk.i64_in _ ⟨by omega, by omega⟩
  have i3 : IntKind.i64.wrap (6 + (q : Int)) = 6 + (q : Int) := IntWalk.i64_in _ ⟨by omega, by omega⟩
  have i4 : IntKind.i64.wrap (6 + (q : Int) + 4) = 6 + (q : Int) + 4 := IntWalk.i64_in _ ⟨by omega, by omega⟩
  clear hq e2 hm
  go_enter Tryz.func174, Tryz.ntmps174
  go_wp2
  go_ret
  exact ⟨rfl, rfl⟩

set_option maxRecDepth 100000 in
set_option maxHeartbeats 3200000 in
theorem appendNumber_any (B : Nat) (v : Value) (n : Nat) (xs : List Value) (x : Int) (h0 : 0 ≤ x) (h1 : x ≤ 4294967295) (hn : n ≤ 100000) (w : World) (h : w.ownsRow B 5 1 v n xs) (hB : B ≤ w.heap.size) :
    Calls Tryz.prog 175 #[v, .int .i64 x] w fun e w' => ∃ v', e = .returned v' ∧ w'.ownsRow B 5 1 v' (n + 4) (xs ++ (wordOf x).map (Value.int .u8)) ∧ Below B w w' ∧ (∀ k, k < w.heap.size → v.ownBlock ≠ some k → w'.heap[k]? = w.heap[k]?) := by
  obtain ⟨i0, hi, hz0, hz1, hz2⟩ := info_parts Tryz.infoByte
  obtain ⟨ao, c, rfl⟩ := owns_slice h
  obtain ⟨W1, hW1⟩ : ∃ W1, w.alloc (.cells #[.int .u8 0, .int .u8 0, .int .u8 0, .int .u8 0] 161) = W1 := ⟨_, rfl⟩
  have hB1 : Below w.heap.size w W1 := by rw [← hW1]; exact (Below.refl _ w).alloc (Nat.le_refl _) _
  have b1 : W1.heap[w.heap.size]? = some (.cells #[.int .u8 0, .int .u8 0, .int .u8 0, .int .u8 0] 161 (0, 0)) := by rw [← hW1]; exact blk_alloc_new _ _
  have f1 : ∀ j, W1.frozen? ⟨w.heap.size, j, none⟩ = false := fun j => by simp [World.frozen?, b1]
  have K := Lib.hid (write4_any W1 w.heap.size 0 4 x h0 h1 (by rw [cell_of_row W1 _ 0 _ _ (0, 0) b1]; rfl) (by rw [cell_of_row W1 _ 1 _ _ (0, 0) b1]; rfl) (by rw [cell_of_row W1 _ 2 _ _ (0, 0) b1]; rfl) (by rw [cell_of_row W1 _ 3 _ _ (0, 0) b1]; rfl) (f1 0) (f1 1) (f1 2) (f1 3))
  have hO1 : W1.ownsRow B 5 1 (.slice ao n c) n xs := by rw [← hW1]; exact h.alloc _
  have hlt := h.lt
  have hO2 : ((((W1.setCell ⟨w.heap.size, 3, none⟩ (.int .u8 (byt x 0))).setCell ⟨w.heap.size, 2, none⟩ (.int .u8 (byt x 1))).setCell ⟨w.heap.size, 1, none⟩ (.int .u8 (byt x 2))).setCell ⟨w.heap.size, 0, none⟩ (.int .u8 (byt x 3))).ownsRow B 5 1 (.slice ao n c) n xs := by
    have nb : (Value.slice ao n c).ownBlock = none ∨ (Value.slice ao n c).ownBlock ≠ some w.heap.size := by
      cases e : (Value.slice ao n c).ownBlock with
      | none => exact .inl rfl
      | some k => exact .inr fun e' => by have := (hlt k e).2; have := Option.some.inj e'; omega
    exact (((hO1.kept (OnlyBlk.set _ _ _ _).1 nb).kept (OnlyBlk.set _ _ _ _).1 nb).kept (OnlyBlk.set _ _ _ _).1 nb).kept (OnlyBlk.set _ _ _ _).1 nb
  have b2 := blk_set4 b1 (.int .u8 (byt x 3)) (.int .u8 (byt x 2)) (.int .u8 (byt x 1)) (.int .u8 (byt x 0))
  have hB2 : Below w.heap.size w ((((W1.setCell ⟨w.heap.size, 3, none⟩ (.int .u8 (byt x 0))).setCell ⟨w.heap.size, 2, none⟩ (.int .u8 (byt x 1))).setCell ⟨w.heap.size, 1, none⟩ (.int .u8 (byt x 2))).setCell ⟨w.heap.size, 0, none⟩ (.int .u8 (byt x 3))) :=
    ((((hB1.setCell (p := ⟨w.heap.size, 3, none⟩) (Nat.le_refl _) _).setCell (p := ⟨w.heap.size, 2, none⟩) (Nat.le_refl _) _).setCell (p := ⟨w.heap.size, 1, none⟩) (Nat.le_refl _) _).setCell (p := ⟨w.heap.size, 0, none⟩) (Nat.le_refl _) _)
  obtain ⟨W2, hW2⟩ : ∃ W2, ((((W1.setCell ⟨w.heap.size, 3, none⟩ (.int .u8 (byt x 0))).setCell ⟨w.heap.size, 2, none⟩ (.int .u8 (byt x 1))).setCell ⟨w.heap.size, 1, none⟩ (.int .u8 (byt x 2))).setCell ⟨w.heap.size, 0, none⟩ (.int .u8 (byt x 3))) = W2 := ⟨_, rfl⟩
  rw [hW2] at hO2 b2 hB2
  have K' : Hid (Calls Tryz.prog 207 #[.slice (some ⟨w.heap.size, 0, none⟩) 4 4, .int .i64 x] W1 fun e w' => e = .returned (.tuple #[]) ∧ w' = W2) := Lib.hid (by
    have k := K.out
    simp only [Nat.zero_add] at k
    rw [hW2] at k
    exact k)
  have HC : Hid (∀ j u, ((wordOf x).map (Value.int .u8))[j]? = some u → W2.cell? ((⟨w.heap.size, 0, none⟩ : Addr).add j) = some u) := Lib.hid fun j u hu => by
    rw [Addr.add_mid, Nat.zero_add, cell_of_row W2 _ j _ _ (0, 0) b2]
    simpa [wordOf] using hu
  have HO2 := Lib.hid hO2
  have HB2 := Lib.hid hB2
  clear K hW2 f1 b1 b2 hO1 hO2 hB1 hB2 h
  go_enter Tryz.func175, Tryz.ntmps175
  go_upto_region 2 with fail
  try rw [hW1]
  clear hW1
  go_wp2_with (first
    | (go_at_call 207; refine K'.out.mono ?_; rintro e w' ⟨rfl, rfl⟩)
    | (at_builtin; refine wpList_append_own _ rfl (.tmp 9) (.tmp 10) 109 rfl B 5 i0 (.int .u8 0) 1 1 Tryz.underlying109 hi hz0 hz1 hz2 rfl (by decide) _ _ _ rfl HO2.out ⟨w.heap.size, 0, none⟩ 4 4 ((wordOf x).map (Value.int .u8)) rfl rfl HC.out (by intro u hu; obtain ⟨y, _, rfl⟩ := List.mem_map.1 hu; rfl) (by unfold maxLen; omega) (by omega) (by have := HB2.out.size; omega) ?_; intro v' w3 hown3 hgrow3 _))
  go_ret
  exact ⟨_, rfl, hown3, (HB2.out.mono hB).grown hgrow3 (by have := HB2.out.size; omega) (fun k hk => (HO2.out.lt k hk).1), fun k hk hne => (hgrow3.block k (by have := HB2.out.size; omega) (fun e => hne e.symm)).trans (HB2.out.block k hk)⟩
end Go.Proofs.YtfdkmmllemkogaaGreatDoor

/-
  Contract of Pack for a right map: the bytes of its stream.
-/
namespace Go.Proofs.YtfdkmmllemkogaaGreatDoor
open Go.RowKit
set_option linter.unusedVariables false

def packHead (W H : Nat) : List Int := [76, 77, 65, 80, W, H]
def packBody (ks : List Int) : List Int := ks.flatMap (fun k => wordOf (smpOf k))
def packS (W H : Nat) (ks : List Int) : List Int := packHead W H ++ packBody ks
def packL (W H : Nat) (ks : List Int) : List Int := packS W H ks ++ wordOf (chkOf (packS W H ks))
theorem packBody_len (ks : List Int) : (packBody ks).length = 4 * ks.length := by
  induction ks with
  | nil => rfl
  | cons k ks ih => simp [packBody, wordOf] at ih ⊢; omega
theorem packBody_succ (ks : List Int) (k : Nat) (hk : k < ks.length) : packBody (ks.take (k + 1)) = packBody (ks.take k) ++ wordOf (smpOf (ks[k]?.getD 0)) := by
  rw [List.take_succ_eq_append_getElem hk, packBody, List.flatMap_append, List.getElem?_eq_getElem hk]; simp [packBody]
theorem byte_bd {W H : Nat} {ks : List Int} (hW : W ≤ 64) (hH : H ≤ 64) : ∀ x ∈ packS W H ks, 0 ≤ x ∧ x ≤ 255 := by
  intro x hx
  rcases List.mem_append.1 hx with h | h
  · simp [packHead] at h; omega
  · obtain ⟨k, _, h⟩ := List.mem_flatMap.1 h
    simp [wordOf] at h
    rcases h with rfl | rfl | rfl | rfl <;> exact byt_bd _ _

theorem run_bits32 (d : Nat) : ∀ w : World, (callFunc 176 #[.float .f32 d]).run Tryz.prog w = .ok (.value (.int .u32 d)) w := fun w => by kernel_rfl
theorem smpOf_word (n : Int) (hn : n.natAbs < 2 ^ 24) : smpOf n < 2 ^ 32 := by
  have := floatBits_wf (smpOf_run n hn)
  simpa [Lit.wf] using this
theorem not_own {w : World} {B n ga : Nat} {v : Value} {x y : Int} {xs : List Value} (h : w.ownsRow B 5 1 v n (.int .u8 x :: xs)) (hr : w.cell? ⟨ga, 0, none⟩ = some (.int .i64 y)) : v.ownBlock ≠ some ga := by
  intro e
  have k := h.cells (g := ga) e 0 (.int .u8 x) rfl
  rw [Addr.add_mid] at k
  rw [hr] at k
  cases k
theorem row_same {w w' : World} {ga n : Nat} {ks : List Int} (h : RowAt w ga n ks) (hb : w'.heap[ga]? = w.heap[ga]?) : RowAt w' ga n ks :=
  ⟨(by
    have h1 := h.lt
    rcases Nat.lt_or_ge ga w'.heap.size with h2 | h2
    · exact h2
    · rw [Array.getElem?_eq_none h2] at hb
      rw [Array.getElem?_eq_getElem h1] at hb
      exact absurd hb (by simp)), fun j hj => (World.cell?_of_block (w := w) (w' := w') (a := ⟨ga, j, none⟩) hb).trans (h.cells j hj)⟩

set_option maxRecDepth 100000 in
set_option maxHeartbeats 6400000 in
theorem pack_any (W H : Nat) (b o c n : Nat) (xs : List Nat) (ks : List Int) (w : World) (hA : RightMap w W H b o n xs ks) (hb : b < w.heap.size) :
    Calls Tryz.prog 88 #[.agg #[.int .i64 W, .int .i64 H, .slice (some ⟨b, o, none⟩) n c]] w fun e w' =>
      ∃ v, e = .returned (.tuple #[v, .int .i64 0]) ∧ w'.ownsRow w.heap.size 5 1 v (10 + 4 * n) ((packL W H ks).map (Value.int .u8)) ∧ Below w.heap.size w w' := by
  obtain ⟨i0, hi, hz0, hz1, hz2⟩ := info_parts Tryz.infoByte
  obtain ⟨W0, hW0⟩ : ∃ W0, w.alloc (.cells #[.int .i64 W, .int .i64 H, .slice (some ⟨b, o, none⟩) n c] 54) = W0 := ⟨_, rfl⟩
  have hB0 : Below w.heap.size w W0 := by rw [← hW0]; exact (Below.refl _ w).alloc (Nat.le_refl _) _
  have hS0 : W0.heap.size = w.heap.size + 1 := by rw [← hW0]; simp
  have a0 : W0.cell? ⟨w.heap.size, 0, none⟩ = some (.int .i64 W) := by rw [← hW0]; simp [go_sem]
  have a1 : W0.cell? ⟨w.heap.size, 1, none⟩ = some (.int .i64 H) := by rw [← hW0]; simp [go_sem]
  have a2 : W0.cell? ⟨w.heap.size, 2, none⟩ = some (.slice (some ⟨b, o, none⟩) n c) := by rw [← hW0]; simp [go_sem]
  have K1 := Lib.hid (checkMap_any W H b o n c xs ks W0 (hA.below hB0 hb) (by omega))
  have K2 : Hid (∀ w1 : World, Below W0.heap.size W0 w1 → Calls Tryz.prog 123 #[.agg #[.int .i64 W, .int .i64 H, .slice (some ⟨b, o, none⟩) n c]] w1 fun e w' =>
      ∃ g, e = .returned (.agg #[.int .i64 W, .int .i64 H, .slice (some ⟨g, 0, none⟩) n n]) ∧ w1.heap.size ≤ g ∧ RowAt w' g n ks ∧ Below w1.heap.size w1 w') := Lib.hid (fun w1 h => by
    have h1 := h.size
    have h2 := hB0.trans (h.mono (by omega))
    exact grid_row W H b o n c xs ks w1 (hA.below h2 hb).toWords (by omega))
  have hWi := hA.wid
  have hHe := hA.hei
  have hW64 : W ≤ 64 := by omega
  have hH64 : H ≤ 64 := by omega
  have hN : W * H = n := by have := hA.area; exact_mod_cast this
  have hsm := hA.small
  have KSZ : Hid (∀ w1 : World, Calls Tryz.prog 174 #[.int .i64 W, .int .i64 H] w1 fun e w' => e = .returned (.int .i64 ((10 + 4 * n : Nat) : Int)) ∧ w1 = w') := Lib.hid fun w1 => by have h := streamSize_any W H hW64 hH64 w1; rw [hN] at h; exact h
  have HB0 := Lib.hid hB0
  have HS0 := Lib.hid hS0
  have HRA := Lib.hid hA
  have HN := Lib.hid hN
  clear hA hB0 hN
  go_enter Tryz.func88, Tryz.ntmps88
  go_upto_region 1 with fail
  try rw [hW0]
  clear hW0
  go_upto_region 4 with (
    ((go_at_call 47; refine K1.out.mono ?_; rintro e w1 ⟨rfl, hb1⟩)))
  have hs1 := hb1.size
  have a0' := (hb1.cell (p := ⟨w.heap.size, 0, none⟩) (by show w.heap.size < _; omega)).trans a0
  have a1' := (hb1.cell (p := ⟨w.heap.size, 1, none⟩) (by show w.heap.size < _; omega)).trans a1
  have a2' := (hb1.cell (p := ⟨w.heap.size, 2, none⟩) (by show w.heap.size < _; omega)).trans a2
  have HB1 := Lib.hid hb1
  clear a0 a1 a2 hb1
  go_upto_region 5 with (first
    | (go_at_call 174; refine (KSZ.out _).mono ?_; rintro e w9 ⟨rfl, rfl⟩)
    | (at_make; refine wpList_make_own _ rfl _ _ 109 rfl w1.heap.size 5 i0 (.int .u8 0) 1 Tryz.underlying109 hi hz0 hz1 _ _ _ (10 + 4 * n) rfl rfl (by omega) (by rw [hz2]; omega) (by unfold maxLen; omega) (Nat.le_refl _) ?_; intro w2 hown2 hgrow2))
  have hb2 : Below w1.heap.size w1 w2 := (Below.refl _ _).grown hgrow2 (Nat.le_refl _) (fun k h => by cases h)
  have hsz2 := hb2.size
  go_upto_region 6 with (
    (at_builtin; go_loud (refine Lib.wpList_append_own_string _ rfl (.tmp 19) (.const (.string ⟨#[76, 77, 65, 80]⟩)) 109 9 rfl w1.heap.size 5 i0 Tryz.underlying109 Tryz.underlying9 hi hz0 hz1 hz2 _ 0 [] rfl hown2 ⟨#[76, 77, 65, 80]⟩ rfl (by show 0 + 4 ≤ maxLen; unfold maxLen; omega) (by show 0 + 4 ≤ _; omega) (by omega) ?_; intro v3 w3 hown3 hgrow3 _)))
  have hown3' : w3.ownsRow w1.heap.size 5 1 v3 4 (([76, 77, 65, 80] : List Int).map (Value.int .u8)) := by
    have h := hown3
    rw [show ([] : List Value) ++ Lib.strCells ⟨#[76, 77, 65, 80]⟩ = ([76, 77, 65, 80] : List Int).map (Value.int .u8) from rfl] at h
    exact h
  have hb3 : Below w1.heap.size w1 w3 := hb2.grown hgrow3 (by omega) (fun k hk => (hown2.lt k hk).1)
  have hsz3 := hb3.size
  obtain ⟨ao3, c3, rfl⟩ := owns_slice hown3'
  have hlw : w.heap.size < w1.heap.size := by omega
  have q0 := (hb3.cell (p := ⟨w.heap.size, 0, none⟩) (by show w.heap.size < _; omega)).trans a0'
  have q1 := (hb3.cell (p := ⟨w.heap.size, 1, none⟩) (by show w.heap.size < _; omega)).trans a1'
  have q2 := (hb3.cell (p := ⟨w.heap.size, 2, none⟩) (by show w.heap.size < _; omega)).trans a2'
  have u1 : IntKind.u8.wrap (W : Int) = (W : Int) := IntWalk.u8_in _ ⟨by omega, by omega⟩
  have u2 : IntKind.u8.wrap (H : Int) = (H : Int) := IntWalk.u8_in _ ⟨by omega, by omega⟩
  have hown4 : (w3.alloc (.cells #[.int .u8 W, .int .u8 H] 5)).ownsRow w1.heap.size 5 1 (.slice ao3 4 c3) 4 (([76, 77, 65, 80] : List Int).map (Value.int .u8)) := hown3'.alloc _
  have bN : (w3.alloc (.cells #[.int .u8 W, .int .u8 H] 5)).heap[w3.heap.size]? = some (.cells #[.int .u8 W, .int .u8 H] 5 (0, 0)) := blk_alloc_new _ _
  have HC : Hid (∀ j u, ([.int .u8 W, .int .u8 H] : List Value)[j]? = some u → (w3.alloc (.cells #[.int .u8 W, .int .u8 H] 5)).cell? ((⟨w3.heap.size, 0, none⟩ : Addr).add j) = some u) := Lib.hid fun j u hu => by
    rw [Addr.add_mid, Nat.zero_add, cell_of_row _ _ j _ _ (0, 0) bN]
    simpa using hu
  have HO4 := Lib.hid hown4
  have HB3 := Lib.hid hb3
  clear hown2 hgrow2 hown3 hown3' hgrow3 hb2 hb3 a0' a1' a2' hown4 bN
  go_upto_region 7 with (
    (at_builtin; refine wpList_append_own _ rfl (.tmp 21) (.tmp 28) 109 rfl w1.heap.size 5 i0 (.int .u8 0) 1 1 Tryz.underlying109 hi hz0 hz1 hz2 rfl (by decide) _ _ _ rfl HO4.out ⟨w3.heap.size, 0, none⟩ 2 2 [.int .u8 W, .int .u8 H] rfl rfl HC.out (by intro u hu; simp at hu; rcases hu with rfl | rfl <;> rfl) (by unfold maxLen; omega) (by omega) (by simp; omega) ?_; intro v5 w5 hown5 hgrow5 _))
  have hown5' : w5.ownsRow w1.heap.size 5 1 v5 6 ((packHead W H).map (Value.int .u8)) := hown5
  have hb5 : Below w1.heap.size w1 w5 := (HB3.out.alloc (by omega) _).grown hgrow5 (by simp; omega) (fun k hk => (HO4.out.lt k hk).1)
  have hsz5 := hb5.size
  obtain ⟨ao5, c5, rfl⟩ := owns_slice hown5'
  have q0' := (hb5.cell (p := ⟨w.heap.size, 0, none⟩) (by show w.heap.size < _; omega)).trans ((HB3.out.cell (p := ⟨w.heap.size, 0, none⟩) (by show w.heap.size < _; omega)).symm.trans q0)
  have q1' := (hb5.cell (p := ⟨w.heap.size, 1, none⟩) (by show w.heap.size < _; omega)).trans ((HB3.out.cell (p := ⟨w.heap.size, 1, none⟩) (by show w.heap.size < _; omega)).symm.trans q1)
  have q2' := (hb5.cell (p := ⟨w.heap.size, 2, none⟩) (by show w.heap.size < _; omega)).trans ((HB3.out.cell (p := ⟨w.heap.size, 2, none⟩) (by show w.heap.size < _; omega)).symm.trans q2)
  have K3 := Lib.hid (K2.out w5 (HB1.out.trans (hb5.mono hs1)))
  have HO5 := Lib.hid hown5'
  have HB5 := Lib.hid hb5
  clear q0 q1 q2 hown5 hown5' hgrow5 hb5 HC
  go_upto_block 0 with (
    ((go_at_call 123; refine K3.out.mono ?_; rintro e w6 ⟨ga, rfl, hga, hRA, hb6⟩
      have hfld : ∀ u : World, (Instr.field 188 (.agg #[.int .i64 W, .int .i64 H, .slice (some ⟨ga, 0, none⟩) n n]) 2).run Tryz.prog u = .ok (.slice (some ⟨ga, 0, none⟩) n n) u := fun _ => by kernel_rfl)))
  have hsz6 := hb6.size
  have hown6 := owns_kept HO5.out hb6 (Nat.le_refl _)
  have hlt5 := HO5.out.lt
  have hne5 : ∀ k, (Value.slice ao5 6 c5).ownBlock = some k → k < w5.heap.size := fun k hk => (hlt5 k hk).2
  have hn1 : 1 ≤ n := by have := HN.out; have := Nat.mul_le_mul (show 1 ≤ W by omega) (show 1 ≤ H by omega); omega
  have HO6 := Lib.hid hown6
  have HB6 := Lib.hid (HB5.out.trans (hb6.mono hsz5))
  have HRW := Lib.hid hRA
  clear hown6 hlt5 hne5 hb6 hRA q0' q1' q2'
  go_cut [5] (fun s5 wr => ∃ v, s5 = v ∧ wr.ownsRow w1.heap.size 5 1 v (6 + 4 * n) ((packS W H ks).map (Value.int .u8)) ∧ Below w1.heap.size w1 wr)
  case first =>
    go_wp2_with fail
    go_loopw [5, 34] (fun v i wr => ∃ k : Nat, k ≤ n ∧ i = .int .i64 k ∧ wr.ownsRow w1.heap.size 5 1 v (6 + 4 * k) ((packHead W H ++ packBody (ks.take k)).map (Value.int .u8)) ∧ Below w1.heap.size w1 wr ∧ RowAt wr ga n ks)
      (fun _ i _ => n - (intOf i).toNat)
    case atStart => exact ⟨0, Nat.zero_le _, rfl, HO6.out, HB6.out, HRW.out⟩
    case round =>
      obtain ⟨k, hk, rfl, hown, hnx, hrw⟩ := hrel
      by_cases hlt : k < n
      · have hc := hrw.cells k hlt
        have hgl := hrw.lt
        have hne := not_own hown (hrw.cells 0 (by omega))
        have hb16 := HRA.out.sizes k hlt
        obtain ⟨kj, hkj⟩ : ∃ kj : Int, ks[k]?.getD 0 = kj := ⟨_, rfl⟩
        rw [hkj] at hc hb16
        have hsl := smpOf_word kj (Nat.lt_of_le_of_lt hb16 (by decide))
        have hsu := packBody_succ ks k (by rw [HRA.out.lenk]; exact hlt)
        rw [hkj] at hsu
        have KA := Lib.hid (appendNumber_any w1.heap.size _ (6 + 4 * k) _ (smpOf kj : Nat) (by omega) (by omega) (by omega) wr hown hnx.size)
        have hb32 := run_bits32 (smpOf kj)
        have HNX := Lib.hid hnx
        have HRR := Lib.hid hrw
        have HNE := Lib.hid hne
        have HSU := Lib.hid hsu
        have HB16 := Lib.hid hb16
        clear hown hnx hrw hne hsu hkj hb16
        go_wp2_with (first
          | (go_at_call 125; refine (sample_any _ (Nat.lt_of_le_of_lt HB16.out (by decide)) _).mono ?_; rintro e w9 ⟨rfl, rfl⟩)
          | (go_at_call 175; refine KA.out.mono ?_; rintro e w8 ⟨v8, rfl, hown8, hb8, hk8⟩))
        go_roundw
        case rel =>
          refine ⟨k + 1, by omega, by go_num, ?_, HNX.out.trans hb8, row_same HRR.out (hk8 ga hgl HNE.out)⟩
          rw [HSU.out, ← List.append_assoc, List.map_append]
          exact hown8
        case measure => simp [intOf]; omega
      · obtain rfl : k = n := by omega
        rw [List.take_of_length_le (by rw [HRA.out.lenk]; omega)] at hown
        go_wp2_with fail
        go_meet
        exact ⟨_, rfl, hown, hnx⟩
  case rest =>
    obtain ⟨v, rfl, hown, hbr⟩ := hcut
    obtain ⟨g7, c7, rfl, hg7, hgB7⟩ := owns_some hown (by omega)
    have hpl : (packS W H ks).length = 6 + 4 * n := by rw [packS, List.length_append, packBody_len, HRA.out.lenk]; rfl
    have hbyte := byte_bd (ks := ks) hW64 hH64
    have hck := chk_bd (packS W H ks)
    have hget : ∀ j, j < 6 + 4 * n → (packS W H ks)[j]?.getD 0 ∈ packS W H ks := fun j hj => by
      rw [List.getElem?_eq_getElem (by rw [hpl]; exact hj)]; exact List.getElem_mem _
    have KC := Lib.hid (checksum_any g7 0 (6 + 4 * n) c7 (packS W H ks) wc hpl (by omega) (fun j hj => hbyte _ (hget j hj)) (fun j hj => by
      rw [Nat.zero_add]
      exact owns_cell hown (by rw [List.getElem?_map, List.getElem?_eq_getElem (by rw [hpl]; exact hj)]; rfl)))
    have KA := Lib.hid (appendNumber_any w1.heap.size _ (6 + 4 * n) _ (chkOf (packS W H ks)) hck.1 (by omega) (by omega) wc hown hbr.size)
    have HBR := Lib.hid hbr
    clear hpl hbyte hck hget hown hbr
    go_wp2_with (first
      | (go_at_call 177; refine KC.out.mono ?_; rintro e w9 ⟨rfl, rfl⟩)
      | (go_at_call 175; refine KA.out.mono ?_; rintro e w8 ⟨v8, rfl, hown8, hb8, _⟩))
    go_ret2
    refine ⟨_, rfl, owns_base ?_ (show w.heap.size ≤ w1.heap.size by omega), (HB0.out.trans ((HB1.out.trans ((HBR.out.trans hb8).mono hs1)).mono (by have := HS0.out; omega)))⟩
    rw [show 10 + 4 * n = 6 + 4 * n + 4 by omega, packL, List.map_append]
    exact hown8
end Go.Proofs.YtfdkmmllemkogaaGreatDoor

/-
  Contract of power: the powers of -i.
-/
namespace Go.Proofs.YtfdkmmllemkogaaGreatDoor
open Go.RowKit
set_option linter.unusedVariables false
set_option linter.unusedSimpArgs false

theorem store_complex (P : Program) (w : World) (a : Addr) (m : Mode) (k : FloatKind) (x y : Nat) : (store a (.complex k x y) m).run P w = stored P w a (.complex k x y) m := run_store P w a _ m rfl

/-- The powers of -i, by the exponent modulo 4. -/
def powL : List Value := [.complex .f32 1065353216 0, .complex .f32 0 3212836864, .complex .f32 3212836864 0, .complex .f32 0 1065353216]
theorem powL_at (k : Nat) (hk : k < 4) : ∃ x y, powL[k]? = some (.complex .f32 x y) := by
  match k, hk with
  | 0, _ => exact ⟨_, _, rfl⟩
  | 1, _ => exact ⟨_, _, rfl⟩
  | 2, _ => exact ⟨_, _, rfl⟩
  | 3, _ => exact ⟨_, _, rfl⟩

attribute [local go_sem] store_complex
set_option maxRecDepth 100000 in
set_option maxHeartbeats 3200000 in
theorem power_any (n k : Nat) (v : Value) (hk : n % 4 = k) (hv : powL[k]? = some v) (w : World) :
    Calls Tryz.prog 156 #[.int .i64 n] w fun e w' => e = .returned v ∧ Below w.heap.size w w' := by
  have hk4 : k < 4 := by omega
  have hm : ((n : Int)).tmod 4 = (k : Int) := by rw [Int.tmod_eq_emod_of_nonneg (by omega)]; omega
  obtain ⟨W1, hW1⟩ : ∃ W1, w.alloc (.cells #[.complex .f32 1065353216 0, .complex .f32 0 3212836864, .complex .f32 3212836864 0, .complex .f32 0 1065353216] 95) = W1 := ⟨_, rfl⟩
  have hB : Below w.heap.size w W1 := by rw [← hW1]; exact (Below.refl _ w).alloc (Nat.le_refl _) _
  have hc : W1.cell? ⟨w.heap.size, k, none⟩ = some v := by
    rw [← hW1, cell_of_row _ _ k _ _ (0, 0) (blk_alloc_new _ _)]
    simpa [powL] using hv
  have HB := Lib.hid hB
  go_enter Tryz.func156, Tryz.ntmps156
  go_upto_region 2 with fail
  clear hW1
  go_wp2_with fail
  go_ret
  exact ⟨rfl, HB.out⟩
end Go.Proofs.YtfdkmmllemkogaaGreatDoor
