/-
  Contracts of Placed's literal and of Placed for a right map and a place at which it fits.
-/
import Derived.Test.YtlnhgplloaiiiaaGreatDoorCZa
import Derived.Test.YtlnhgplloaiiiaaGreatDoorCZg
namespace Go.Proofs.YtlnhgplloaiiiaaGreatDoor
open Go.RowKit
set_option linter.unusedVariables false

/-- The integer at a place of the greater map. -/
def placedK (W H PX PY : Nat) (ks : List Int) (p : Nat × Nat) : Int := if PX ≤ p.1 ∧ p.1 < PX + W ∧ PY ≤ p.2 ∧ p.2 < PY + H then ks[(p.2 - PY) * W + (p.1 - PX)]?.getD 0 else 0

set_option maxRecDepth 100000 in
set_option maxHeartbeats 3200000 in
theorem placedlit_any (W H X Y PX PY : Nat) (g n c g7 g8 : Nat) (ks : List Int) (hW : W ≤ 64) (hH : H ≤ 64) (hX : X ≤ 64) (hY : Y ≤ 64) (hPX : PX ≤ 64) (hPY : PY ≤ 64) (w : World) (hN : W * H = n) (hnn : n ≤ 4096)
    (g7l : g7 < w.heap.size) (g8l : g8 < w.heap.size) (hR : RowAt w g n ks) (hA : GridAt w g8 W H g n c) (h0 : w.cell? ⟨g7, 0, none⟩ = some (.int .i64 PX)) (h1 : w.cell? ⟨g7, 1, none⟩ = some (.int .i64 PY)) :
    Calls Tryz.prog 117 #[.agg #[.int .i64 X, .int .i64 Y], .pointer (some ⟨g7, 0, none⟩), .pointer (some ⟨g8, 0, none⟩)] w fun e w' => e = .returned (.int .i64 (placedK W H PX PY ks (X, Y))) ∧ Below w.heap.size w w' := by
  obtain ⟨a0, a1, a2⟩ := hA
  obtain ⟨W2, hW2⟩ : ∃ W2, (w.alloc (.cells #[.int .i64 X, .int .i64 Y] 50)).alloc (.cells #[.int .i64 ((X : Int) - (PX : Int)), .int .i64 ((Y : Int) - (PY : Int))] 50) = W2 := ⟨_, rfl⟩
  have hB2 : Below w.heap.size w W2 := by rw [← hW2]; exact ((Below.refl _ w).alloc (Nat.le_refl _) _).alloc (by simp) _
  have hS2 : W2.heap.size = w.heap.size + 2 := by rw [← hW2]; simp
  have b0 := (hB2.cell (p := ⟨g8, 0, none⟩) g8l).trans a0
  have b1 := (hB2.cell (p := ⟨g8, 1, none⟩) g8l).trans a1
  have b2 := (hB2.cell (p := ⟨g8, 2, none⟩) g8l).trans a2
  have q0 : W2.cell? ⟨w.heap.size + 1, 0, none⟩ = some (.int .i64 ((X : Int) - (PX : Int))) := by rw [← hW2]; simp [go_sem]
  have q1 : W2.cell? ⟨w.heap.size + 1, 1, none⟩ = some (.int .i64 ((Y : Int) - (PY : Int))) := by rw [← hW2]; simp [go_sem]
  have hR2 := hR.below hB2 hR.lt
  by_cases hin : PX ≤ X ∧ X < PX + W ∧ PY ≤ Y ∧ Y < PY + H
  · have hb : insideB W H ((X : Int) - (PX : Int), (Y : Int) - (PY : Int)) = true := by simp [insideB]; omega
    have hv : placedK W H PX PY ks (X, Y) = ks[(Y - PY) * W + (X - PX)]?.getD 0 := by unfold placedK; rw [if_pos hin]
    rw [hv]
    have hlt : (Y - PY) * W + (X - PX) < n := idx_lt (p := (X - PX, Y - PY)) (by show X - PX < W; omega) (by show Y - PY < H; omega) hN
    have eX : (X : Int) - (PX : Int) = ((X - PX : Nat) : Int) := by omega
    have eY : (Y : Int) - (PY : Int) = ((Y - PY : Nat) : Int) := by omega
    have m1 : (Y - PY) * W ≤ 64 * 64 := Nat.mul_le_mul (by omega) hW
    have e2 : ((Y : Int) - (PY : Int)) * (W : Int) = (((Y - PY) * W : Nat) : Int) := by rw [eY]; push_cast; rfl
    have e1 : (((Y : Int) - (PY : Int)) * (W : Int) + ((X : Int) - (PX : Int))).toNat = (Y - PY) * W + (X - PX) := by rw [e2]; omega
    have K : Hid (∀ w1 : World, Below W2.heap.size W2 w1 → Calls Tryz.prog 108 #[.agg #[.int .i64 W, .int .i64 H, .slice (some ⟨g, 0, none⟩) n c], .agg #[.int .i64 ((X : Int) - (PX : Int)), .int .i64 ((Y : Int) - (PY : Int))]] w1 fun e w' => e = .returned (.int .i64 (ks[(Y - PY) * W + (X - PX)]?.getD 0)) ∧ Below w1.heap.size w1 w') := Lib.hid fun w1 h => by
      have hs := h.size
      have hr := hR2.below h hR2.lt
      exact at_any W H ((X : Int) - (PX : Int)) ((Y : Int) - (PY : Int)) g n c _ (by omega) (by omega) (by omega) (by rw [e2]; omega) w1 (by rw [e2]; omega) hr.lt (by rw [e1]; exact hr.cells _ hlt)
    have HB2 := Lib.hid hB2
    have HBI := Lib.hid hb
    clear hR hR2 eX eY e1 e2 hlt hv hb m1 hB2 hin hN hnn
    go_enter Tryz.func117, Tryz.ntmps117
    go_upto_region 2 with fail
    try rw [hW2]
    clear hW2
    go_wp2_with (first
      | ((go_at_call 106; refine (has_any W H ((X : Int) - (PX : Int)) ((Y : Int) - (PY : Int)) _ _ _ W2).mono ?_; rw [HBI.out]; rintro e w3 ⟨rfl, hb3⟩
          have hs3 := hb3.size
          have b0' := (hb3.cell (p := ⟨g8, 0, none⟩) (by show g8 < _; omega)).trans b0
          have b1' := (hb3.cell (p := ⟨g8, 1, none⟩) (by show g8 < _; omega)).trans b1
          have b2' := (hb3.cell (p := ⟨g8, 2, none⟩) (by show g8 < _; omega)).trans b2
          have q0' := (hb3.cell (p := ⟨w.heap.size + 1, 0, none⟩) (by show w.heap.size + 1 < _; omega)).trans q0
          have q1' := (hb3.cell (p := ⟨w.heap.size + 1, 1, none⟩) (by show w.heap.size + 1 < _; omega)).trans q1
          have K2 := Lib.hid (K.out w3 hb3)
          have HB3 := Lib.hid hb3
          clear b0 b1 b2 q0 q1 hb3))
      | ((go_at_call 108; refine K2.out.mono ?_; rintro e w4 ⟨rfl, hb4⟩)))
    go_ret
    exact ⟨rfl, HB2.out.trans ((HB3.out.trans (hb4.mono hs3)).mono (by omega))⟩
  · have hb : insideB W H ((X : Int) - (PX : Int), (Y : Int) - (PY : Int)) = false := by simp [insideB]; omega
    have hv : placedK W H PX PY ks (X, Y) = 0 := by unfold placedK; rw [if_neg hin]
    rw [hv]
    have HB2 := Lib.hid hB2
    have HBI := Lib.hid hb
    clear hR hR2 hv hb hB2 hin hN hnn
    go_enter Tryz.func117, Tryz.ntmps117
    go_upto_region 2 with fail
    try rw [hW2]
    clear hW2
    go_wp2_with (
      ((go_at_call 106; refine (has_any W H ((X : Int) - (PX : Int)) ((Y : Int) - (PY : Int)) _ _ _ W2).mono ?_; rw [HBI.out]; rintro e w3 ⟨rfl, hb3⟩)))
    go_ret
    exact ⟨rfl, HB2.out.trans (hb3.mono (by omega))⟩
end Go.Proofs.YtlnhgplloaiiiaaGreatDoor
