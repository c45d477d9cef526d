/-
  Contract of Added's literal: the sum of the integers of two grids at a place.
-/
import Derived.Test.YtnlbgikhkpalcaaCXd
namespace Go.Proofs.Ytnlbgikhkpalcaa
open Go.RowKit
set_option linter.unusedVariables false

/-- A variable that holds a grid. -/
structure GridAt (w : World) (g7 : Nat) (W H : Int) (g n c : Nat) : Prop where
  c0 : w.cell? ⟨g7, 0, none⟩ = some (.int .i64 W)
  c1 : w.cell? ⟨g7, 1, none⟩ = some (.int .i64 H)
  c2 : w.cell? ⟨g7, 2, none⟩ = some (.slice (some ⟨g, 0, none⟩) n c)
theorem GridAt.below {B : Nat} {w w' : World} {g7 : Nat} {W H : Int} {g n c : Nat} (h : GridAt w g7 W H g n c) (hb : Below B w w') (hB : g7 < B) : GridAt w' g7 W H g n c :=
  ⟨(hb.cell (p := ⟨g7, 0, none⟩) hB).trans h.c0, (hb.cell (p := ⟨g7, 1, none⟩) hB).trans h.c1, (hb.cell (p := ⟨g7, 2, none⟩) hB).trans h.c2⟩

set_option maxRecDepth 100000 in
set_option maxHeartbeats 3200000 in
theorem added1_any (W H : Int) (ga na ca gb nb cb g7 g8 : Nat) (X Y va vb : Int) (h0 : 0 ≤ W ∧ W ≤ 1048576) (hx : 0 ≤ X ∧ X ≤ 1048576) (hy : 0 ≤ Y ∧ Y ≤ 1048576) (hp : 0 ≤ Y * W ∧ Y * W ≤ 1099511627776) (ha : va.natAbs ≤ 1048576) (hb : vb.natAbs ≤ 1048576) (w : World)
    (hn : Y * W + X < na) (hn' : Y * W + X < nb) (g7l : g7 < w.heap.size) (g8l : g8 < w.heap.size) (gal : ga < w.heap.size) (gbl : gb < w.heap.size) (hA : GridAt w g7 W H ga na ca) (hB : GridAt w g8 W H gb nb cb)
    (hca : w.cell? ⟨ga, (Y * W + X).toNat, none⟩ = some (.int .i64 va)) (hcb : w.cell? ⟨gb, (Y * W + X).toNat, none⟩ = some (.int .i64 vb)) :
    Calls Try.prog 34 #[.agg #[.int .i64 X, .int .i64 Y], .pointer (some ⟨g7, 0, none⟩), .pointer (some ⟨g8, 0, none⟩)] w fun e w' => e = .returned (.int .i64 (va + vb)) ∧ Below w.heap.size w w' := by
  obtain ⟨a0, a1, a2⟩ := hA
  obtain ⟨b0, b1, b2⟩ := hB
  have KA : ∀ w1 : World, Below (w.heap.size + 1) (w.alloc (.cells #[.int .i64 X, .int .i64 Y] 81)) w1 → Calls Try.prog 35 #[.agg #[.int .i64 W, .int .i64 H, .slice (some ⟨ga, 0, none⟩) na ca], .agg #[.int .i64 X, .int .i64 Y]] w1 fun e w' => e = .returned (.int .i64 va) ∧ Below (w.heap.size + 1) (w.alloc (.cells #[.int .i64 X, .int .i64 Y] 81)) w' := fun w1 h1 => by
    have hs := h1.size
    simp at hs
    have h2 := ((Below.refl _ w).alloc (Nat.le_refl _) (.cells #[.int .i64 X, .int .i64 Y] 81)).trans (h1.mono (by omega))
    exact (at_any W H X Y ga na ca va h0 hx hy hp w1 hn (by omega) ((h2.cell (by exact gal)).trans hca)).mono fun e w' ⟨he, hw⟩ => ⟨he, h1.trans (hw.mono hs)⟩
  have KB : ∀ w1 : World, Below (w.heap.size + 1) (w.alloc (.cells #[.int .i64 X, .int .i64 Y] 81)) w1 → Calls Try.prog 35 #[.agg #[.int .i64 W, .int .i64 H, .slice (some ⟨gb, 0, none⟩) nb cb], .agg #[.int .i64 X, .int .i64 Y]] w1 fun e w' => e = .returned (.int .i64 vb) ∧ Below (w.heap.size + 1) (w.alloc (.cells #[.int .i64 X, .int .i64 Y] 81)) w' := fun w1 h1 => by
    have hs := h1.size
    simp at hs
    have h2 := ((Below.refl _ w).alloc (Nat.le_refl _) (.cells #[.int .i64 X, .int .i64 Y] 81)).trans (h1.mono (by omega))
    exact (at_any W H X Y gb nb cb vb h0 hx hy hp w1 hn' (by omega) ((h2.cell (by exact gbl)).trans hcb)).mono fun e w' ⟨he, hw⟩ => ⟨he, h1.trans (hw.mono hs)⟩
  have HKA := Lib.hid KA
  have HKB := Lib.hid KB
  clear KA KB hca hcb hn hn' h0 hx hy hp
  go_enter Try.func34, Try.ntmps34
  go_wp2_with fail
  obtain ⟨W0, hW0⟩ : ∃ W0, w.alloc (.cells #[.int .i64 X, .int .i64 Y] 81) = W0 := ⟨_, rfl⟩
  have hS0 : W0.heap.size = w.heap.size + 1 := by rw [← hW0]; simp
  have hB0 : Below w.heap.size w W0 := by rw [← hW0]; exact (Below.refl _ w).alloc (Nat.le_refl _) _
  have p0 : W0.cell? ⟨w.heap.size, 0, none⟩ = some (.int .i64 X) := by rw [← hW0]; simp [go_sem]
  have p1 : W0.cell? ⟨w.heap.size, 1, none⟩ = some (.int .i64 Y) := by rw [← hW0]; simp [go_sem]
  replace a0 := (hB0.cell (p := ⟨g7, 0, none⟩) g7l).trans a0
  replace a1 := (hB0.cell (p := ⟨g7, 1, none⟩) g7l).trans a1
  replace a2 := (hB0.cell (p := ⟨g7, 2, none⟩) g7l).trans a2
  replace b0 := (hB0.cell (p := ⟨g8, 0, none⟩) g8l).trans b0
  replace b1 := (hB0.cell (p := ⟨g8, 1, none⟩) g8l).trans b1
  replace b2 := (hB0.cell (p := ⟨g8, 2, none⟩) g8l).trans b2
  have hR : Below (w.heap.size + 1) W0 W0.drew := (Below.refl (w.heap.size + 1) W0).drew
  rw [hW0] at HKA HKB ⊢
  have HB0 := Lib.hid hB0
  have HS0 := Lib.hid hS0
  clear hW0 hB0 hS0
  have hwr : IntKind.i64.wrap (va + vb) = va + vb := IntWalk.i64_in _ ⟨by omega, by omega⟩
  go_region_held3 (fun w' => w'.cell? ⟨g7, 0, none⟩ = some (.int .i64 W) ∧ w'.cell? ⟨g7, 1, none⟩ = some (.int .i64 H) ∧ w'.cell? ⟨g7, 2, none⟩ = some (.slice (some ⟨ga, 0, none⟩) na ca) ∧
      w'.cell? ⟨g8, 0, none⟩ = some (.int .i64 W) ∧ w'.cell? ⟨g8, 1, none⟩ = some (.int .i64 H) ∧ w'.cell? ⟨g8, 2, none⟩ = some (.slice (some ⟨gb, 0, none⟩) nb cb) ∧
      w'.cell? ⟨w.heap.size, 0, none⟩ = some (.int .i64 X) ∧ w'.cell? ⟨w.heap.size, 1, none⟩ = some (.int .i64 Y) ∧ Below (w.heap.size + 1) W0 w')
    (first | (go_split_ands; refine ⟨?_, ?_, ?_, ?_, ?_, ?_, ?_, ?_, ?_⟩ <;> first | assumption | ((rw [hb1.cell (by simp; try omega)]; assumption))) | go_keep)
    (first
      | (go_at_call_of 35 (Value.agg #[.int .i64 W, .int .i64 H, .slice (some ⟨ga, 0, none⟩) na ca]); refine (HKA.out _ ?_).mono ?_; rotate_left 1; rintro e w' ⟨rfl, hb1⟩; rotate_left 1; (simp [*]))
      | (go_at_call_of 35 (Value.agg #[.int .i64 W, .int .i64 H, .slice (some ⟨gb, 0, none⟩) nb cb]); refine (HKB.out _ ?_).mono ?_; rotate_left 1; rintro e w' ⟨rfl, hb1⟩; rotate_left 1; (simp [*])))
  all_goals
    go_wp2
    go_ret
    exact ⟨rfl, HB0.out.trans (hb1.mono (by omega))⟩
end Go.Proofs.Ytnlbgikhkpalcaa
