/-
  Contracts of limited and checkTelegram for a telegram whose numbers are in their ranges.
-/
import Derived.Test.YtfdkmmllemkogaaOWn
import Derived.WalkLawsBesides
import Derived.Deep.RegionWith
import Derived.StillTailTactics
import Derived.Lib.Hide
namespace Go.Proofs.Ytfdkmmllemkogaa
open Go.RowKit
set_option linter.unusedVariables false

/-- The numbers of a telegram are in their ranges. -/
structure GoodT (s c o x y z : Int) : Prop where
  st : 0 ≤ s ∧ s ≤ 255
  ct : 0 ≤ c ∧ c ≤ 65535
  od : 0 ≤ o ∧ o ≤ 255
  vx : -1048576 ≤ x ∧ x ≤ 1048576
  vy : -1048576 ≤ y ∧ y ≤ 1048576
  vz : -1048576 ≤ z ∧ z ≤ 1048576

abbrev telV (s c o x y z : Int) : Value := .agg #[.int .i64 s, .int .i64 c, .int .i64 o, .int .i64 x, .int .i64 y, .int .i64 z]

set_option maxHeartbeats 800000 in
theorem reach_any (n : Int) (h0 : -1048576 ≤ n) (h1 : n ≤ 1048576) (w : World) :
    Calls Try.prog 66 #[.int .i64 n] w fun e w' => e = .returned (.int .i64 n) ∧ w = w' := by
  go_enter Try.func66, Try.ntmps66
  go_wp2
  go_ret
  exact ⟨rfl, rfl⟩


theorem max_low {n m : Int} (h : m ≤ n) : ∀ (ts : Array TypeId) (t : TypeId) (w : World), (Builtin.max_ ts t #[.int .i64 n, .int .i64 m]).run Try.prog w = .ok (.int .i64 n) w := fun ts t w => by
  rw [run_max_int2, if_neg (by omega)]
theorem min_high {n m : Int} (h : n ≤ m) : ∀ (ts : Array TypeId) (t : TypeId) (w : World), (Builtin.min_ ts t #[.int .i64 n, .int .i64 m]).run Try.prog w = .ok (.int .i64 n) w := fun ts t w => by
  rw [run_min_int2, if_neg (by omega)]

set_option maxRecDepth 100000 in
set_option maxHeartbeats 1600000 in
theorem limited_any (s c o x y z : Int) (h : GoodT s c o x y z) (w : World) :
    Calls Try.prog 47 #[.agg #[.int .i64 s, .int .i64 c, .int .i64 o, .int .i64 x, .int .i64 y, .int .i64 z]] w fun e w' =>
      e = .returned (.agg #[.int .i64 s, .int .i64 c, .int .i64 o, .int .i64 x, .int .i64 y, .int .i64 z]) ∧ Below w.heap.size w w' := by
  obtain ⟨h1, h2, h3, h4, h5, h6⟩ := h
  have m1 := max_low h1.1
  have m2 := max_low h2.1
  have m3 := max_low h3.1
  have n1 := min_high h1.2
  have n2 := min_high h2.2
  have n3 := min_high h3.2
  clear h1 h2 h3
  go_enter Try.func47, Try.ntmps47
  go_wp2_with fail
  refine wp_region_still_tail 29 (by kernel_rfl) (by kernel_rfl) ?_
  simp only [List.take_succ_cons, List.take_zero, List.drop_succ_cons, List.drop_zero]
  obtain ⟨W1, hW1⟩ : ∃ W1, W1 = (((w.alloc (.cells #[.int .i64 s, .int .i64 c, .int .i64 o, .int .i64 x, .int .i64 y, .int .i64 z] 35)).alloc (.cells #[.int .i64 0, .int .i64 0, .int .i64 0, .int .i64 0, .int .i64 0, .int .i64 0] 35)).drew) := ⟨_, rfl⟩
  change wpStill _ _ (((w.alloc (.cells #[.int .i64 s, .int .i64 c, .int .i64 o, .int .i64 x, .int .i64 y, .int .i64 z] 35)).alloc (.cells #[.int .i64 0, .int .i64 0, .int .i64 0, .int .i64 0, .int .i64 0, .int .i64 0] 35)).drew) (fun a' => wpList _ _ _ _ a' (((w.alloc (.cells #[.int .i64 s, .int .i64 c, .int .i64 o, .int .i64 x, .int .i64 y, .int .i64 z] 35)).alloc (.cells #[.int .i64 0, .int .i64 0, .int .i64 0, .int .i64 0, .int .i64 0, .int .i64 0] 35)).drew)) _ _
  rw [← hW1]
  have c0 : W1.cell? ⟨w.heap.size, 0, none⟩ = some (.int .i64 s) := by rw [hW1]; simp [go_sem]
  have c1 : W1.cell? ⟨w.heap.size, 1, none⟩ = some (.int .i64 c) := by rw [hW1]; simp [go_sem]
  have c2 : W1.cell? ⟨w.heap.size, 2, none⟩ = some (.int .i64 o) := by rw [hW1]; simp [go_sem]
  have c3 : W1.cell? ⟨w.heap.size, 3, none⟩ = some (.int .i64 x) := by rw [hW1]; simp [go_sem]
  have c4 : W1.cell? ⟨w.heap.size, 4, none⟩ = some (.int .i64 y) := by rw [hW1]; simp [go_sem]
  have c5 : W1.cell? ⟨w.heap.size, 5, none⟩ = some (.int .i64 z) := by rw [hW1]; simp [go_sem]
  have k4 := (reach_any x h4.1 h4.2 W1).mono fun e w' (h : _ ∧ _) => (⟨h.1, h.2.symm⟩ : e = .returned (.int .i64 x) ∧ w' = W1)
  have k5 := (reach_any y h5.1 h5.2 W1).mono fun e w' (h : _ ∧ _) => (⟨h.1, h.2.symm⟩ : e = .returned (.int .i64 y) ∧ w' = W1)
  have k6 := (reach_any z h6.1 h6.2 W1).mono fun e w' (h : _ ∧ _) => (⟨h.1, h.2.symm⟩ : e = .returned (.int .i64 z) ∧ w' = W1)
  have K4 := Lib.hid k4
  have K5 := Lib.hid k5
  have K6 := Lib.hid k6
  have HW1 := Lib.hid hW1
  clear k4 k5 k6 h4 h5 h6 hW1
  repeat still_step
  still_call K4.out
  repeat still_step
  still_call K5.out
  repeat still_step
  still_call K6.out
  repeat still_step
  refine wpStill_nil ?_
  rw [HW1.out]
  go_wp2
  refine bodyPost_ret (v := .agg #[.int .i64 s, .int .i64 c, .int .i64 o, .int .i64 x, .int .i64 y, .int .i64 z]) (by simp [results, Try.results47, go_sem]) rfl ⟨rfl, ?_⟩
  go_grown
end Go.Proofs.Ytfdkmmllemkogaa
