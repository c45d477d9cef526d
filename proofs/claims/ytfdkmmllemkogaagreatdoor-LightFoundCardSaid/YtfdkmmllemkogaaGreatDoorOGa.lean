/-
  Contracts of limited and checkTelegram for every telegram.
-/
import Derived.Test.YtfdkmmllemkogaaGreatDoorOWp
import Derived.Test.YtfdkmmllemkogaaGreatDoorOFc
import Derived.Test.YtfdkmmllemkogaaGreatDoorOWv
namespace Go.Proofs.YtfdkmmllemkogaaGreatDoor
open Go.RowKit
set_option linter.unusedVariables false
set_option linter.unusedSimpArgs false

/-- A number brought into its range. -/
def clamp (lo hi n : Int) : Int := min (max n lo) hi
theorem clamp_in {lo hi n : Int} (h1 : lo ≤ n) (h2 : n ≤ hi) : clamp lo hi n = n := by unfold clamp; omega
theorem clamp_out {lo hi n : Int} (h : lo ≤ hi) (h1 : ¬ (lo ≤ n ∧ n ≤ hi)) : clamp lo hi n ≠ n := by unfold clamp; omega
theorem run_maxL (n m : Int) : ∀ (ts : Array TypeId) (t : TypeId) (w : World), (Builtin.max_ ts t #[.int .i64 n, .int .i64 m]).run Tryz.prog w = .ok (.int .i64 (max n m)) w := fun ts t w => by
  rw [run_max_int2]
  by_cases h : n < m
  · rw [if_pos h, show max n m = m by omega]
  · rw [if_neg h, show max n m = n by omega]
theorem run_minL (n m : Int) : ∀ (ts : Array TypeId) (t : TypeId) (w : World), (Builtin.min_ ts t #[.int .i64 n, .int .i64 m]).run Tryz.prog w = .ok (.int .i64 (min n m)) w := fun ts t w => by
  rw [run_min_int2]
  by_cases h : m < n
  · rw [if_pos h, show min n m = m by omega]
  · rw [if_neg h, show min n m = n by omega]

set_option maxHeartbeats 800000 in
theorem reach_all (n : Int) (w : World) :
    Calls Tryz.prog 232 #[.int .i64 n] w fun e w' => e = .returned (.int .i64 (clamp (-1048576) 1048576 n)) ∧ w = w' := by
  have m1 := run_maxL n (-1048576)
  obtain ⟨a, ha⟩ : ∃ a : Int, max n (-1048576) = a := ⟨_, rfl⟩
  rw [ha] at m1
  have n1 := run_minL a 1048576
  obtain ⟨b, hb⟩ : ∃ b : Int, min a 1048576 = b := ⟨_, rfl⟩
  rw [hb] at n1
  have e : clamp (-1048576) 1048576 n = b := by unfold clamp; rw [ha, hb]
  rw [e]
  clear ha hb e
  go_enter Tryz.func232, Tryz.ntmps232
  go_wp2
  go_ret
  exact ⟨rfl, rfl⟩

set_option maxRecDepth 100000 in
set_option maxHeartbeats 1600000 in
theorem limited_all (s c o x y z : Int) (w : World) :
    Calls Tryz.prog 206 #[.agg #[.int .i64 s, .int .i64 c, .int .i64 o, .int .i64 x, .int .i64 y, .int .i64 z]] w fun e w' =>
      e = .returned (.agg #[.int .i64 (clamp 0 255 s), .int .i64 (clamp 0 65535 c), .int .i64 (clamp 0 255 o), .int .i64 (clamp (-1048576) 1048576 x), .int .i64 (clamp (-1048576) 1048576 y), .int .i64 (clamp (-1048576) 1048576 z)]) ∧ Below w.heap.size w w' := by
  have m1 := run_maxL s 0
  obtain ⟨a1, ha1⟩ : ∃ a : Int, max s 0 = a := ⟨_, rfl⟩
  rw [ha1] at m1
  have n1 := run_minL a1 255
  obtain ⟨s', hv1⟩ : ∃ b : Int, min a1 255 = b := ⟨_, rfl⟩
  rw [hv1] at n1
  rw [show clamp 0 255 s = s' by unfold clamp; rw [ha1, hv1]]
  clear ha1 hv1
  have m2 := run_maxL c 0
  obtain ⟨a2, ha2⟩ : ∃ a : Int, max c 0 = a := ⟨_, rfl⟩
  rw [ha2] at m2
  have n2 := run_minL a2 65535
  obtain ⟨c', hv2⟩ : ∃ b : Int, min a2 65535 = b := ⟨_, rfl⟩
  rw [hv2] at n2
  rw [show clamp 0 65535 c = c' by unfold clamp; rw [ha2, hv2]]
  clear ha2 hv2
  have m3 := run_maxL o 0
  obtain ⟨a3, ha3⟩ : ∃ a : Int, max o 0 = a := ⟨_, rfl⟩
  rw [ha3] at m3
  have n3 := run_minL a3 255
  obtain ⟨o', hv3⟩ : ∃ b : Int, min a3 255 = b := ⟨_, rfl⟩
  rw [hv3] at n3
  rw [show clamp 0 255 o = o' by unfold clamp; rw [ha3, hv3]]
  clear ha3 hv3
  have kx := reach_all x
  obtain ⟨x', hvx⟩ : ∃ b : Int, clamp (-1048576) 1048576 x = b := ⟨_, rfl⟩
  rw [hvx] at kx ⊢
  clear hvx
  have ky := reach_all y
  obtain ⟨y', hvy⟩ : ∃ b : Int, clamp (-1048576) 1048576 y = b := ⟨_, rfl⟩
  rw [hvy] at ky ⊢
  clear hvy
  have kz := reach_all z
  obtain ⟨z', hvz⟩ : ∃ b : Int, clamp (-1048576) 1048576 z = b := ⟨_, rfl⟩
  rw [hvz] at kz ⊢
  clear hvz
  go_enter Tryz.func206, Tryz.ntmps206
  go_wp2_with fail
  refine wp_region_still_tail 29 (by kernel_rfl) (by kernel_rfl) ?_
  simp only [List.take_succ_cons, List.take_zero, List.drop_succ_cons, List.drop_zero]
  obtain ⟨W1, hW1⟩ : ∃ W1, W1 = (((w.alloc (.cells #[.int .i64 s, .int .i64 c, .int .i64 o, .int .i64 x, .int .i64 y, .int .i64 z] 112)).alloc (.cells #[.int .i64 0, .int .i64 0, .int .i64 0, .int .i64 0, .int .i64 0, .int .i64 0] 112)).drew) := ⟨_, rfl⟩
  change wpStill _ _ (((w.alloc (.cells #[.int .i64 s, .int .i64 c, .int .i64 o, .int .i64 x, .int .i64 y, .int .i64 z] 112)).alloc (.cells #[.int .i64 0, .int .i64 0, .int .i64 0, .int .i64 0, .int .i64 0, .int .i64 0] 112)).drew) (fun a' => wpList _ _ _ _ a' (((w.alloc (.cells #[.int .i64 s, .int .i64 c, .int .i64 o, .int .i64 x, .int .i64 y, .int .i64 z] 112)).alloc (.cells #[.int .i64 0, .int .i64 0, .int .i64 0, .int .i64 0, .int .i64 0, .int .i64 0] 112)).drew)) _ _
  rw [← hW1]
  have c0 : W1.cell? ⟨w.heap.size, 0, none⟩ = some (.int .i64 s) := by rw [hW1]; simp [go_sem]
  have c1 : W1.cell? ⟨w.heap.size, 1, none⟩ = some (.int .i64 c) := by rw [hW1]; simp [go_sem]
  have c2 : W1.cell? ⟨w.heap.size, 2, none⟩ = some (.int .i64 o) := by rw [hW1]; simp [go_sem]
  have c3 : W1.cell? ⟨w.heap.size, 3, none⟩ = some (.int .i64 x) := by rw [hW1]; simp [go_sem]
  have c4 : W1.cell? ⟨w.heap.size, 4, none⟩ = some (.int .i64 y) := by rw [hW1]; simp [go_sem]
  have c5 : W1.cell? ⟨w.heap.size, 5, none⟩ = some (.int .i64 z) := by rw [hW1]; simp [go_sem]
  have k4 := (kx W1).mono fun e w' (h : _ ∧ _) => (⟨h.1, h.2.symm⟩ : e = .returned (.int .i64 x') ∧ w' = W1)
  have k5 := (ky W1).mono fun e w' (h : _ ∧ _) => (⟨h.1, h.2.symm⟩ : e = .returned (.int .i64 y') ∧ w' = W1)
  have k6 := (kz W1).mono fun e w' (h : _ ∧ _) => (⟨h.1, h.2.symm⟩ : e = .returned (.int .i64 z') ∧ w' = W1)
  have K4 := Lib.hid k4
  have K5 := Lib.hid k5
  have K6 := Lib.hid k6
  have HW1 := Lib.hid hW1
  clear k4 k5 k6 kx ky kz hW1
  repeat still_step
  still_call K4.out
  repeat still_step
  still_call K5.out
  repeat still_step
  still_call K6.out
  repeat still_step
  refine wpStill_nil ?_
  rw [HW1.out]
  go_wp2
  refine bodyPost_ret (v := .agg #[.int .i64 s', .int .i64 c', .int .i64 o', .int .i64 x', .int .i64 y', .int .i64 z']) (by simp [results, Tryz.results206, go_sem]) rfl ⟨rfl, ?_⟩
  go_grown

open Classical in
noncomputable def telErr (s c o x y z : Int) : Int := if GoodT s c o x y z then 0 else 3
theorem telErr_good {s c o x y z : Int} (h : GoodT s c o x y z) : telErr s c o x y z = 0 := by unfold telErr; simp [h]
theorem telErr_bad {s c o x y z : Int} (h : ¬ GoodT s c o x y z) : telErr s c o x y z = 3 := by unfold telErr; simp [h]
theorem telErr_zero {s c o x y z : Int} (h : telErr s c o x y z = 0) : GoodT s c o x y z := Classical.byContradiction fun hn => by rw [telErr_bad hn] at h; cases h

set_option maxRecDepth 100000 in
set_option maxHeartbeats 6400000 in
theorem checkTelegram_all (s c o x y z : Int) (w : World) :
    Calls Tryz.prog 162 #[.agg #[.int .i64 s, .int .i64 c, .int .i64 o, .int .i64 x, .int .i64 y, .int .i64 z]] w fun e w' => e = .returned (.int .i64 (telErr s c o x y z)) ∧ Below w.heap.size w w' := by
  by_cases hg : GoodT s c o x y z
  · rw [telErr_good hg]
    exact checkTelegram_any s c o x y z hg w
  rw [telErr_bad hg]
  have K := Lib.hid (limited_all s c o x y z)
  obtain ⟨s', hvs⟩ : ∃ b : Int, clamp 0 255 s = b := ⟨_, rfl⟩
  obtain ⟨c', hvc⟩ : ∃ b : Int, clamp 0 65535 c = b := ⟨_, rfl⟩
  obtain ⟨o', hvo⟩ : ∃ b : Int, clamp 0 255 o = b := ⟨_, rfl⟩
  obtain ⟨x', hvx⟩ : ∃ b : Int, clamp (-1048576) 1048576 x = b := ⟨_, rfl⟩
  obtain ⟨y', hvy⟩ : ∃ b : Int, clamp (-1048576) 1048576 y = b := ⟨_, rfl⟩
  obtain ⟨z', hvz⟩ : ∃ b : Int, clamp (-1048576) 1048576 z = b := ⟨_, rfl⟩
  rw [hvs, hvc, hvo, hvx, hvy, hvz] at K
  have gs : s' = s → 0 ≤ s ∧ s ≤ 255 := fun h => by rw [← hvs] at h; unfold clamp at h; omega
  have gc : c' = c → 0 ≤ c ∧ c ≤ 65535 := fun h => by rw [← hvc] at h; unfold clamp at h; omega
  have go : o' = o → 0 ≤ o ∧ o ≤ 255 := fun h => by rw [← hvo] at h; unfold clamp at h; omega
  have gx : x' = x → -1048576 ≤ x ∧ x ≤ 1048576 := fun h => by rw [← hvx] at h; unfold clamp at h; omega
  have gy : y' = y → -1048576 ≤ y ∧ y ≤ 1048576 := fun h => by rw [← hvy] at h; unfold clamp at h; omega
  have gz : z' = z → -1048576 ≤ z ∧ z ≤ 1048576 := fun h => by rw [← hvz] at h; unfold clamp at h; omega
  clear hvs hvc hvo hvx hvy hvz
  by_cases es : s' = s
  rotate_left 1
  · have qs : (s' == s) = false := by simp [es]
    clear es gs gc go gx gy gz
    clear hg
    go_enter Tryz.func162, Tryz.ntmps162
    go_wp2_with fail
    go_region_held3 (fun w' => w'.cell? ⟨w.heap.size, 0, none⟩ = some (.int .i64 s) ∧ w'.cell? ⟨w.heap.size, 1, none⟩ = some (.int .i64 c) ∧ w'.cell? ⟨w.heap.size, 2, none⟩ = some (.int .i64 o) ∧ w'.cell? ⟨w.heap.size, 3, none⟩ = some (.int .i64 x) ∧ w'.cell? ⟨w.heap.size, 4, none⟩ = some (.int .i64 y) ∧ w'.cell? ⟨w.heap.size, 5, none⟩ = some (.int .i64 z))
      (first | go_keep | (go_split_ands; refine ⟨?_, ?_, ?_, ?_, ?_, ?_⟩ <;> (rw [hb.cell (by simp)]; assumption)))
      ((go_at_call 206; refine (K.out _).mono ?_; rintro e w' ⟨rfl, hb⟩))
    all_goals
      go_wp2
      go_ret
      exact ⟨rfl, ((Below.refl _ w).alloc (Nat.le_refl _) _).drew.trans (hb.mono (by simp))⟩
  have fs := es.symm
  clear es
  subst fs
  by_cases ec : c' = c
  rotate_left 1
  · have qc : (c' == c) = false := by simp [ec]
    clear ec gs gc go gx gy gz
    clear hg
    go_enter Tryz.func162, Tryz.ntmps162
    go_wp2_with fail
    go_region_held3 (fun w' => w'.cell? ⟨w.heap.size, 0, none⟩ = some (.int .i64 s) ∧ w'.cell? ⟨w.heap.size, 1, none⟩ = some (.int .i64 c) ∧ w'.cell? ⟨w.heap.size, 2, none⟩ = some (.int .i64 o) ∧ w'.cell? ⟨w.heap.size, 3, none⟩ = some (.int .i64 x) ∧ w'.cell? ⟨w.heap.size, 4, none⟩ = some (.int .i64 y) ∧ w'.cell? ⟨w.heap.size, 5, none⟩ = some (.int .i64 z))
      (first | go_keep | (go_split_ands; refine ⟨?_, ?_, ?_, ?_, ?_, ?_⟩ <;> (rw [hb.cell (by simp)]; assumption)))
      ((go_at_call 206; refine (K.out _).mono ?_; rintro e w' ⟨rfl, hb⟩))
    all_goals
      go_wp2
      go_ret
      exact ⟨rfl, ((Below.refl _ w).alloc (Nat.le_refl _) _).drew.trans (hb.mono (by simp))⟩
  have fc := ec.symm
  clear ec
  subst fc
  by_cases eo : o' = o
  rotate_left 1
  · have qo : (o' == o) = false := by simp [eo]
    clear eo gs gc go gx gy gz
    clear hg
    go_enter Tryz.func162, Tryz.ntmps162
    go_wp2_with fail
    go_region_held3 (fun w' => w'.cell? ⟨w.heap.size, 0, none⟩ = some (.int .i64 s) ∧ w'.cell? ⟨w.heap.size, 1, none⟩ = some (.int .i64 c) ∧ w'.cell? ⟨w.heap.size, 2, none⟩ = some (.int .i64 o) ∧ w'.cell? ⟨w.heap.size, 3, none⟩ = some (.int .i64 x) ∧ w'.cell? ⟨w.heap.size, 4, none⟩ = some (.int .i64 y) ∧ w'.cell? ⟨w.heap.size, 5, none⟩ = some (.int .i64 z))
      (first | go_keep | (go_split_ands; refine ⟨?_, ?_, ?_, ?_, ?_, ?_⟩ <;> (rw [hb.cell (by simp)]; assumption)))
      ((go_at_call 206; refine (K.out _).mono ?_; rintro e w' ⟨rfl, hb⟩))
    all_goals
      go_wp2
      go_ret
      exact ⟨rfl, ((Below.refl _ w).alloc (Nat.le_refl _) _).drew.trans (hb.mono (by simp))⟩
  have fo := eo.symm
  clear eo
  subst fo
  by_cases ex : x' = x
  rotate_left 1
  · have qx : (x' == x) = false := by simp [ex]
    clear ex gs gc go gx gy gz
    clear hg
    go_enter Tryz.func162, Tryz.ntmps162
    go_wp2_with fail
    go_region_held3 (fun w' => w'.cell? ⟨w.heap.size, 0, none⟩ = some (.int .i64 s) ∧ w'.cell? ⟨w.heap.size, 1, none⟩ = some (.int .i64 c) ∧ w'.cell? ⟨w.heap.size, 2, none⟩ = some (.int .i64 o) ∧ w'.cell? ⟨w.heap.size, 3, none⟩ = some (.int .i64 x) ∧ w'.cell? ⟨w.heap.size, 4, none⟩ = some (.int .i64 y) ∧ w'.cell? ⟨w.heap.size, 5, none⟩ = some (.int .i64 z))
      (first | go_keep | (go_split_ands; refine ⟨?_, ?_, ?_, ?_, ?_, ?_⟩ <;> (rw [hb.cell (by simp)]; assumption)))
      ((go_at_call 206; refine (K.out _).mono ?_; rintro e w' ⟨rfl, hb⟩))
    all_goals
      go_wp2
      go_ret
      exact ⟨rfl, ((Below.refl _ w).alloc (Nat.le_refl _) _).drew.trans (hb.mono (by simp))⟩
  have fx := ex.symm
  clear ex
  subst fx
  by_cases ey : y' = y
  rotate_left 1
  · have qy : (y' == y) = false := by simp [ey]
    clear ey gs gc go gx gy gz
    clear hg
    go_enter Tryz.func162, Tryz.ntmps162
    go_wp2_with fail
    go_region_held3 (fun w' => w'.cell? ⟨w.heap.size, 0, none⟩ = some (.int .i64 s) ∧ w'.cell? ⟨w.heap.size, 1, none⟩ = some (.int .i64 c) ∧ w'.cell? ⟨w.heap.size, 2, none⟩ = some (.int .i64 o) ∧ w'.cell? ⟨w.heap.size, 3, none⟩ = some (.int .i64 x) ∧ w'.cell? ⟨w.heap.size, 4, none⟩ = some (.int .i64 y) ∧ w'.cell? ⟨w.heap.size, 5, none⟩ = some (.int .i64 z))
      (first | go_keep | (go_split_ands; refine ⟨?_, ?_, ?_, ?_, ?_, ?_⟩ <;> (rw [hb.cell (by simp)]; assumption)))
      ((go_at_call 206; refine (K.out _).mono ?_; rintro e w' ⟨rfl, hb⟩))
    all_goals
      go_wp2
      go_ret
      exact ⟨rfl, ((Below.refl _ w).alloc (Nat.le_refl _) _).drew.trans (hb.mono (by simp))⟩
  have fy := ey.symm
  clear ey
  subst fy
  by_cases ez : z' = z
  rotate_left 1
  · have qz : (z' == z) = false := by simp [ez]
    clear ez gs gc go gx gy gz
    clear hg
    go_enter Tryz.func162, Tryz.ntmps162
    go_wp2_with fail
    go_region_held3 (fun w' => w'.cell? ⟨w.heap.size, 0, none⟩ = some (.int .i64 s) ∧ w'.cell? ⟨w.heap.size, 1, none⟩ = some (.int .i64 c) ∧ w'.cell? ⟨w.heap.size, 2, none⟩ = some (.int .i64 o) ∧ w'.cell? ⟨w.heap.size, 3, none⟩ = some (.int .i64 x) ∧ w'.cell? ⟨w.heap.size, 4, none⟩ = some (.int .i64 y) ∧ w'.cell? ⟨w.heap.size, 5, none⟩ = some (.int .i64 z))
      (first | go_keep | (go_split_ands; refine ⟨?_, ?_, ?_, ?_, ?_, ?_⟩ <;> (rw [hb.cell (by simp)]; assumption)))
      ((go_at_call 206; refine (K.out _).mono ?_; rintro e w' ⟨rfl, hb⟩))
    all_goals
      go_wp2
      go_ret
      exact ⟨rfl, ((Below.refl _ w).alloc (Nat.le_refl _) _).drew.trans (hb.mono (by simp))⟩
  have fz := ez.symm
  clear ez
  subst fz
  exact absurd ⟨gs rfl, gc rfl, go rfl, gx rfl, gy rfl, gz rfl⟩ hg
end Go.Proofs.YtfdkmmllemkogaaGreatDoor

/-
  Contracts of the reference's checks of telegrams, for every telegram.
-/
namespace Go.Proofs.YtfdkmmllemkogaaGreatDoor
open Go.RowKit
set_option linter.unusedVariables false
set_option linter.unusedSimpArgs false

theorem rangeErr_or (n lo hi : Int) : (lo ≤ n ∧ n ≤ hi ∧ rangeErr n lo hi = 0) ∨ (¬ (lo ≤ n ∧ n ≤ hi) ∧ rangeErr n lo hi = 3) := by
  by_cases h : lo ≤ n ∧ n ≤ hi
  · exact .inl ⟨h.1, h.2, rangeErr_in h.1 h.2⟩
  · exact .inr ⟨h, rangeErr_out (by omega)⟩
theorem vectorErr_or (x y z : Int) : ((-1048576 ≤ x ∧ x ≤ 1048576) ∧ (-1048576 ≤ y ∧ y ≤ 1048576) ∧ (-1048576 ≤ z ∧ z ≤ 1048576) ∧ vectorErr x y z = 0) ∨
    (¬ ((-1048576 ≤ x ∧ x ≤ 1048576) ∧ (-1048576 ≤ y ∧ y ≤ 1048576) ∧ (-1048576 ≤ z ∧ z ≤ 1048576)) ∧ vectorErr x y z = 3) := by
  unfold vectorErr
  rcases rangeErr_or x (-1048576) 1048576 with ⟨a, b, h1⟩ | ⟨a, h1⟩ <;> rcases rangeErr_or y (-1048576) 1048576 with ⟨a2, b2, h2⟩ | ⟨a2, h2⟩ <;> rcases rangeErr_or z (-1048576) 1048576 with ⟨a3, b3, h3⟩ | ⟨a3, h3⟩ <;> rw [h1, h2, h3] <;> simp only [firstNZ]
  · exact .inl ⟨⟨a, b⟩, ⟨a2, b2⟩, ⟨a3, b3⟩, by simp⟩
  all_goals exact .inr ⟨by omega, by simp⟩
theorem telErr_first (s c o x y z : Int) : firstNZ [rangeErr s 0 255, rangeErr c 0 65535, rangeErr o 0 255, vectorErr x y z] = telErr s c o x y z := by
  by_cases h : GoodT s c o x y z
  · rw [telErr_good h]
    rw [rangeErr_in h.st.1 h.st.2, rangeErr_in h.ct.1 h.ct.2, rangeErr_in h.od.1 h.od.2]
    rcases vectorErr_or x y z with ⟨_, _, _, h4⟩ | ⟨hn, h4⟩
    · rw [h4]; simp [firstNZ]
    · exact absurd ⟨h.vx, h.vy, h.vz⟩ hn
  · rw [telErr_bad h]
    rcases rangeErr_or s 0 255 with ⟨a, b, h1⟩ | ⟨a, h1⟩ <;> rcases rangeErr_or c 0 65535 with ⟨a2, b2, h2⟩ | ⟨a2, h2⟩ <;> rcases rangeErr_or o 0 255 with ⟨a3, b3, h3⟩ | ⟨a3, h3⟩ <;> rcases vectorErr_or x y z with ⟨v1, v2, v3, h4⟩ | ⟨hn, h4⟩ <;> rw [h1, h2, h3, h4] <;> simp only [firstNZ] <;> first | (simp; done) | exact absurd ⟨⟨a, b⟩, ⟨a2, b2⟩, ⟨a3, b3⟩, v1, v2, v3⟩ h

set_option maxRecDepth 100000 in
set_option maxHeartbeats 6400000 in
theorem refCheckTelegram_all (s c o x y z : Int) (w : World) :
    Calls Tryz.prog 77 #[.agg #[.int .i64 s, .int .i64 c, .int .i64 o, .int .i64 x, .int .i64 y, .int .i64 z]] w fun e w' => e = .returned (.int .i64 (telErr s c o x y z)) ∧ Below w.heap.size w w' := by
  obtain ⟨W0, hW0⟩ : ∃ W0, w.alloc (.cells #[.int .i64 s, .int .i64 c, .int .i64 o, .int .i64 x, .int .i64 y, .int .i64 z] 107) = W0 := ⟨_, rfl⟩
  have HB0 : Hid (Below w.heap.size w W0) := Lib.hid (by rw [← hW0]; exact (Below.refl _ w).alloc (Nat.le_refl _) _)
  have hS0 : w.heap.size < W0.heap.size := by rw [← hW0]; simp
  have a0 : W0.cell? ⟨w.heap.size, 0, none⟩ = some (.int .i64 s) := by rw [← hW0]; simp [go_sem]
  have a1 : W0.cell? ⟨w.heap.size, 1, none⟩ = some (.int .i64 c) := by rw [← hW0]; simp [go_sem]
  have a2 : W0.cell? ⟨w.heap.size, 2, none⟩ = some (.int .i64 o) := by rw [← hW0]; simp [go_sem]
  have a3 : W0.cell? ⟨w.heap.size, 3, none⟩ = some (.int .i64 x) := by rw [← hW0]; simp [go_sem]
  have a4 : W0.cell? ⟨w.heap.size, 4, none⟩ = some (.int .i64 y) := by rw [← hW0]; simp [go_sem]
  have a5 : W0.cell? ⟨w.heap.size, 5, none⟩ = some (.int .i64 z) := by rw [← hW0]; simp [go_sem]
  have hR : Blw W0.heap.size W0 W0.drew := show Below _ _ _ from (Below.refl W0.heap.size W0).drew
  have KV : Hid (∀ w1 : World, Blw W0.heap.size W0 w1 → Calls Tryz.prog 33 #[.agg #[.int .i64 x, .int .i64 y, .int .i64 z]] w1 fun e w' => e = .returned (.int .i64 (vectorErr x y z)) ∧ Below W0.heap.size W0 w') :=
    Lib.hid fun w1 (h : Below W0.heap.size W0 w1) => (refCheckVector_all x y z w1).mono fun e w' ⟨he, hb⟩ => ⟨he, h.trans (hb.mono h.size)⟩
  have KF := Lib.hid (telErr_first s c o x y z)
  obtain ⟨r, hr⟩ : ∃ r, telErr s c o x y z = r := ⟨_, rfl⟩
  rw [hr] at KF ⊢
  clear hr
  go_enter Tryz.func77, Tryz.ntmps77
  go_upto_region 1 with fail
  try rw [hW0]
  clear hW0
  go_region_held3 (fun w' => w'.cell? ⟨w.heap.size, 0, none⟩ = some (.int .i64 s) ∧ w'.cell? ⟨w.heap.size, 1, none⟩ = some (.int .i64 c) ∧ w'.cell? ⟨w.heap.size, 2, none⟩ = some (.int .i64 o) ∧ w'.cell? ⟨w.heap.size, 3, none⟩ = some (.int .i64 x) ∧ w'.cell? ⟨w.heap.size, 4, none⟩ = some (.int .i64 y) ∧ w'.cell? ⟨w.heap.size, 5, none⟩ = some (.int .i64 z) ∧ Blw W0.heap.size W0 w')
    (first | (go_split_ands; refine ⟨?_, ?_, ?_, ?_, ?_, ?_, ?_⟩ <;> first | (with_reducible assumption) | exact hb2 | ((rw [hb2.cell (by show _ < W0.heap.size; omega)]; assumption))) | (go_split_ands; refine ⟨?_, ?_, ?_, ?_, ?_, ?_, ?_⟩ <;> first | ((rw [(hb2.alloc hb2.size _).cell (by show _ < W0.heap.size; omega)]; assumption)) | exact (hb2.alloc hb2.size _ : Below _ _ _)) | go_keep)
    (first
      | (go_at_call 23; refine (refCheckRange_any _ _ _ _).mono ?_; rintro e w2 ⟨rfl, rfl⟩)
      | (go_at_call 33; refine (KV.out _ (by assumption)).mono ?_; rintro e w2 ⟨rfl, hb2⟩)
      | ((go_at_call 111; refine (refFirst_any _ 0 4 4 [rangeErr s 0 255, rangeErr c 0 65535, rangeErr o 0 255, vectorErr x y z] rfl (by omega) _ ?_).mono ?_; rotate_left 1; rintro e w' ⟨rfl, rfl⟩; rw [KF.out]; rotate_left 1; (intro j hj; match j, hj with | 0, _ => simp [go_sem] | 1, _ => simp [go_sem] | 2, _ => simp [go_sem] | 3, _ => simp [go_sem]))))
  all_goals
    go_wp2_with fail
    go_ret
    exact ⟨rfl, HB0.out.trans ((hb2.alloc hb2.size _).mono HB0.out.size)⟩

/-- A slice, nil or not, of telegrams. -/
def AnyTels (w : World) (a : Option Addr) (n : Nat) (L : List Tel) : Prop := L.length = n ∧ ∀ j, j < n → ∃ b q, a = some ⟨b, q, none⟩ ∧ b < w.heap.size ∧ TelsAt w b q L
theorem AnyTels.kept {w w' : World} {a : Option Addr} {n : Nat} {L : List Tel} (h : AnyTels w a n L) (hb : Below w.heap.size w w') : AnyTels w' a n L :=
  ⟨h.1, fun j hj => by
    obtain ⟨b, q, e, h1, h2⟩ := h.2 j hj
    exact ⟨b, q, e, Nat.lt_of_lt_of_le h1 hb.size, h2.kept hb h1⟩⟩
noncomputable def Tel.err (t : Tel) : Int := telErr t.s t.c t.o t.x t.y t.z
/-- The first error of telegrams. -/
noncomputable def telsErr (L : List Tel) : Int := firstNZ (L.map Tel.err)
theorem Tel.err_or (t : Tel) : (t.err = 0 ∧ t.Good) ∨ t.err = 3 := by
  by_cases h : t.Good
  · exact .inl ⟨telErr_good h, h⟩
  · exact .inr (telErr_bad h)

set_option maxRecDepth 100000 in
set_option maxHeartbeats 3200000 in
theorem refCheckTelegrams_any (L : List Tel) (a : Option Addr) (n cp : Nat) (hm : n ≤ 512) (w : World) (hA : AnyTels w a n L) :
    Calls Tryz.prog 86 #[.slice a n cp] w fun e w' => e = .returned (.int .i64 (telsErr L)) ∧ Below w.heap.size w w' := by
  have HC := Lib.hid hA.2
  have HN := Lib.hid hA.1.symm
  have i1 : ((n : Int) ≤ 512) := by omega
  clear hA
  have s35 : (Tryz.prog.info? 107).map (·.size) = some 6 := by kernel_rfl
  go_enter Tryz.func86, Tryz.ntmps86
  go_wp2
  go_loopw [3] (fun i wr => ∃ k : Nat, k ≤ n ∧ i = .int .i64 k ∧ Hid (∀ j, j < k → (L.map Tel.err).getD j 0 = 0) ∧ Below w.heap.size w wr) (fun i _ => n - (intOf i).toNat)
  case atStart => exact ⟨0, Nat.zero_le _, rfl, Lib.hid (fun j hj => absurd hj (by omega)), Below.refl _ _⟩
  case round =>
    obtain ⟨k, hk, rfl, hh, hnx⟩ := hrel
    by_cases hlt : k < n
    · have hlt2 : k < L.length := by have := HN.out; omega
      obtain ⟨b, q, rfl, hb, hT0⟩ := HC.out k hlt
      have hT := hT0 k hlt2
      obtain ⟨t, ht⟩ : ∃ t, L[k]?.getD tel0 = t := ⟨_, rfl⟩
      rw [ht] at hT
      have hr : wr.rangeAt b (q + k * 6) t.val := fun j v hv => by
        rw [hnx.cell (by exact hb)]
        exact hT j v hv
      have HR := Lib.hid hr
      have HE : Hid ((L.map Tel.err).getD k 0 = t.err) := Lib.hid (by rw [List.getD_eq_getElem?_getD, List.getElem?_map, List.getElem?_eq_getElem hlt2, ← ht, List.getElem?_eq_getElem hlt2]; rfl)
      have K := Lib.hid (refCheckTelegram_all t.s t.c t.o t.x t.y t.z wr)
      have hte : telErr t.s t.c t.o t.x t.y t.z = t.err := rfl
      rw [hte] at K
      have HBW := Lib.hid hnx
      clear ht hr hT hT0 hlt2 hte HC
      have hv : t.val = [.int .i64 t.s, .int .i64 t.c, .int .i64 t.o, .int .i64 t.x, .int .i64 t.y, .int .i64 t.z] := rfl
      obtain ⟨r, hr⟩ : ∃ r, t.err = r := ⟨_, rfl⟩
      rw [hr] at K HE
      clear hr hnx
      by_cases h0 : r = 0
      · have e0 : (r != 0) = false := by simp [h0]
        have H0 := Lib.hid h0
        clear h0
        go_wp2_with (first
          | (refine wpList_load_mid rfl 107 (.tmp 16) rfl b (q + k * 6) rfl t.val _ HR.out Tryz.underlying107 rfl (by rw [s35]; rfl) ?_)
          | (go_at_call 77; refine K.out.mono ?_; rintro e w2 ⟨rfl, hb2⟩))
        go_roundw
        case rel => exact ⟨k + 1, by omega, by go_num, Lib.hid (fun j hj => by
          by_cases hjk : j < k
          · exact hh.out j hjk
          · obtain rfl : j = k := by omega
            rw [HE.out]; exact H0.out), HBW.out.trans (hb2.mono HBW.out.size)⟩
        case measure => simp [intOf]; omega
      · have e0 : (r != 0) = true := by simp [h0]
        have H0 := Lib.hid h0
        clear h0
        go_wp2_with (first
          | (refine wpList_load_mid rfl 107 (.tmp 16) rfl b (q + k * 6) rfl t.val _ HR.out Tryz.underlying107 rfl (by rw [s35]; rfl) ?_)
          | (go_at_call 77; refine K.out.mono ?_; rintro e w2 ⟨rfl, hb2⟩))
        go_ret
        exact ⟨ret_int (by unfold telsErr; rw [firstNZ_at (by rw [List.length_map, ← HN.out]; exact hlt) hh.out (by rw [HE.out]; exact H0.out), HE.out]), HBW.out.trans (hb2.mono HBW.out.size)⟩
    · obtain rfl : k = n := by omega
      have HBW := Lib.hid hnx
      clear hnx
      go_wp2
      go_ret
      exact ⟨ret_int (by unfold telsErr; exact (firstNZ_end fun j hj => hh.out j (by have := HN.out; rw [List.length_map] at hj; omega)).symm), HBW.out⟩
end Go.Proofs.YtfdkmmllemkogaaGreatDoor

/-
  Contracts of the law's telegrams, of mapped checks and of the counters of any telegrams.
-/
namespace Go.Proofs.YtfdkmmllemkogaaGreatDoor
open Go.RowKit
set_option linter.unusedVariables false
set_option linter.unusedSimpArgs false

theorem flat_val_at : ∀ (L : List Tel) (k j : Nat) (v : Value), k < L.length → (L[k]?.getD tel0).val[j]? = some v → (L.flatMap Tel.val)[6 * k + j]? = some v
  | [], _, _, _, h, _ => by simp at h
  | t :: L, 0, j, v, _, h => by
    simp only [List.getElem?_cons_zero, Option.getD_some] at h
    rw [List.flatMap_cons, List.getElem?_append_left (by have := (List.getElem?_eq_some_iff.1 h).1; omega)]
    rw [Nat.mul_zero, Nat.zero_add]; exact h
  | t :: L, k + 1, j, v, hk, h => by
    have hl : t.val.length = 6 := rfl
    rw [List.flatMap_cons, List.getElem?_append_right (by omega), hl, show 6 * (k + 1) + j - 6 = 6 * k + j by omega]
    exact flat_val_at L k j v (by simpa using hk) (by simpa using h)

theorem AnyTels.of_row {w : World} {B : Nat} {v : Value} {n : Nat} {L : List Tel} (hl : L.length = n) (h : w.ownsRow B 112 6 v n (L.flatMap Tel.val)) : ∃ a c, v = .slice a n c ∧ AnyTels w a n L := by
  rcases h.2 with ⟨rfl, rfl⟩ | ⟨g, cap, cur, rfl, hb, hg, _⟩
  · exact ⟨none, 0, rfl, hl, fun j hj => absurd hj (by omega)⟩
  · refine ⟨_, _, rfl, hl, fun j hj => ⟨g, 0, rfl, lt_of_blk hg, fun k hk i u hu => ?_⟩⟩
    have h1 := h.cells (g := g) rfl (6 * k + i) u (flat_val_at L k i u hk hu)
    rw [Addr.add_mid, Nat.zero_add] at h1
    rw [Nat.zero_add, Nat.mul_comm k 6]
    exact h1

theorem short_any (a : Option Addr) (n c : Nat) (w : World) (hm : n ≤ maxLen) :
    Calls Tryz.prog 83 #[.slice a n c] w fun e w' => e = .returned (.bool (decide (n ≤ 20) || decide (n = 513))) ∧ w = w' := by
  unfold maxLen at hm
  by_cases h : n ≤ 20
  · have e : (decide (n ≤ 20) || decide (n = 513)) = true := by simp [h]
    rw [e]
    clear e
    go_enter Tryz.func83, Tryz.ntmps83
    go_wp2
    go_ret
    exact ⟨rfl, rfl⟩
  · by_cases h2 : n = 513
    · subst h2
      go_enter Tryz.func83, Tryz.ntmps83
      go_wp2
      go_ret
      exact ⟨rfl, rfl⟩
    · have e : (decide (n ≤ 20) || decide (n = 513)) = false := by simp [h, h2]
      rw [e]
      have e2 : ((n : Int) == 513) = false := by simp; omega
      clear e h2
      go_enter Tryz.func83, Tryz.ntmps83
      go_wp2
      go_ret
      exact ⟨congrArg (fun b => Ending.returned (.bool b)) (show decide ((n : Int) ≤ 20) = false by simp; omega), rfl⟩

set_option maxRecDepth 100000 in
set_option maxHeartbeats 3200000 in
theorem telegrams_any (L : List Tel) (a : Option Addr) (n cp : Nat) (hm : n ≤ 513) (w : World) (hA : AnyTels w a n L) :
    Calls Tryz.prog 85 #[.slice a n cp] w fun e w' => ∃ a' c', e = .returned (.slice a' n c') ∧ AnyTels w' a' n L ∧ Below w.heap.size w w' := by
  obtain ⟨i0, hi, hz0, hz1, hz2⟩ := info_parts Tryz.infoTel
  have HC := Lib.hid hA.2
  have HN := Lib.hid hA.1.symm
  clear hA
  have s35 : (Tryz.prog.info? 107).map (·.size) = some 6 := by kernel_rfl
  go_enter Tryz.func85, Tryz.ntmps85
  go_wp2
  go_loopw [3, 8] (fun out i wr => ∃ k : Nat, k ≤ n ∧ i = .int .i64 k ∧ wr.ownsRow w.heap.size 112 6 out k ((L.take k).flatMap Tel.val) ∧ Below w.heap.size w wr)
    (fun _ i _ => n - (intOf i).toNat)
  case atStart => exact ⟨0, Nat.zero_le _, rfl, World.ownsRow_nil _ _ _ _, Below.refl _ _⟩
  case round =>
    obtain ⟨k, hk, rfl, hown, hnx⟩ := hrel
    have hsz : w.heap.size ≤ wr.heap.size := hnx.size
    by_cases hlt : k < n
    · have hlt2 : k < L.length := by have := HN.out; omega
      obtain ⟨b, q, rfl, hb, hT0⟩ := HC.out k hlt
      have hT := hT0 k hlt2
      have hS := flat_take_succ L k hlt2
      obtain ⟨t, ht⟩ : ∃ t, L[k]?.getD tel0 = t := ⟨_, rfl⟩
      rw [ht] at hT hS
      have hr : wr.rangeAt b (q + k * 6) t.val := fun j v hv => by
        rw [hnx.cell (by exact hb)]
        exact hT j v hv
      have HR := Lib.hid hr
      have HS := Lib.hid hS
      clear ht hr hT hT0 hlt2 hS HC
      have hv : t.val = [.int .i64 t.s, .int .i64 t.c, .int .i64 t.o, .int .i64 t.x, .int .i64 t.y, .int .i64 t.z] := rfl
      go_wp2_with (first
        | (refine wpList_load_mid rfl 107 (.tmp 10) rfl b (q + k * 6) rfl t.val _ HR.out Tryz.underlying107 rfl (by rw [s35]; rfl) ?_)
        | (at_builtin; refine wpList_append_own _ rfl (.tmp 12) (.tmp 14) 115 rfl w.heap.size 112 i0 (.agg #[.int .i64 0, .int .i64 0, .int .i64 0, .int .i64 0, .int .i64 0, .int .i64 0]) 6 48 Tryz.underlying115 hi hz0 hz1 hz2 rfl (by decide) _ k _ rfl ((hown.alloc _).alloc _) ⟨wr.heap.size + 1, 0, none⟩ 1 1 t.val rfl rfl (cells_new6' _ _ _ _ _ _ _ _ _) (by intro u hu; simp [Tel.val] at hu; rcases hu with rfl | rfl | rfl | rfl | rfl | rfl <;> rfl) (by unfold maxLen; omega) (by omega) (by simp; omega) ?_; intro v' w3 hown3 hgrow3 _))
      have hlt' := hown.lt
      go_roundw
      case rel => exact ⟨k + 1, by omega, by go_num, by rw [HS.out]; exact hown3, ((hnx.alloc (by omega) _).alloc (by simp; omega) _).grown hgrow3 (by simp; omega) (fun j hj => (hlt' j hj).1)⟩
      case measure => simp [intOf]; omega
    · obtain rfl : k = n := by omega
      have ho : wr.ownsRow w.heap.size 112 6 u3 k (L.flatMap Tel.val) := by
        have h := hown
        rwa [List.take_of_length_le (by have := HN.out; omega)] at h
      obtain ⟨a', c', hv, hA'⟩ := AnyTels.of_row HN.out.symm ho
      have HA := Lib.hid hA'
      have HX := Lib.hid hnx
      clear ho hown hA' hnx
      subst hv
      go_wp2
      go_ret
      exact ⟨_, _, rfl, HA.out, HX.out⟩

set_option maxRecDepth 100000 in
set_option maxHeartbeats 3200000 in
theorem mapped_tels (L : List Tel) (a : Option Addr) (n cp : Nat) (hm : n ≤ 512) (w : World) (hA : AnyTels w a n L) :
    Calls Tryz.prog 209 #[.slice a n cp, .func (.func 162) #[] #[]] w fun e w' =>
      e = .returned (.slice (some ⟨w.heap.size, 0, none⟩) n n) ∧ w'.ownsRow w.heap.size 26 1 (.slice (some ⟨w.heap.size, 0, none⟩) n n) n ((L.map Tel.err).map (Value.int .i64)) ∧ Below w.heap.size w w' := by
  obtain ⟨i0, hi, hz0, hz1, hz2⟩ := info_parts Tryz.info26_check
  have HC := Lib.hid hA.2
  have HN := Lib.hid hA.1.symm
  clear hA
  have s35 : (Tryz.prog.info? 112).map (·.size) = some 6 := by kernel_rfl
  go_enter Tryz.func209, Tryz.ntmps209
  go_wp2_with (at_make; refine wpList_make_own _ rfl _ _ 196 rfl w.heap.size 26 i0 (.int .i64 0) 1 Tryz.underlying196 hi hz0 hz1 _ _ _ n rfl rfl (by omega) ?b2 ?b3 (Nat.le_refl _) ?_)
  case b2 => rw [hz2]; omega
  case b3 => unfold maxLen; omega
  intro w0 hown0 hgrow0
  go_wp2
  go_loopw [5, 13] (fun out i wr => ∃ k : Nat, k ≤ n ∧ i = .int .i64 k ∧ out = .slice (some ⟨w.heap.size, 0, none⟩) k n ∧
      wr.ownsRow w.heap.size 26 1 (.slice (some ⟨w.heap.size, 0, none⟩) k n) k (((L.map Tel.err).take k).map (Value.int .i64)) ∧ Below w.heap.size w wr)
    (fun _ i _ => n - (intOf i).toNat)
  case atStart => exact ⟨0, Nat.zero_le _, rfl, rfl, hown0, (Below.refl _ _).grown hgrow0 (Nat.le_refl _) (fun k h => by cases h)⟩
  case round =>
    obtain ⟨k, hk, rfl, rfl, hown, hnx⟩ := hrel
    have hsz := hnx.size
    by_cases hlt : k < n
    · have hlt2 : k < L.length := by have := HN.out; omega
      obtain ⟨b, q, rfl, hb, hT0⟩ := HC.out k hlt
      have hT := hT0 k hlt2
      have hS := take_map_succ (Value.int .i64) (L.map Tel.err) k (by rw [List.length_map]; exact hlt2) 0
      have hE : (L.map Tel.err)[k]?.getD 0 = (L[k]?.getD tel0).err := by rw [List.getElem?_map, List.getElem?_eq_getElem hlt2]; rfl
      rw [hE] at hS
      clear hE
      obtain ⟨t, ht⟩ : ∃ t, L[k]?.getD tel0 = t := ⟨_, rfl⟩
      rw [ht] at hT hS
      have hr : wr.rangeAt b (q + k * 6) t.val := fun j v hv => by
        rw [hnx.cell (by exact hb)]
        exact hT j v hv
      have HR := Lib.hid hr
      have K := Lib.hid (checkTelegram_all t.s t.c t.o t.x t.y t.z)
      have HS := Lib.hid hS
      obtain ⟨r, hrr⟩ : ∃ r, t.err = r := ⟨_, rfl⟩
      rw [show telErr t.s t.c t.o t.x t.y t.z = r from hrr] at K
      rw [hrr] at HS
      clear ht hr hT hT0 hS hrr hlt2 HC
      have hv : t.val = [.int .i64 t.s, .int .i64 t.c, .int .i64 t.o, .int .i64 t.x, .int .i64 t.y, .int .i64 t.z] := rfl
      go_wp2_with (first
        | (refine wpList_load_mid rfl 112 (.tmp 15) rfl b (q + k * 6) rfl t.val _ HR.out Tryz.underlying112 rfl (by rw [s35]; rfl) ?_)
        | (go_at_call 162; refine (K.out _).mono ?_; rintro e w2 ⟨rfl, hb2⟩
           have hown2 := owns_kept (hown.alloc _) hb2 (Nat.le_refl _)
           have hs2 : wr.heap.size + 1 ≤ w2.heap.size := by simpa using hb2.size)
        | (at_builtin; refine wpList_append_fits _ rfl (.tmp 17) (.tmp 21) 196 rfl w.heap.size 26 i0 1 Tryz.underlying196 hi hz1 w.heap.size k n _ rfl (hown2.alloc _) ⟨w2.heap.size, 0, none⟩ 1 1 [.int .i64 r] rfl rfl (cell_one_new _ _ _) (by intro u hu; simp at hu; subst hu; rfl) (by omega) ?_; intro w1 hown1 hgrow1))
      have hB2 : Below w.heap.size w w2 := (hnx.alloc hsz _).trans (hb2.mono (by simp; omega))
      go_roundw
      case rel => exact ⟨k + 1, by omega, by go_num, rfl, by rw [HS.out]; exact hown1, (hB2.alloc (by omega) _).grown hgrow1 (by simp; omega) (fun j hj => by cases hj; exact Nat.le_refl _)⟩
      case measure => simp [intOf]; omega
    · go_wp2
      go_ret
      obtain rfl : k = n := by omega
      rw [List.take_of_length_le (by have := HN.out; rw [List.length_map]; omega)] at hown
      exact ⟨rfl, hown, hnx⟩

set_option maxRecDepth 100000 in
set_option maxHeartbeats 3200000 in
theorem countersOf_all (L : List Tel) (a : Option Addr) (n cp : Nat) (st : Int) (hm : n ≤ 512) (w : World) (hA : AnyTels w a n L) :
    Calls Tryz.prog 173 #[.slice a n cp, .int .i64 st] w fun e w' =>
      ∃ v, e = .returned v ∧ w'.ownsRow w.heap.size 3 1 v (countsOf L st).length ((countsOf L st).map (Value.int .i64)) ∧ Below w.heap.size w w' := by
  obtain ⟨i0, hi, hz0, hz1, hz2⟩ := info_parts Tryz.infoInt
  have HC := Lib.hid hA.2
  have HN := Lib.hid hA.1.symm
  clear hA
  have s35 : (Tryz.prog.info? 112).map (·.size) = some 6 := by kernel_rfl
  go_enter Tryz.func173, Tryz.ntmps173
  go_wp2
  go_loopw [5, 10] (fun out i wr => ∃ k : Nat, k ≤ n ∧ i = .int .i64 k ∧ wr.ownsRow w.heap.size 3 1 out (countsOf (L.take k) st).length ((countsOf (L.take k) st).map (Value.int .i64)) ∧ Below w.heap.size w wr)
    (fun _ i _ => n - (intOf i).toNat)
  case atStart => exact ⟨0, Nat.zero_le _, rfl, World.ownsRow_nil _ _ _ _, Below.refl _ _⟩
  case round =>
    obtain ⟨k, hk, rfl, hown, hnx⟩ := hrel
    have hsz : w.heap.size ≤ wr.heap.size := hnx.size
    by_cases hlt : k < n
    · obtain ⟨b, q, rfl, hb, hT0⟩ := HC.out k hlt
      have hT := hT0 k (by have := HN.out; omega)
      have hS := countsOf_succ L st k (by have := HN.out; omega)
      obtain ⟨t, ht⟩ : ∃ t, L[k]?.getD tel0 = t := ⟨_, rfl⟩
      rw [ht] at hT hS
      have hr : wr.rangeAt b (q + k * 6) t.val := fun j v hv => by
        rw [hnx.cell (by exact hb)]
        exact hT j v hv
      have HR := Lib.hid hr
      have HS := Lib.hid hS
      clear ht hr hT hT0 hS HC
      have hv : t.val = [.int .i64 t.s, .int .i64 t.c, .int .i64 t.o, .int .i64 t.x, .int .i64 t.y, .int .i64 t.z] := rfl
      have hcl := counts_len (L.take k) st
      have hcl2 : (L.take k).length ≤ k := by simp; omega
      by_cases hst : t.s = st
      · have HST := Lib.hid hst
        have hst1 : (t.s == st) = true := by simp [hst]
        clear hst
        go_wp2_with (first
          | (refine wpList_load_mid rfl 112 (.tmp 12) rfl b (q + k * 6) rfl t.val _ HR.out Tryz.underlying112 rfl (by rw [s35]; rfl) ?_)
          | (at_builtin; refine wpList_append_own _ rfl (.tmp 18) (.tmp 21) 25 rfl w.heap.size 3 i0 (.int .i64 0) 1 8 Tryz.underlying25 hi hz0 hz1 hz2 rfl (by decide) _ _ _ rfl ((hown.alloc _).alloc _) ⟨wr.heap.size + 1, 0, none⟩ 1 1 [.int .i64 t.c] rfl rfl (by have h := cell_one_new (wr.alloc (.cells #[.int .i64 t.s, .int .i64 t.c, .int .i64 t.o, .int .i64 t.x, .int .i64 t.y, .int .i64 t.z] 112)) (.int .i64 t.c) 3; simpa using h) (by intro u hu; simp at hu; subst hu; rfl) (by unfold maxLen; omega) (by omega) (by simp; omega) ?_; intro v' w3 hown3 hgrow3 _))
        have hlt' := hown.lt
        go_roundw
        case rel => exact ⟨k + 1, by omega, by go_num, by rw [HS.out, if_pos HST.out, List.map_append, List.length_append]; exact hown3, ((hnx.alloc hsz _).alloc (by simp; omega) _).grown hgrow3 (by simp; omega) (fun j hj => (hlt' j hj).1)⟩
        case measure => simp [intOf]; omega
      · go_wp2_with (first
          | (refine wpList_load_mid rfl 112 (.tmp 12) rfl b (q + k * 6) rfl t.val _ HR.out Tryz.underlying112 rfl (by rw [s35]; rfl) ?_))
        go_roundw
        case rel => exact ⟨k + 1, by omega, by go_num, by rw [HS.out, if_neg hst]; exact hown.alloc _, hnx.alloc hsz _⟩
        case measure => simp [intOf]; omega
    · go_wp2
      go_ret
      obtain rfl : k = n := by omega
      rw [List.take_of_length_le (by have := HN.out; omega)] at hown
      exact ⟨_, rfl, hown, hnx⟩
end Go.Proofs.YtfdkmmllemkogaaGreatDoor

/-
  Contract of missing for any counters: the counters between each one and the next, at most 257.
-/
namespace Go.Proofs.YtfdkmmllemkogaaGreatDoor
open Go.RowKit
set_option linter.unusedVariables false
set_option linter.unusedSimpArgs false

/-- The counter that is so many behind another one. -/
def onward (a : Int) (j : Nat) : Int := (a + 1 + (j : Int)) % 65536
/-- How many counters lie between two. -/
def wide (a b : Int) : Nat := ((b - a - 1) % 65536).toNat
def cyc (a b : Int) : List Int := (List.range (wide a b)).map (onward a)
def cycTo (xs : List Int) (k : Nat) : List Int := (List.range k).flatMap (fun i => cyc (xs[i]?.getD 0) (xs[i + 1]?.getD 0))
theorem cycTo_succ (xs : List Int) (k : Nat) : cycTo xs (k + 1) = cycTo xs k ++ cyc (xs[k]?.getD 0) (xs[k + 1]?.getD 0) := by
  simp [cycTo, List.range_succ]
theorem onward_bd (a : Int) (j : Nat) : 0 ≤ onward a j ∧ onward a j ≤ 65535 := by unfold onward; omega
theorem onward_succ (a : Int) (j : Nat) : (onward a j + 1) % 65536 = onward a (j + 1) := by unfold onward; push_cast; omega
theorem onward_0 (a : Int) : (a + 1) % 65536 = onward a 0 := by unfold onward; simp
theorem wide_bd (a b : Int) : wide a b ≤ 65535 := by unfold wide; omega
/-- It is the other one just behind as many. -/
theorem onward_eq {a b : Int} (hb : 0 ≤ b ∧ b ≤ 65535) {j : Nat} (hj : j ≤ wide a b) : onward a j = b ↔ j = wide a b := by
  unfold onward wide at *; omega

/-- What stands between the first so many and the next ones. -/
def someOf (pre : List Int) (a : Int) (j : Nat) : List Int := pre ++ (List.range j).map (onward a)
theorem someOf_succ (pre : List Int) (a : Int) (j : Nat) : (someOf pre a (j + 1)).map (Value.int .i64) = (someOf pre a j).map (Value.int .i64) ++ [.int .i64 (onward a j)] := by
  simp [someOf, List.range_succ]
theorem someOf_len (pre : List Int) (a : Int) (j : Nat) : (someOf pre a j).length = pre.length + j := by simp [someOf]
theorem someOf_all (xs : List Int) (k : Nat) : someOf (cycTo xs k) (xs[k]?.getD 0) (wide (xs[k]?.getD 0) (xs[k + 1]?.getD 0)) = cycTo xs (k + 1) := by
  rw [cycTo_succ]; rfl
theorem cycTo_pre (xs : List Int) : ∀ (m k : Nat), k ≤ m → (cycTo xs k).isPrefixOf (cycTo xs m) = true := by
  intro m
  induction m with
  | zero => intro k hk; obtain rfl : k = 0 := by omega
            simp
  | succ m ih =>
    intro k hk
    by_cases h : k = m + 1
    · subst h; simp
    · have h1 := ih k (by omega)
      rw [List.isPrefixOf_iff_prefix] at h1 ⊢
      rw [cycTo_succ]
      exact h1.trans (List.prefix_append _ _)
theorem someOf_pre (xs : List Int) (k m j : Nat) (hk : k + 1 ≤ m) (hj : j ≤ wide (xs[k]?.getD 0) (xs[k + 1]?.getD 0)) : (someOf (cycTo xs k) (xs[k]?.getD 0) j) <+: (cycTo xs m) := by
  have h1 := cycTo_pre xs m (k + 1) hk
  rw [List.isPrefixOf_iff_prefix] at h1
  refine List.IsPrefix.trans ?_ h1
  rw [← someOf_all]
  unfold someOf
  refine (List.prefix_append_right_inj _).2 ?_
  refine List.IsPrefix.map _ ?_
  obtain ⟨d, hd⟩ : ∃ d, wide (xs[k]?.getD 0) (xs[k + 1]?.getD 0) = j + d := ⟨_, (Nat.add_sub_of_le hj).symm⟩
  rw [hd, List.range_add]
  exact List.prefix_append _ _
/-- A part of 257 at the front. -/
theorem take_of_pre {l m : List Int} (h : l <+: m) (hl : l.length = 257) : m.take 257 = l := by
  obtain ⟨t, rfl⟩ := h
  rw [List.take_append_of_le_length (by omega), List.take_of_length_le (by omega)]

set_option maxRecDepth 100000 in
set_option maxHeartbeats 6400000 in
theorem missing_all (xs : List Int) (n g c : Nat) (hA : ∀ j, j < n → 0 ≤ xs[j]?.getD 0 ∧ xs[j]?.getD 0 ≤ 65535) (hn1 : 1 ≤ n) (hm : n ≤ 512) (w : World) (hg : g < w.heap.size) (hc : ∀ j, j < n → w.cell? ⟨g, j, none⟩ = some (.int .i64 (xs[j]?.getD 0))) :
    Calls Tryz.prog 172 #[.slice (some ⟨g, 0, none⟩) n c, .int .i64 257] w fun e w' =>
      ∃ v, e = .returned v ∧ w'.ownsRow w.heap.size 3 1 v ((cycTo xs (n - 1)).take 257).length (((cycTo xs (n - 1)).take 257).map (Value.int .i64)) ∧ Below w.heap.size w w' := by
  obtain ⟨i0, hi, hz0, hz1, hz2⟩ := info_parts Tryz.infoInt
  have HC := Lib.hid hc
  have HA := Lib.hid hA
  clear hc hA
  have j1 : ((1 : Int) ≤ (n : Int)) := by omega
  have j2 : ((n : Int) ≤ 512) := by omega
  go_enter Tryz.func172, Tryz.ntmps172
  go_wp2
  go_step3
  go_wp2
  go_step3
  go_wp2
  go_loopw [5, 13] (fun out i wr => ∃ k : Nat, k ≤ n - 1 ∧ i = .int .i64 k ∧ (cycTo xs k).length ≤ 257 ∧ wr.ownsRow w.heap.size 3 1 out (cycTo xs k).length ((cycTo xs k).map (Value.int .i64)) ∧ Below w.heap.size w wr)
    (fun _ i _ => n - (intOf i).toNat)
  case atStart => exact ⟨0, Nat.zero_le _, rfl, by simp [cycTo], World.ownsRow_nil _ _ _ _, Below.refl _ _⟩
  case round =>
    obtain ⟨k, hk, rfl, hlen, hown, hnx⟩ := hrel
    have hsz := hnx.size
    by_cases hlt : k + 1 < n
    · have c0 : wr.cell? ⟨g, k, none⟩ = some (.int .i64 (xs[k]?.getD 0)) := (hnx.cell (by exact hg)).trans (HC.out k (by omega))
      have c1 : wr.cell? ⟨g, k + 1, none⟩ = some (.int .i64 (xs[k + 1]?.getD 0)) := (hnx.cell (by exact hg)).trans (HC.out (k + 1) hlt)
      have hb0 := HA.out k (by omega)
      have hb1 := HA.out (k + 1) hlt
      have hS := someOf_all xs k
      have hP := fun j hj => someOf_pre xs k (n - 1) j (by omega) hj
      have hQ := fun j => @onward_eq (xs[k]?.getD 0) _ hb1 j
      obtain ⟨a, ha⟩ : ∃ a, xs[k]?.getD 0 = a := ⟨_, rfl⟩
      obtain ⟨b, hb⟩ : ∃ b, xs[k + 1]?.getD 0 = b := ⟨_, rfl⟩
      obtain ⟨pre, hpre⟩ : ∃ pre, cycTo xs k = pre := ⟨_, rfl⟩
      rw [ha] at c0 hb0 hS hP hQ
      rw [hb] at c1 hb1 hS hP hQ
      rw [hpre] at hown hlen hS hP
      have HS := Lib.hid hS
      have HP := Lib.hid hP
      have HQ := Lib.hid hQ
      obtain ⟨Wd, hWide⟩ : ∃ Wd : Nat, wide a b = Wd := ⟨_, rfl⟩
      have hWb := wide_bd a b
      rw [hWide] at HS HP HQ hWb
      clear ha hb hpre hS hP hQ hWide
      have hltI : ((k : Int) < (n : Int) - 1) := by omega
      have k0 : ((k : Int) < (n : Int)) := by omega
      have k1 : ((k : Int) + 1 < (n : Int)) := by omega
      have k2 : ((0 : Int) ≤ (k : Int) + 1) := by omega
      have k3 : ((k : Int) + 1).toNat = k + 1 := by omega
      have k4 : IntKind.i64.wrap ((k : Int) + 1) = (k : Int) + 1 := IntWalk.i64_in _ ⟨by omega, by omega⟩
      go_wp2_with fail
      go_region_held3 (fun w' => w'.cell? ⟨g, k, none⟩ = some (.int .i64 a) ∧ w'.cell? ⟨g, k + 1, none⟩ = some (.int .i64 b)) (go_keep) (fail)
      have KF : Hid (∀ w, Calls Tryz.prog 210 #[.int .i64 a] w fun e w' => e = .returned (.int .i64 (onward a 0)) ∧ w = w') := Lib.hid fun w => by
        have h := following_any a hb0.1 hb0.2 w
        rwa [onward_0] at h
      go_wp2_with (go_at_call 210; refine (KF.out _).mono ?_; rintro e w' ⟨rfl, rfl⟩)
      obtain ⟨WD, hWd⟩ : ∃ WD, wr.drew = WD := ⟨_, rfl⟩
      have hownd : WD.ownsRow w.heap.size 3 1 u5 (pre.length) (pre.map (Value.int .i64)) := by rw [← hWd]; exact hown
      have hBd : Below w.heap.size w WD := by rw [← hWd]; exact hnx.drew
      rw [hWd]
      clear hWd hown c0 c1 KF
      go_loopw [5, 9] (fun out i wi => ∃ j : Nat, j ≤ Wd ∧ i = .int .i64 (onward a j) ∧ (someOf pre a j).length ≤ 257 ∧ wi.ownsRow w.heap.size 3 1 out (someOf pre a j).length ((someOf pre a j).map (Value.int .i64)) ∧ Below w.heap.size w wi)
        (fun out i _ => match out with | .slice _ l _ => 300 - l | _ => 0)
      case atStart => exact ⟨0, by omega, rfl, by simpa [someOf] using hlen, by simpa [someOf] using hownd, hBd⟩
      case round =>
        obtain ⟨j, hj, rfl, hln, hown, hnx2⟩ := hrel
        have hsz2 := hnx2.size
        by_cases hjl : j < Wd
        · have hne : (onward a j != b) = true := by
            have h := (HQ.out j hj).1
            simp; intro h2; have := h h2; omega
          have hob := onward_bd a j
          have hos := onward_succ a j
          have hsu := someOf_succ pre a j
          have hsl := someOf_len pre a (j + 1)
          have hsl0 := someOf_len pre a j
          have hPj := HP.out j hj
          obtain ⟨S, hSd⟩ : ∃ S, someOf pre a j = S := ⟨_, rfl⟩
          obtain ⟨S1, hSd1⟩ : ∃ S1, someOf pre a (j + 1) = S1 := ⟨_, rfl⟩
          rw [hSd] at hsl0 hln hown hsu hPj
          rw [hSd1] at hsl hsu
          obtain ⟨ℓ, hℓ⟩ : ∃ ℓ, S.length = ℓ := ⟨_, rfl⟩
          obtain ⟨x, hx⟩ : ∃ x, onward a j = x := ⟨_, rfl⟩
          obtain ⟨x1, hx1⟩ : ∃ x1, onward a (j + 1) = x1 := ⟨_, rfl⟩
          rw [hx] at hne hob hos hsu ⊢
          rw [hx1] at hos
          rw [hℓ] at hown hln hsl0
          have hl1 : S1.length = ℓ + 1 := by omega
          obtain ⟨ao, cc, rfl⟩ := owns_slice hown
          by_cases h257 : ℓ = 257
          · have hT := take_of_pre hPj (by omega)
            have e0 : ((ℓ : Int) == 257) = true := by simp [h257]
            have HT : Hid ((cycTo xs (n - 1)).take 257 = S ∧ S.length = ℓ) := Lib.hid ⟨hT, hℓ⟩
            have HO := Lib.hid hown
            have HX := Lib.hid hnx2
            clear hT hown hnx2 hPj hℓ hsl hsl0 hsu hos hl1 hSd hSd1 hx hx1 h257
            go_wp2
            try rw [Exit.noGoto_ret]
            go_ret
            exact ⟨_, rfl, by rw [HT.out.1, HT.out.2]; exact HO.out, HX.out⟩
          · have e0 : ((ℓ : Int) == 257) = false := by simp; omega
            have KG : Hid (∀ w, Calls Tryz.prog 210 #[.int .i64 x] w fun e w' => e = .returned (.int .i64 x1) ∧ w = w') := Lib.hid fun w => by
              have h := following_any x hob.1 hob.2 w
              rwa [hos] at h
            have HSU := Lib.hid hsu
            have HD := Lib.hid (And.intro hSd1 hx1)
            have HL1 := Lib.hid hl1
            have hℓ2 : ℓ ≤ 256 := by omega
            clear hPj hℓ hsl hsl0 hsu hos hl1 hSd hSd1 hx hx1 h257
            go_wp2_with (first
              | (go_at_call 210; refine (KG.out _).mono ?_; rintro e w' ⟨rfl, rfl⟩)
              | (at_builtin; refine wpList_append_own _ rfl (.tmp 36) (.tmp 38) 25 rfl w.heap.size 3 i0 (.int .i64 0) 1 8 Tryz.underlying25 hi hz0 hz1 hz2 rfl (by decide) _ _ _ rfl (hown.alloc _) ⟨wr.heap.size, 0, none⟩ 1 1 [.int .i64 x] rfl rfl (cell_one_new _ _ _) (by intro u hu; simp at hu; subst hu; rfl) (by unfold maxLen; omega) (by omega) (by simp; omega) ?_; intro v' w3 hown3 hgrow3 _))
            have hlt' := hown.lt
            go_roundw
            case rel =>
              refine ⟨j + 1, by omega, by rw [HD.out.2], by rw [HD.out.1, HL1.out]; omega, ?_, (hnx2.alloc hsz2 _).grown hgrow3 (by simp; omega) (fun q hq => (hlt' q hq).1)⟩
              rw [HD.out.1, HSU.out, HL1.out]
              exact hown3
            case measure =>
              obtain ⟨ao', cc', hv'⟩ := owns_slice hown3
              subst hv'
              simp; omega
        · have hje : j = Wd := by omega
          have hne : (onward a j != b) = false := by
            have h := (HQ.out j hj).2 hje
            simp [h]
          subst hje
          have HO := Lib.hid hown
          have HX := Lib.hid hnx2
          have HLN := Lib.hid hln
          clear hown hnx2 hln
          go_wp2
          go_roundw
          case rel => exact ⟨k + 1, by omega, by go_num, by rw [← HS.out]; exact HLN.out, by rw [← HS.out]; exact HO.out, HX.out⟩
          case measure => simp [intOf]; omega
    · have hltI : ¬ ((k : Int) < (n : Int) - 1) := by omega
      obtain rfl : k = n - 1 := by omega
      have hT : (cycTo xs (n - 1)).take 257 = cycTo xs (n - 1) := List.take_of_length_le hlen
      have HT := Lib.hid hT
      have HO := Lib.hid hown
      have HX := Lib.hid hnx
      clear hT hown hnx
      go_wp2
      try rw [Exit.noGoto_ret]
      go_ret
      exact ⟨_, rfl, by rw [HT.out]; exact HO.out, HX.out⟩
end Go.Proofs.YtfdkmmllemkogaaGreatDoor

/-
  Contract of Lost for any telegrams and any station.
-/
namespace Go.Proofs.YtfdkmmllemkogaaGreatDoor
open Go.RowKit
set_option linter.unusedVariables false
set_option linter.unusedSimpArgs false

theorem counts_bd (L : List Tel) (st : Int) (h : ∀ t ∈ L, t.Good) (j : Nat) (hj : j < (countsOf L st).length) : 0 ≤ (countsOf L st)[j]?.getD 0 ∧ (countsOf L st)[j]?.getD 0 ≤ 65535 := by
  have hm : (countsOf L st)[j]?.getD 0 ∈ countsOf L st := by
    rw [List.getElem?_eq_getElem hj]; exact List.getElem_mem hj
  generalize (countsOf L st)[j]?.getD 0 = x at hm
  unfold countsOf at hm
  obtain ⟨t, ht, rfl⟩ := List.mem_map.1 hm
  exact (h t (List.mem_filter.1 ht).1).ct
theorem firstNZ_append (a b : List Int) : firstNZ (a ++ b) = if firstNZ a = 0 then firstNZ b else firstNZ a := by
  induction a with
  | nil => simp [firstNZ]
  | cons x r ih =>
    rw [List.cons_append, firstNZ, firstNZ]
    by_cases h : x = 0
    · simp [h, ih]
    · simp [h]
theorem firstNZ_mem {l : List Int} (h : firstNZ l = 0) : ∀ x ∈ l, x = 0 := by
  induction l with
  | nil => simp
  | cons x r ih =>
    rw [firstNZ] at h
    by_cases h0 : x = 0
    · simp only [h0, ne_eq, not_true, if_false] at h
      intro y hy
      rcases List.mem_cons.1 hy with rfl | hy
      · exact h0
      · exact ih h y hy
    · simp [h0] at h
theorem telsErr_good {L : List Tel} (h : telsErr L = 0) : ∀ t ∈ L, t.Good := fun t ht => by
  have h1 := firstNZ_mem h t.err (List.mem_map.2 ⟨t, ht, rfl⟩)
  rcases t.err_or with ⟨_, hg⟩ | h3
  · exact hg
  · rw [h3] at h1; cases h1

/-- The counters that are lost, and the error. -/
def lostL (L : List Tel) (st : Int) : List Int := cycTo (countsOf L st) ((countsOf L st).length - 1)
noncomputable def argErr (L : List Tel) (st : Int) : Int := firstNZ [telsErr L, rangeErr st 0 255]
noncomputable def lostErr (L : List Tel) (st : Int) : Int := if argErr L st ≠ 0 then argErr L st else if 256 < (lostL L st).length then 5 else 0
noncomputable def lostN (L : List Tel) (st : Int) : Nat := if lostErr L st = 0 then (lostL L st).length else 0
theorem argErr_app (L : List Tel) (st : Int) : firstNZ (L.map Tel.err ++ [rangeErr st 0 255]) = argErr L st := by
  unfold argErr telsErr
  rw [firstNZ_append]
  by_cases h : firstNZ (L.map Tel.err) = 0
  · rw [if_pos h, h]; simp [firstNZ]
  · rw [if_neg h]
    rw [firstNZ, if_pos h]
theorem argErr_zero {L : List Tel} {st : Int} (h : argErr L st = 0) : telsErr L = 0 ∧ 0 ≤ st ∧ st ≤ 255 := by
  obtain ⟨h1, h2⟩ := firstNZ_two h
  exact ⟨h1, rangeErr_zero h2⟩
theorem nil_slice {w : World} {B T sz : Nat} {v : Value} {xs : List Value} (h : w.ownsRow B T sz v 0 xs) : ∃ a c, v = .slice a 0 c := by
  rcases h.2 with ⟨rfl, _⟩ | ⟨g, cap, cur, rfl, _⟩
  · exact ⟨_, _, rfl⟩
  · exact ⟨_, _, rfl⟩

/-- missing at a slice that owns counters, or at none. -/
theorem missing_row (xs : List Int) (n : Nat) (hl : xs.length = n) (hA : ∀ j, j < n → 0 ≤ xs[j]?.getD 0 ∧ xs[j]?.getD 0 ≤ 65535) (hm : n ≤ 512) (w : World) (B : Nat) (v : Value) (h : w.ownsRow B 3 1 v n (xs.map (Value.int .i64))) :
    Calls Tryz.prog 172 #[v, .int .i64 257] w fun e w' =>
      ∃ v', e = .returned v' ∧ w'.ownsRow w.heap.size 3 1 v' ((cycTo xs (n - 1)).take 257).length (((cycTo xs (n - 1)).take 257).map (Value.int .i64)) ∧ Below w.heap.size w w' := by
  by_cases hn : 1 ≤ n
  · obtain ⟨g, c, rfl, hg, _⟩ := owns_some h hn
    exact missing_all xs n g c hA hn hm w hg (fun j hj => owns_cell h (by
      rw [List.getElem?_map, List.getElem?_eq_getElem (by rw [hl]; exact hj)]; rfl))
  · obtain rfl : n = 0 := by omega
    obtain ⟨ao, c, rfl⟩ := nil_slice h
    exact (missing_none ao c w).mono fun e w' ⟨he, hw⟩ => ⟨_, he, by subst hw; exact World.ownsRow_nil _ _ _ _, by subst hw; exact Below.refl _ _⟩

set_option maxRecDepth 100000 in
set_option maxHeartbeats 3200000 in
theorem checkList_tels (L : List Tel) (a : Option Addr) (n cp : Nat) (hm : n ≤ 512) (w : World) (hA : AnyTels w a n L) :
    Calls Tryz.prog 171 #[.slice a n cp, .int .i64 512, .func (.func 162) #[] #[]] w fun e w' =>
      e = .returned (.int .i64 (telsErr L)) ∧ Below w.heap.size w w' := by
  have K1 := Lib.hid (mapped_tels L a n cp hm w hA)
  have HN := Lib.hid hA.1.symm
  have i1 : ((n : Int) ≤ 512) := by omega
  clear hA
  go_enter Tryz.func171, Tryz.ntmps171
  go_wp2_with (first
    | (go_at_call 209; refine K1.out.mono ?_; rintro e w1 ⟨rfl, hown1, hb1⟩
       have HZ : Hid (∀ j, j < n → w1.cell? ⟨w.heap.size, 0 + j, none⟩ = some (.int .i64 ((L.map Tel.err)[j]?.getD 0))) := Lib.hid fun j hj => by
         rw [Nat.zero_add]
         refine owns_cell hown1 ?_
         first
           | (rw [List.getElem?_map, List.getElem?_eq_getElem (by have := HN.out; simp; omega)]; rfl)
           | (rw [List.getElem?_map, List.getElem?_map, List.getElem?_eq_getElem (by have := HN.out; omega)]; rfl)
       have HB := Lib.hid hb1
       clear hown1 hb1)
    | (go_at_call 109; refine (first_any _ 0 _ _ (L.map Tel.err) (by have := HN.out; simp; omega) (by omega) _ HZ.out).mono ?_; rintro e w' ⟨rfl, rfl⟩))
  go_ret
  exact ⟨rfl, HB.out⟩

set_option maxRecDepth 100000 in
set_option maxHeartbeats 3200000 in
theorem checkList_many (a : Option Addr) (cp : Nat) (w : World) :
    Calls Tryz.prog 171 #[.slice a 513 cp, .int .i64 512, .func (.func 162) #[] #[]] w fun e w' => e = .returned (.int .i64 5) ∧ w = w' := by
  go_enter Tryz.func171, Tryz.ntmps171
  go_wp2
  go_ret
  exact ⟨rfl, rfl⟩
theorem pair_at (w : World) (x y : Int) (T : TypeId) : ∀ j, j < 2 → (w.alloc (.cells #[.int .i64 x, .int .i64 y] T)).cell? ⟨w.heap.size, 0 + j, none⟩ = some (.int .i64 (([x, y] : List Int)[j]?.getD 0)) := fun j hj => by
  match j, hj with
  | 0, _ => simp [go_sem]
  | 1, _ => simp [go_sem]

set_option maxRecDepth 100000 in
set_option maxHeartbeats 3200000 in
theorem lost_many (a : Option Addr) (cp : Nat) (st : Int) (w : World) :
    Calls Tryz.prog 84 #[.slice a 513 cp, .int .i64 st] w fun e w' => e = .returned (.tuple #[.slice none 0 0, .int .i64 5]) ∧ Below w.heap.size w w' := by
  have hf : firstNZ [5, rangeErr st 0 255] = 5 := by simp [firstNZ]
  go_enter Tryz.func84, Tryz.ntmps84
  go_wp2_with (first
    | (go_at_call 171; refine (checkList_many _ _ _).mono ?_; rintro e w1 ⟨rfl, rfl⟩)
    | (go_at_call 110; refine (checkRange_any _ _ _ _).mono ?_; rintro e w' ⟨rfl, rfl⟩)
    | (go_at_call 109; refine (first_any _ 0 2 2 [5, rangeErr st 0 255] rfl (by decide) _ (pair_at _ _ _ _)).mono ?_; rintro e w' ⟨rfl, rfl⟩; rw [hf]))
  go_ret2
  exact ⟨rfl, (Below.refl _ _).alloc (Nat.le_refl _) _⟩

set_option maxRecDepth 100000 in
set_option maxHeartbeats 3200000 in
theorem lost_bad (L : List Tel) (a : Option Addr) (n cp : Nat) (st : Int) (hm : n ≤ 512) (w : World) (hA : AnyTels w a n L) (h0 : argErr L st ≠ 0) :
    Calls Tryz.prog 84 #[.slice a n cp, .int .i64 st] w fun e w' => e = .returned (.tuple #[.slice none 0 0, .int .i64 (argErr L st)]) ∧ Below w.heap.size w w' := by
  have K1 := Lib.hid (checkList_tels L a n cp hm w hA)
  obtain ⟨r, hr⟩ : ∃ r, argErr L st = r := ⟨_, rfl⟩
  have HR : Hid (firstNZ [telsErr L, rangeErr st 0 255] = r) := Lib.hid hr
  rw [hr] at h0 ⊢
  have e0 : (r != 0) = true := by simp [h0]
  clear hA hr h0
  go_enter Tryz.func84, Tryz.ntmps84
  go_wp2_with (first
    | (go_at_call 171; refine K1.out.mono ?_; rintro e w1 ⟨rfl, hb1⟩)
    | (go_at_call 110; refine (checkRange_any _ _ _ _).mono ?_; rintro e w' ⟨rfl, rfl⟩)
    | (go_at_call 109; refine (first_any _ 0 2 2 [telsErr L, rangeErr st 0 255] rfl (by decide) _ (pair_at _ _ _ _)).mono ?_; rintro e w' ⟨rfl, rfl⟩; rw [HR.out]))
  go_ret2
  exact ⟨rfl, hb1.alloc hb1.size _⟩

set_option maxRecDepth 100000 in
set_option maxHeartbeats 6400000 in
theorem lost_good (L : List Tel) (a : Option Addr) (n cp : Nat) (st : Int) (hm : n ≤ 512) (w : World) (hA : AnyTels w a n L) (h0 : argErr L st = 0) :
    Calls Tryz.prog 84 #[.slice a n cp, .int .i64 st] w fun e w' => ∃ v, e = .returned (.tuple #[v, .int .i64 (lostErr L st)]) ∧ IntsV w' v (lostN L st) (lostL L st) ∧ Below w.heap.size w w' := by
  obtain ⟨hg, hst⟩ := argErr_zero h0
  have hgood := telsErr_good hg
  have K1 := Lib.hid (checkList_tels L a n cp hm w hA)
  have K2 := Lib.hid (fun (w' : World) (h2 : AnyTels w' a n L) => countersOf_all L a n cp st hm w' h2)
  have hcl := counts_len L st
  have hln := hA.1
  have K3 := Lib.hid (fun (w' : World) (B : Nat) (v : Value) h => missing_row (countsOf L st) _ rfl (counts_bd L st hgood) (by omega) w' B v h)
  have HA := Lib.hid hA
  have HR : Hid (firstNZ [telsErr L, rangeErr st 0 255] = 0) := Lib.hid h0
  have hE : lostErr L st = if 256 < (lostL L st).length then 5 else 0 := by unfold lostErr; rw [if_neg (by simp [h0])]
  have K4 : Hid (∀ (w' : World) (B : Nat) (v : Value), w'.ownsRow B 3 1 v (countsOf L st).length ((countsOf L st).map (Value.int .i64)) → Calls Tryz.prog 172 #[v, .int .i64 257] w' fun e w'' =>
      ∃ v', e = .returned v' ∧ w''.ownsRow w'.heap.size 3 1 v' ((lostL L st).take 257).length (((lostL L st).take 257).map (Value.int .i64)) ∧ Below w'.heap.size w' w'') := K3
  unfold lostN
  rw [hE]
  obtain ⟨R, hR⟩ : ∃ R, lostL L st = R := ⟨_, rfl⟩
  rw [hR] at K4 ⊢
  clear hA hR K3 hg hst hgood hcl hln hE h0
  by_cases hlen : 256 < R.length
  · rw [if_pos hlen]
    have hT : (R.take 257).length = 257 := by rw [List.length_take]; omega
    rw [hT] at K4
    clear hT hlen
    go_enter Tryz.func84, Tryz.ntmps84
    go_wp2_with (first
      | (go_at_call 171; refine K1.out.mono ?_; rintro e w1 ⟨rfl, hb1⟩)
      | (go_at_call 110; refine (checkRange_any _ _ _ _).mono ?_; rintro e w' ⟨rfl, rfl⟩)
      | (go_at_call 109; refine (first_any _ 0 2 2 [telsErr L, rangeErr st 0 255] rfl (by decide) _ (pair_at _ _ _ _)).mono ?_; rintro e w' ⟨rfl, rfl⟩; rw [HR.out]
         have hb3 : Below w.heap.size w (w1.alloc (.cells #[.int .i64 (telsErr L), .int .i64 (rangeErr st 0 255)] 26)) := hb1.alloc hb1.size _
         have hw3 := hb3.size
         have hc3 := HA.out.kept hb3
         have K5 := Lib.hid (K2.out _ hc3)
         clear hc3)
      | (go_at_call 173; refine K5.out.mono ?_; rintro e w4 ⟨v4, rfl, hown4, hb4⟩
         have K6 := Lib.hid (K4.out w4 _ _ hown4)
         have hb5 : Below w.heap.size w w4 := hb3.trans (hb4.mono hw3))
      | (go_at_call 172; refine K6.out.mono ?_; rintro e w6 ⟨v6, rfl, hown6, hb6⟩
         obtain ⟨ao, c6, rfl⟩ := owns_slice hown6
         have hb7 : Below w.heap.size w w6 := hb5.trans (hb6.mono hb5.size)))
    go_ret2
    exact ⟨_, rfl, IntsV.nil _ _, hb7⟩
  · rw [if_neg hlen]
    have hT : R.take 257 = R := List.take_of_length_le (by omega)
    rw [hT] at K4
    have i2 : ¬ ((256 : Int) < (R.length : Int)) := by omega
    obtain ⟨ℓ, hℓ⟩ : ∃ ℓ, R.length = ℓ := ⟨_, rfl⟩
    rw [hℓ] at K4 i2 ⊢
    clear hT hlen hℓ
    go_enter Tryz.func84, Tryz.ntmps84
    go_wp2_with (first
      | (go_at_call 171; refine K1.out.mono ?_; rintro e w1 ⟨rfl, hb1⟩)
      | (go_at_call 110; refine (checkRange_any _ _ _ _).mono ?_; rintro e w' ⟨rfl, rfl⟩)
      | (go_at_call 109; refine (first_any _ 0 2 2 [telsErr L, rangeErr st 0 255] rfl (by decide) _ (pair_at _ _ _ _)).mono ?_; rintro e w' ⟨rfl, rfl⟩; rw [HR.out]
         have hb3 : Below w.heap.size w (w1.alloc (.cells #[.int .i64 (telsErr L), .int .i64 (rangeErr st 0 255)] 26)) := hb1.alloc hb1.size _
         have hw3 := hb3.size
         have hc3 := HA.out.kept hb3
         have K5 := Lib.hid (K2.out _ hc3)
         clear hc3)
      | (go_at_call 173; refine K5.out.mono ?_; rintro e w4 ⟨v4, rfl, hown4, hb4⟩
         have K6 := Lib.hid (K4.out w4 _ _ hown4)
         have hb5 : Below w.heap.size w w4 := hb3.trans (hb4.mono hw3))
      | (go_at_call 172; refine K6.out.mono ?_; rintro e w6 ⟨v6, rfl, hown6, hb6⟩
         obtain ⟨ao, c6, rfl⟩ := owns_slice hown6
         have hb7 : Below w.heap.size w w6 := hb5.trans (hb6.mono hb5.size)))
    go_ret2
    exact ⟨_, rfl, IntsV.of_row hown6, hb7⟩

theorem lost_all (L : List Tel) (a : Option Addr) (n cp : Nat) (st : Int) (hm : n ≤ 512) (w : World) (hA : AnyTels w a n L) :
    Calls Tryz.prog 84 #[.slice a n cp, .int .i64 st] w fun e w' => ∃ v, e = .returned (.tuple #[v, .int .i64 (lostErr L st)]) ∧ IntsV w' v (lostN L st) (lostL L st) ∧ Below w.heap.size w w' := by
  by_cases h0 : argErr L st = 0
  · exact lost_good L a n cp st hm w hA h0
  · have hE : lostErr L st = argErr L st := by unfold lostErr; rw [if_pos h0]
    refine (lost_bad L a n cp st hm w hA h0).mono ?_
    rintro e w' ⟨rfl, hb⟩
    refine ⟨_, by rw [hE], ?_, hb⟩
    unfold lostN
    rw [hE, if_neg h0]
    exact IntsV.nil _ _
end Go.Proofs.YtfdkmmllemkogaaGreatDoor
