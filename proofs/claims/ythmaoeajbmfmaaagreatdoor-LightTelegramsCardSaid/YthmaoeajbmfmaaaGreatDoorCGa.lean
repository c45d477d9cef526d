/-
  Contracts of limited and checkTelegram for every telegram.
-/
import Derived.Test.YthmaoeajbmfmaaaGreatDoorCWp
namespace Go.Proofs.YthmaoeajbmfmaaaGreatDoor
open Go.RowKit
set_option linter.unusedVariables false
set_option linter.unusedSimpArgs false

/-- A number brought into its range. -/
def clamp (lo hi n : Int) : Int := min (max n lo) hi
theorem clamp_in {lo hi n : Int} (h1 : lo ≤ n) (h2 : n ≤ hi) : clamp lo hi n = n := by unfold clamp; omega
theorem clamp_out {lo hi n : Int} (h : lo ≤ hi) (h1 : ¬ (lo ≤ n ∧ n ≤ hi)) : clamp lo hi n ≠ n := by unfold clamp; omega
theorem run_maxL (n m : Int) : ∀ (ts : Array TypeId) (t : TypeId) (w : World), (Builtin.max_ ts t #[.int .i64 n, .int .i64 m]).run Tryz.prog w = .ok (.int .i64 (max n m)) w := fun ts t w => by
  rw [run_max_int2]
  by_cases h : n < m
  · rw [if_pos h, show max n m = m by omega]
  · rw [if_neg h, show max n m = n by omega]
theorem run_minL (n m : Int) : ∀ (ts : Array TypeId) (t : TypeId) (w : World), (Builtin.min_ ts t #[.int .i64 n, .int .i64 m]).run Tryz.prog w = .ok (.int .i64 (min n m)) w := fun ts t w => by
  rw [run_min_int2]
  by_cases h : m < n
  · rw [if_pos h, show min n m = m by omega]
  · rw [if_neg h, show min n m = n by omega]

set_option maxHeartbeats 800000 in
theorem reach_all (n : Int) (w : World) :
    Calls Tryz.prog 172 #[.int .i64 n] w fun e w' => e = .returned (.int .i64 (clamp (-1048576) 1048576 n)) ∧ w = w' := by
  have m1 := run_maxL n (-1048576)
  obtain ⟨a, ha⟩ : ∃ a : Int, max n (-1048576) = a := ⟨_, rfl⟩
  rw [ha] at m1
  have n1 := run_minL a 1048576
  obtain ⟨b, hb⟩ : ∃ b : Int, min a 1048576 = b := ⟨_, rfl⟩
  rw [hb] at n1
  have e : clamp (-1048576) 1048576 n = b := by unfold clamp; rw [ha, hb]
  rw [e]
  clear ha hb e
  go_enter Tryz.func172, Tryz.ntmps172
  go_wp2
  go_ret
  exact ⟨rfl, rfl⟩

set_option maxRecDepth 100000 in
set_option maxHeartbeats 1600000 in
theorem limited_all (s c o x y z : Int) (w : World) :
    Calls Tryz.prog 145 #[.agg #[.int .i64 s, .int .i64 c, .int .i64 o, .int .i64 x, .int .i64 y, .int .i64 z]] w fun e w' =>
      e = .returned (.agg #[.int .i64 (clamp 0 255 s), .int .i64 (clamp 0 65535 c), .int .i64 (clamp 0 255 o), .int .i64 (clamp (-1048576) 1048576 x), .int .i64 (clamp (-1048576) 1048576 y), .int .i64 (clamp (-1048576) 1048576 z)]) ∧ Below w.heap.size w w' := by
  have m1 := run_maxL s 0
  obtain ⟨a1, ha1⟩ : ∃ a : Int, max s 0 = a := ⟨_, rfl⟩
  rw [ha1] at m1
  have n1 := run_minL a1 255
  obtain ⟨s', hv1⟩ : ∃ b : Int, min a1 255 = b := ⟨_, rfl⟩
  rw [hv1] at n1
  rw [show clamp 0 255 s = s' by unfold clamp; rw [ha1, hv1]]
  clear ha1 hv1
  have m2 := run_maxL c 0
  obtain ⟨a2, ha2⟩ : ∃ a : Int, max c 0 = a := ⟨_, rfl⟩
  rw [ha2] at m2
  have n2 := run_minL a2 65535
  obtain ⟨c', hv2⟩ : ∃ b : Int, min a2 65535 = b := ⟨_, rfl⟩
  rw [hv2] at n2
  rw [show clamp 0 65535 c = c' by unfold clamp; rw [ha2, hv2]]
  clear ha2 hv2
  have m3 := run_maxL o 0
  obtain ⟨a3, ha3⟩ : ∃ a : Int, max o 0 = a := ⟨_, rfl⟩
  rw [ha3] at m3
  have n3 := run_minL a3 255
  obtain ⟨o', hv3⟩ : ∃ b : Int, min a3 255 = b := ⟨_, rfl⟩
  rw [hv3] at n3
  rw [show clamp 0 255 o = o' by unfold clamp; rw [ha3, hv3]]
  clear ha3 hv3
  have kx := reach_all x
  obtain ⟨x', hvx⟩ : ∃ b : Int, clamp (-1048576) 1048576 x = b := ⟨_, rfl⟩
  rw [hvx] at kx ⊢
  clear hvx
  have ky := reach_all y
  obtain ⟨y', hvy⟩ : ∃ b : Int, clamp (-1048576) 1048576 y = b := ⟨_, rfl⟩
  rw [hvy] at ky ⊢
  clear hvy
  have kz := reach_all z
  obtain ⟨z', hvz⟩ : ∃ b : Int, clamp (-1048576) 1048576 z = b := ⟨_, rfl⟩
  rw [hvz] at kz ⊢
  clear hvz
  go_enter Tryz.func145, Tryz.ntmps145
  go_wp2_with fail
  refine wp_region_still_tail 29 (by kernel_rfl) (by kernel_rfl) ?_
  simp only [List.take_succ_cons, List.take_zero, List.drop_succ_cons, List.drop_zero]
  obtain ⟨W1, hW1⟩ : ∃ W1, W1 = (((w.alloc (.cells #[.int .i64 s, .int .i64 c, .int .i64 o, .int .i64 x, .int .i64 y, .int .i64 z] 48)).alloc (.cells #[.int .i64 0, .int .i64 0, .int .i64 0, .int .i64 0, .int .i64 0, .int .i64 0] 48)).drew) := ⟨_, rfl⟩
  change wpStill _ _ (((w.alloc (.cells #[.int .i64 s, .int .i64 c, .int .i64 o, .int .i64 x, .int .i64 y, .int .i64 z] 48)).alloc (.cells #[.int .i64 0, .int .i64 0, .int .i64 0, .int .i64 0, .int .i64 0, .int .i64 0] 48)).drew) (fun a' => wpList _ _ _ _ a' (((w.alloc (.cells #[.int .i64 s, .int .i64 c, .int .i64 o, .int .i64 x, .int .i64 y, .int .i64 z] 48)).alloc (.cells #[.int .i64 0, .int .i64 0, .int .i64 0, .int .i64 0, .int .i64 0, .int .i64 0] 48)).drew)) _ _
  rw [← hW1]
  have c0 : W1.cell? ⟨w.heap.size, 0, none⟩ = some (.int .i64 s) := by rw [hW1]; simp [go_sem]
  have c1 : W1.cell? ⟨w.heap.size, 1, none⟩ = some (.int .i64 c) := by rw [hW1]; simp [go_sem]
  have c2 : W1.cell? ⟨w.heap.size, 2, none⟩ = some (.int .i64 o) := by rw [hW1]; simp [go_sem]
  have c3 : W1.cell? ⟨w.heap.size, 3, none⟩ = some (.int .i64 x) := by rw [hW1]; simp [go_sem]
  have c4 : W1.cell? ⟨w.heap.size, 4, none⟩ = some (.int .i64 y) := by rw [hW1]; simp [go_sem]
  have c5 : W1.cell? ⟨w.heap.size, 5, none⟩ = some (.int .i64 z) := by rw [hW1]; simp [go_sem]
  have k4 := (kx W1).mono fun e w' (h : _ ∧ _) => (⟨h.1, h.2.symm⟩ : e = .returned (.int .i64 x') ∧ w' = W1)
  have k5 := (ky W1).mono fun e w' (h : _ ∧ _) => (⟨h.1, h.2.symm⟩ : e = .returned (.int .i64 y') ∧ w' = W1)
  have k6 := (kz W1).mono fun e w' (h : _ ∧ _) => (⟨h.1, h.2.symm⟩ : e = .returned (.int .i64 z') ∧ w' = W1)
  have K4 := Lib.hid k4
  have K5 := Lib.hid k5
  have K6 := Lib.hid k6
  have HW1 := Lib.hid hW1
  clear k4 k5 k6 kx ky kz hW1
  repeat still_step
  still_call K4.out
  repeat still_step
  still_call K5.out
  repeat still_step
  still_call K6.out
  repeat still_step
  refine wpStill_nil ?_
  rw [HW1.out]
  go_wp2
  refine bodyPost_ret (v := .agg #[.int .i64 s', .int .i64 c', .int .i64 o', .int .i64 x', .int .i64 y', .int .i64 z']) (by simp [results, Tryz.results145, go_sem]) rfl ⟨rfl, ?_⟩
  go_grown

open Classical in
noncomputable def telErr (s c o x y z : Int) : Int := if GoodT s c o x y z then 0 else 3
theorem telErr_good {s c o x y z : Int} (h : GoodT s c o x y z) : telErr s c o x y z = 0 := by unfold telErr; simp [h]
theorem telErr_bad {s c o x y z : Int} (h : ¬ GoodT s c o x y z) : telErr s c o x y z = 3 := by unfold telErr; simp [h]
theorem telErr_zero {s c o x y z : Int} (h : telErr s c o x y z = 0) : GoodT s c o x y z := Classical.byContradiction fun hn => by rw [telErr_bad hn] at h; cases h

set_option maxRecDepth 100000 in
set_option maxHeartbeats 6400000 in
theorem checkTelegram_all (s c o x y z : Int) (w : World) :
    Calls Tryz.prog 76 #[.agg #[.int .i64 s, .int .i64 c, .int .i64 o, .int .i64 x, .int .i64 y, .int .i64 z]] w fun e w' => e = .returned (.int .i64 (telErr s c o x y z)) ∧ Below w.heap.size w w' := by
  by_cases hg : GoodT s c o x y z
  · rw [telErr_good hg]
    exact checkTelegram_any s c o x y z hg w
  rw [telErr_bad hg]
  have K := Lib.hid (limited_all s c o x y z)
  obtain ⟨s', hvs⟩ : ∃ b : Int, clamp 0 255 s = b := ⟨_, rfl⟩
  obtain ⟨c', hvc⟩ : ∃ b : Int, clamp 0 65535 c = b := ⟨_, rfl⟩
  obtain ⟨o', hvo⟩ : ∃ b : Int, clamp 0 255 o = b := ⟨_, rfl⟩
  obtain ⟨x', hvx⟩ : ∃ b : Int, clamp (-1048576) 1048576 x = b := ⟨_, rfl⟩
  obtain ⟨y', hvy⟩ : ∃ b : Int, clamp (-1048576) 1048576 y = b := ⟨_, rfl⟩
  obtain ⟨z', hvz⟩ : ∃ b : Int, clamp (-1048576) 1048576 z = b := ⟨_, rfl⟩
  rw [hvs, hvc, hvo, hvx, hvy, hvz] at K
  have gs : s' = s → 0 ≤ s ∧ s ≤ 255 := fun h => by rw [← hvs] at h; unfold clamp at h; omega
  have gc : c' = c → 0 ≤ c ∧ c ≤ 65535 := fun h => by rw [← hvc] at h; unfold clamp at h; omega
  have go : o' = o → 0 ≤ o ∧ o ≤ 255 := fun h => by rw [← hvo] at h; unfold clamp at h; omega
  have gx : x' = x → -1048576 ≤ x ∧ x ≤ 1048576 := fun h => by rw [← hvx] at h; unfold clamp at h; omega
  have gy : y' = y → -1048576 ≤ y ∧ y ≤ 1048576 := fun h => by rw [← hvy] at h; unfold clamp at h; omega
  have gz : z' = z → -1048576 ≤ z ∧ z ≤ 1048576 := fun h => by rw [← hvz] at h; unfold clamp at h; omega
  clear hvs hvc hvo hvx hvy hvz
  by_cases es : s' = s
  rotate_left 1
  · have qs : (s' == s) = false := by simp [es]
    clear es gs gc go gx gy gz
    clear hg
    go_enter Tryz.func76, Tryz.ntmps76
    go_wp2_with fail
    go_region_held3 (fun w' => w'.cell? ⟨w.heap.size, 0, none⟩ = some (.int .i64 s) ∧ w'.cell? ⟨w.heap.size, 1, none⟩ = some (.int .i64 c) ∧ w'.cell? ⟨w.heap.size, 2, none⟩ = some (.int .i64 o) ∧ w'.cell? ⟨w.heap.size, 3, none⟩ = some (.int .i64 x) ∧ w'.cell? ⟨w.heap.size, 4, none⟩ = some (.int .i64 y) ∧ w'.cell? ⟨w.heap.size, 5, none⟩ = some (.int .i64 z))
      (first | go_keep | (go_split_ands; refine ⟨?_, ?_, ?_, ?_, ?_, ?_⟩ <;> (rw [hb.cell (by simp)]; assumption)))
      ((go_at_call 145; refine (K.out _).mono ?_; rintro e w' ⟨rfl, hb⟩))
    all_goals
      go_wp2
      go_ret
      exact ⟨rfl, ((Below.refl _ w).alloc (Nat.le_refl _) _).drew.trans (hb.mono (by simp))⟩
  have fs := es.symm
  clear es
  subst fs
  by_cases ec : c' = c
  rotate_left 1
  · have qc : (c' == c) = false := by simp [ec]
    clear ec gs gc go gx gy gz
    clear hg
    go_enter Tryz.func76, Tryz.ntmps76
    go_wp2_with fail
    go_region_held3 (fun w' => w'.cell? ⟨w.heap.size, 0, none⟩ = some (.int .i64 s) ∧ w'.cell? ⟨w.heap.size, 1, none⟩ = some (.int .i64 c) ∧ w'.cell? ⟨w.heap.size, 2, none⟩ = some (.int .i64 o) ∧ w'.cell? ⟨w.heap.size, 3, none⟩ = some (.int .i64 x) ∧ w'.cell? ⟨w.heap.size, 4, none⟩ = some (.int .i64 y) ∧ w'.cell? ⟨w.heap.size, 5, none⟩ = some (.int .i64 z))
      (first | go_keep | (go_split_ands; refine ⟨?_, ?_, ?_, ?_, ?_, ?_⟩ <;> (rw [hb.cell (by simp)]; assumption)))
      ((go_at_call 145; refine (K.out _).mono ?_; rintro e w' ⟨rfl, hb⟩))
    all_goals
      go_wp2
      go_ret
      exact ⟨rfl, ((Below.refl _ w).alloc (Nat.le_refl _) _).drew.trans (hb.mono (by simp))⟩
  have fc := ec.symm
  clear ec
  subst fc
  by_cases eo : o' = o
  rotate_left 1
  · have qo : (o' == o) = false := by simp [eo]
    clear eo gs gc go gx gy gz
    clear hg
    go_enter Tryz.func76, Tryz.ntmps76
    go_wp2_with fail
    go_region_held3 (fun w' => w'.cell? ⟨w.heap.size, 0, none⟩ = some (.int .i64 s) ∧ w'.cell? ⟨w.heap.size, 1, none⟩ = some (.int .i64 c) ∧ w'.cell? ⟨w.heap.size, 2, none⟩ = some (.int .i64 o) ∧ w'.cell? ⟨w.heap.size, 3, none⟩ = some (.int .i64 x) ∧ w'.cell? ⟨w.heap.size, 4, none⟩ = some (.int .i64 y) ∧ w'.cell? ⟨w.heap.size, 5, none⟩ = some (.int .i64 z))
      (first | go_keep | (go_split_ands; refine ⟨?_, ?_, ?_, ?_, ?_, ?_⟩ <;> (rw [hb.cell (by simp)]; assumption)))
      ((go_at_call 145; refine (K.out _).mono ?_; rintro e w' ⟨rfl, hb⟩))
    all_goals
      go_wp2
      go_ret
      exact ⟨rfl, ((Below.refl _ w).alloc (Nat.le_refl _) _).drew.trans (hb.mono (by simp))⟩
  have fo := eo.symm
  clear eo
  subst fo
  by_cases ex : x' = x
  rotate_left 1
  · have qx : (x' == x) = false := by simp [ex]
    clear ex gs gc go gx gy gz
    clear hg
    go_enter Tryz.func76, Tryz.ntmps76
    go_wp2_with fail
    go_region_held3 (fun w' => w'.cell? ⟨w.heap.size, 0, none⟩ = some (.int .i64 s) ∧ w'.cell? ⟨w.heap.size, 1, none⟩ = some (.int .i64 c) ∧ w'.cell? ⟨w.heap.size, 2, none⟩ = some (.int .i64 o) ∧ w'.cell? ⟨w.heap.size, 3, none⟩ = some (.int .i64 x) ∧ w'.cell? ⟨w.heap.size, 4, none⟩ = some (.int .i64 y) ∧ w'.cell? ⟨w.heap.size, 5, none⟩ = some (.int .i64 z))
      (first | go_keep | (go_split_ands; refine ⟨?_, ?_, ?_, ?_, ?_, ?_⟩ <;> (rw [hb.cell (by simp)]; assumption)))
      ((go_at_call 145; refine (K.out _).mono ?_; rintro e w' ⟨rfl, hb⟩))
    all_goals
      go_wp2
      go_ret
      exact ⟨rfl, ((Below.refl _ w).alloc (Nat.le_refl _) _).drew.trans (hb.mono (by simp))⟩
  have fx := ex.symm
  clear ex
  subst fx
  by_cases ey : y' = y
  rotate_left 1
  · have qy : (y' == y) = false := by simp [ey]
    clear ey gs gc go gx gy gz
    clear hg
    go_enter Tryz.func76, Tryz.ntmps76
    go_wp2_with fail
    go_region_held3 (fun w' => w'.cell? ⟨w.heap.size, 0, none⟩ = some (.int .i64 s) ∧ w'.cell? ⟨w.heap.size, 1, none⟩ = some (.int .i64 c) ∧ w'.cell? ⟨w.heap.size, 2, none⟩ = some (.int .i64 o) ∧ w'.cell? ⟨w.heap.size, 3, none⟩ = some (.int .i64 x) ∧ w'.cell? ⟨w.heap.size, 4, none⟩ = some (.int .i64 y) ∧ w'.cell? ⟨w.heap.size, 5, none⟩ = some (.int .i64 z))
      (first | go_keep | (go_split_ands; refine ⟨?_, ?_, ?_, ?_, ?_, ?_⟩ <;> (rw [hb.cell (by simp)]; assumption)))
      ((go_at_call 145; refine (K.out _).mono ?_; rintro e w' ⟨rfl, hb⟩))
    all_goals
      go_wp2
      go_ret
      exact ⟨rfl, ((Below.refl _ w).alloc (Nat.le_refl _) _).drew.trans (hb.mono (by simp))⟩
  have fy := ey.symm
  clear ey
  subst fy
  by_cases ez : z' = z
  rotate_left 1
  · have qz : (z' == z) = false := by simp [ez]
    clear ez gs gc go gx gy gz
    clear hg
    go_enter Tryz.func76, Tryz.ntmps76
    go_wp2_with fail
    go_region_held3 (fun w' => w'.cell? ⟨w.heap.size, 0, none⟩ = some (.int .i64 s) ∧ w'.cell? ⟨w.heap.size, 1, none⟩ = some (.int .i64 c) ∧ w'.cell? ⟨w.heap.size, 2, none⟩ = some (.int .i64 o) ∧ w'.cell? ⟨w.heap.size, 3, none⟩ = some (.int .i64 x) ∧ w'.cell? ⟨w.heap.size, 4, none⟩ = some (.int .i64 y) ∧ w'.cell? ⟨w.heap.size, 5, none⟩ = some (.int .i64 z))
      (first | go_keep | (go_split_ands; refine ⟨?_, ?_, ?_, ?_, ?_, ?_⟩ <;> (rw [hb.cell (by simp)]; assumption)))
      ((go_at_call 145; refine (K.out _).mono ?_; rintro e w' ⟨rfl, hb⟩))
    all_goals
      go_wp2
      go_ret
      exact ⟨rfl, ((Below.refl _ w).alloc (Nat.le_refl _) _).drew.trans (hb.mono (by simp))⟩
  have fz := ez.symm
  clear ez
  subst fz
  exact absurd ⟨gs rfl, gc rfl, go rfl, gx rfl, gy rfl, gz rfl⟩ hg
end Go.Proofs.YthmaoeajbmfmaaaGreatDoor
