/-
  Contracts of limited and checkTelegram for every telegram.
-/
import Derived.Test.YtlnhgplloaiiiaaGreatDoorKWp
import Derived.Test.YtlnhgplloaiiiaaGreatDoorKFd
import Derived.Test.YtlnhgplloaiiiaaGreatDoorKWw
import Derived.Test.YtlnhgplloaiiiaaGreatDoorKXe
namespace Go.Proofs.YtlnhgplloaiiiaaGreatDoor
open Go.RowKit
set_option linter.unusedVariables false
set_option linter.unusedSimpArgs false

/-- A number brought into its range. -/
def clamp (lo hi n : Int) : Int := min (max n lo) hi
theorem clamp_in {lo hi n : Int} (h1 : lo ≤ n) (h2 : n ≤ hi) : clamp lo hi n = n := by unfold clamp; omega
theorem clamp_out {lo hi n : Int} (h : lo ≤ hi) (h1 : ¬ (lo ≤ n ∧ n ≤ hi)) : clamp lo hi n ≠ n := by unfold clamp; omega
theorem run_maxL (n m : Int) : ∀ (ts : Array TypeId) (t : TypeId) (w : World), (Builtin.max_ ts t #[.int .i64 n, .int .i64 m]).run Tryz.prog w = .ok (.int .i64 (max n m)) w := fun ts t w => by
  rw [run_max_int2]
  by_cases h : n < m
  · rw [if_pos h, show max n m = m by omega]
  · rw [if_neg h, show max n m = n by omega]
theorem run_minL (n m : Int) : ∀ (ts : Array TypeId) (t : TypeId) (w : World), (Builtin.min_ ts t #[.int .i64 n, .int .i64 m]).run Tryz.prog w = .ok (.int .i64 (min n m)) w := fun ts t w => by
  rw [run_min_int2]
  by_cases h : m < n
  · rw [if_pos h, show min n m = m by omega]
  · rw [if_neg h, show min n m = n by omega]

set_option maxHeartbeats 800000 in
theorem reach_all (n : Int) (w : World) :
    Calls Tryz.prog 187 #[.int .i64 n] w fun e w' => e = .returned (.int .i64 (clamp (-1048576) 1048576 n)) ∧ w = w' := by
  have m1 := run_maxL n (-1048576)
  obtain ⟨a, ha⟩ : ∃ a : Int, max n (-1048576) = a := ⟨_, rfl⟩
  rw [ha] at m1
  have n1 := run_minL a 1048576
  obtain ⟨b, hb⟩ : ∃ b : Int, min a 1048576 = b := ⟨_, rfl⟩
  rw [hb] at n1
  have e : clamp (-1048576) 1048576 n = b := by unfold clamp; rw [ha, hb]
  rw [e]
  clear ha hb e
  go_enter Tryz.func187, Tryz.ntmps187
  go_wp2
  go_ret
  exact ⟨rfl, rfl⟩

set_option maxRecDepth 100000 in
set_option maxHeartbeats 1600000 in
theorem limited_all (s c o x y z : Int) (w : World) :
    Calls Tryz.prog 173 #[.agg #[.int .i64 s, .int .i64 c, .int .i64 o, .int .i64 x, .int .i64 y, .int .i64 z]] w fun e w' =>
      e = .returned (.agg #[.int .i64 (clamp 0 255 s), .int .i64 (clamp 0 65535 c), .int .i64 (clamp 0 255 o), .int .i64 (clamp (-1048576) 1048576 x), .int .i64 (clamp (-1048576) 1048576 y), .int .i64 (clamp (-1048576) 1048576 z)]) ∧ Below w.heap.size w w' := by
  have m1 := run_maxL s 0
  obtain ⟨a1, ha1⟩ : ∃ a : Int, max s 0 = a := ⟨_, rfl⟩
  rw [ha1] at m1
  have n1 := run_minL a1 255
  obtain ⟨s', hv1⟩ : ∃ b : Int, min a1 255 = b := ⟨_, rfl⟩
  rw [hv1] at n1
  rw [show clamp 0 255 s = s' by unfold clamp; rw [ha1, hv1]]
  clear ha1 hv1
  have m2 := run_maxL c 0
  obtain ⟨a2, ha2⟩ : ∃ a : Int, max c 0 = a := ⟨_, rfl⟩
  rw [ha2] at m2
  have n2 := run_minL a2 65535
  obtain ⟨c', hv2⟩ : ∃ b : Int, min a2 65535 = b := ⟨_, rfl⟩
  rw [hv2] at n2
  rw [show clamp 0 65535 c = c' by unfold clamp; rw [ha2, hv2]]
  clear ha2 hv2
  have m3 := run_maxL o 0
  obtain ⟨a3, ha3⟩ : ∃ a : Int, max o 0 = a := ⟨_, rfl⟩
  rw [ha3] at m3
  have n3 := run_minL a3 255
  obtain ⟨o', hv3⟩ : ∃ b : Int, min a3 255 = b := ⟨_, rfl⟩
  rw [hv3] at n3
  rw [show clamp 0 255 o = o' by unfold clamp; rw [ha3, hv3]]
  clear ha3 hv3
  have kx := reach_all x
  obtain ⟨x', hvx⟩ : ∃ b : Int, clamp (-1048576) 1048576 x = b := ⟨_, rfl⟩
  rw [hvx] at kx ⊢
  clear hvx
  have ky := reach_all y
  obtain ⟨y', hvy⟩ : ∃ b : Int, clamp (-1048576) 1048576 y = b := ⟨_, rfl⟩
  rw [hvy] at ky ⊢
  clear hvy
  have kz := reach_all z
  obtain ⟨z', hvz⟩ : ∃ b : Int, clamp (-1048576) 1048576 z = b := ⟨_, rfl⟩
  rw [hvz] at kz ⊢
  clear hvz
  go_enter Tryz.func173, Tryz.ntmps173
  go_wp2_with fail
  refine wp_region_still_tail 29 (by kernel_rfl) (by kernel_rfl) ?_
  simp only [List.take_succ_cons, List.take_zero, List.drop_succ_cons, List.drop_zero]
  obtain ⟨W1, hW1⟩ : ∃ W1, W1 = (((w.alloc (.cells #[.int .i64 s, .int .i64 c, .int .i64 o, .int .i64 x, .int .i64 y, .int .i64 z] 112)).alloc (.cells #[.int .i64 0, .int .i64 0, .int .i64 0, .int .i64 0, .int .i64 0, .int .i64 0] 112)).drew) := ⟨_, rfl⟩
  change wpStill _ _ (((w.alloc (.cells #[.int .i64 s, .int .i64 c, .int .i64 o, .int .i64 x, .int .i64 y, .int .i64 z] 112)).alloc (.cells #[.int .i64 0, .int .i64 0, .int .i64 0, .int .i64 0, .int .i64 0, .int .i64 0] 112)).drew) (fun a' => wpList _ _ _ _ a' (((w.alloc (.cells #[.int .i64 s, .int .i64 c, .int .i64 o, .int .i64 x, .int .i64 y, .int .i64 z] 112)).alloc (.cells #[.int .i64 0, .int .i64 0, .int .i64 0, .int .i64 0, .int .i64 0, .int .i64 0] 112)).drew)) _ _
  rw [← hW1]
  have c0 : W1.cell? ⟨w.heap.size, 0, none⟩ = some (.int .i64 s) := by rw [hW1]; simp [go_sem]
  have c1 : W1.cell? ⟨w.heap.size, 1, none⟩ = some (.int .i64 c) := by rw [hW1]; simp [go_sem]
  have c2 : W1.cell? ⟨w.heap.size, 2, none⟩ = some (.int .i64 o) := by rw [hW1]; simp [go_sem]
  have c3 : W1.cell? ⟨w.heap.size, 3, none⟩ = some (.int .i64 x) := by rw [hW1]; simp [go_sem]
  have c4 : W1.cell? ⟨w.heap.size, 4, none⟩ = some (.int .i64 y) := by rw [hW1]; simp [go_sem]
  have c5 : W1.cell? ⟨w.heap.size, 5, none⟩ = some (.int .i64 z) := by rw [hW1]; simp [go_sem]
  have k4 := (kx W1).mono fun e w' (h : _ ∧ _) => (⟨h.1, h.2.symm⟩ : e = .returned (.int .i64 x') ∧ w' = W1)
  have k5 := (ky W1).mono fun e w' (h : _ ∧ _) => (⟨h.1, h.2.symm⟩ : e = .returned (.int .i64 y') ∧ w' = W1)
  have k6 := (kz W1).mono fun e w' (h : _ ∧ _) => (⟨h.1, h.2.symm⟩ : e = .returned (.int .i64 z') ∧ w' = W1)
  have K4 := Lib.hid k4
  have K5 := Lib.hid k5
  have K6 := Lib.hid k6
  have HW1 := Lib.hid hW1
  clear k4 k5 k6 kx ky kz hW1
  repeat still_step
  still_call K4.out
  repeat still_step
  still_call K5.out
  repeat still_step
  still_call K6.out
  repeat still_step
  refine wpStill_nil ?_
  rw [HW1.out]
  go_wp2
  refine bodyPost_ret (v := .agg #[.int .i64 s', .int .i64 c', .int .i64 o', .int .i64 x', .int .i64 y', .int .i64 z']) (by simp [results, Tryz.results173, go_sem]) rfl ⟨rfl, ?_⟩
  go_grown

open Classical in
noncomputable def telErr (s c o x y z : Int) : Int := if GoodT s c o x y z then 0 else 3
theorem telErr_good {s c o x y z : Int} (h : GoodT s c o x y z) : telErr s c o x y z = 0 := by unfold telErr; simp [h]
theorem telErr_bad {s c o x y z : Int} (h : ¬ GoodT s c o x y z) : telErr s c o x y z = 3 := by unfold telErr; simp [h]
theorem telErr_zero {s c o x y z : Int} (h : telErr s c o x y z = 0) : GoodT s c o x y z := Classical.byContradiction fun hn => by rw [telErr_bad hn] at h; cases h

set_option maxRecDepth 100000 in
set_option maxHeartbeats 6400000 in
theorem checkTelegram_all (s c o x y z : Int) (w : World) :
    Calls Tryz.prog 143 #[.agg #[.int .i64 s, .int .i64 c, .int .i64 o, .int .i64 x, .int .i64 y, .int .i64 z]] w fun e w' => e = .returned (.int .i64 (telErr s c o x y z)) ∧ Below w.heap.size w w' := by
  by_cases hg : GoodT s c o x y z
  · rw [telErr_good hg]
    exact checkTelegram_any s c o x y z hg w
  rw [telErr_bad hg]
  have K := Lib.hid (limited_all s c o x y z)
  obtain ⟨s', hvs⟩ : ∃ b : Int, clamp 0 255 s = b := ⟨_, rfl⟩
  obtain ⟨c', hvc⟩ : ∃ b : Int, clamp 0 65535 c = b := ⟨_, rfl⟩
  obtain ⟨o', hvo⟩ : ∃ b : Int, clamp 0 255 o = b := ⟨_, rfl⟩
  obtain ⟨x', hvx⟩ : ∃ b : Int, clamp (-1048576) 1048576 x = b := ⟨_, rfl⟩
  obtain ⟨y', hvy⟩ : ∃ b : Int, clamp (-1048576) 1048576 y = b := ⟨_, rfl⟩
  obtain ⟨z', hvz⟩ : ∃ b : Int, clamp (-1048576) 1048576 z = b := ⟨_, rfl⟩
  rw [hvs, hvc, hvo, hvx, hvy, hvz] at K
  have gs : s' = s → 0 ≤ s ∧ s ≤ 255 := fun h => by rw [← hvs] at h; unfold clamp at h; omega
  have gc : c' = c → 0 ≤ c ∧ c ≤ 65535 := fun h => by rw [← hvc] at h; unfold clamp at h; omega
  have go : o' = o → 0 ≤ o ∧ o ≤ 255 := fun h => by rw [← hvo] at h; unfold clamp at h; omega
  have gx : x' = x → -1048576 ≤ x ∧ x ≤ 1048576 := fun h => by rw [← hvx] at h; unfold clamp at h; omega
  have gy : y' = y → -1048576 ≤ y ∧ y ≤ 1048576 := fun h => by rw [← hvy] at h; unfold clamp at h; omega
  have gz : z' = z → -1048576 ≤ z ∧ z ≤ 1048576 := fun h => by rw [← hvz] at h; unfold clamp at h; omega
  clear hvs hvc hvo hvx hvy hvz
  by_cases es : s' = s
  rotate_left 1
  · have qs : (s' == s) = false := by simp [es]
    clear es gs gc go gx gy gz
    clear hg
    go_enter Tryz.func143, Tryz.ntmps143
    go_wp2_with fail
    go_region_held3 (fun w' => w'.cell? ⟨w.heap.size, 0, none⟩ = some (.int .i64 s) ∧ w'.cell? ⟨w.heap.size, 1, none⟩ = some (.int .i64 c) ∧ w'.cell? ⟨w.heap.size, 2, none⟩ = some (.int .i64 o) ∧ w'.cell? ⟨w.heap.size, 3, none⟩ = some (.int .i64 x) ∧ w'.cell? ⟨w.heap.size, 4, none⟩ = some (.int .i64 y) ∧ w'.cell? ⟨w.heap.size, 5, none⟩ = some (.int .i64 z))
      (first | go_keep | (go_split_ands; refine ⟨?_, ?_, ?_, ?_, ?_, ?_⟩ <;> (rw [hb.cell (by simp)]; assumption)))
      ((go_at_call 173; refine (K.out _).mono ?_; rintro e w' ⟨rfl, hb⟩))
    all_goals
      go_wp2
      go_ret
      exact ⟨rfl, ((Below.refl _ w).alloc (Nat.le_refl _) _).drew.trans (hb.mono (by simp))⟩
  have fs := es.symm
  clear es
  subst fs
  by_cases ec : c' = c
  rotate_left 1
  · have qc : (c' == c) = false := by simp [ec]
    clear ec gs gc go gx gy gz
    clear hg
    go_enter Tryz.func143, Tryz.ntmps143
    go_wp2_with fail
    go_region_held3 (fun w' => w'.cell? ⟨w.heap.size, 0, none⟩ = some (.int .i64 s) ∧ w'.cell? ⟨w.heap.size, 1, none⟩ = some (.int .i64 c) ∧ w'.cell? ⟨w.heap.size, 2, none⟩ = some (.int .i64 o) ∧ w'.cell? ⟨w.heap.size, 3, none⟩ = some (.int .i64 x) ∧ w'.cell? ⟨w.heap.size, 4, none⟩ = some (.int .i64 y) ∧ w'.cell? ⟨w.heap.size, 5, none⟩ = some (.int .i64 z))
      (first | go_keep | (go_split_ands; refine ⟨?_, ?_, ?_, ?_, ?_, ?_⟩ <;> (rw [hb.cell (by simp)]; assumption)))
      ((go_at_call 173; refine (K.out _).mono ?_; rintro e w' ⟨rfl, hb⟩))
    all_goals
      go_wp2
      go_ret
      exact ⟨rfl, ((Below.refl _ w).alloc (Nat.le_refl _) _).drew.trans (hb.mono (by simp))⟩
  have fc := ec.symm
  clear ec
  subst fc
  by_cases eo : o' = o
  rotate_left 1
  · have qo : (o' == o) = false := by simp [eo]
    clear eo gs gc go gx gy gz
    clear hg
    go_enter Tryz.func143, Tryz.ntmps143
    go_wp2_with fail
    go_region_held3 (fun w' => w'.cell? ⟨w.heap.size, 0, none⟩ = some (.int .i64 s) ∧ w'.cell? ⟨w.heap.size, 1, none⟩ = some (.int .i64 c) ∧ w'.cell? ⟨w.heap.size, 2, none⟩ = some (.int .i64 o) ∧ w'.cell? ⟨w.heap.size, 3, none⟩ = some (.int .i64 x) ∧ w'.cell? ⟨w.heap.size, 4, none⟩ = some (.int .i64 y) ∧ w'.cell? ⟨w.heap.size, 5, none⟩ = some (.int .i64 z))
      (first | go_keep | (go_split_ands; refine ⟨?_, ?_, ?_, ?_, ?_, ?_⟩ <;> (rw [hb.cell (by simp)]; assumption)))
      ((go_at_call 173; refine (K.out _).mono ?_; rintro e w' ⟨rfl, hb⟩))
    all_goals
      go_wp2
      go_ret
      exact ⟨rfl, ((Below.refl _ w).alloc (Nat.le_refl _) _).drew.trans (hb.mono (by simp))⟩
  have fo := eo.symm
  clear eo
  subst fo
  by_cases ex : x' = x
  rotate_left 1
  · have qx : (x' == x) = false := by simp [ex]
    clear ex gs gc go gx gy gz
    clear hg
    go_enter Tryz.func143, Tryz.ntmps143
    go_wp2_with fail
    go_region_held3 (fun w' => w'.cell? ⟨w.heap.size, 0, none⟩ = some (.int .i64 s) ∧ w'.cell? ⟨w.heap.size, 1, none⟩ = some (.int .i64 c) ∧ w'.cell? ⟨w.heap.size, 2, none⟩ = some (.int .i64 o) ∧ w'.cell? ⟨w.heap.size, 3, none⟩ = some (.int .i64 x) ∧ w'.cell? ⟨w.heap.size, 4, none⟩ = some (.int .i64 y) ∧ w'.cell? ⟨w.heap.size, 5, none⟩ = some (.int .i64 z))
      (first | go_keep | (go_split_ands; refine ⟨?_, ?_, ?_, ?_, ?_, ?_⟩ <;> (rw [hb.cell (by simp)]; assumption)))
      ((go_at_call 173; refine (K.out _).mono ?_; rintro e w' ⟨rfl, hb⟩))
    all_goals
      go_wp2
      go_ret
      exact ⟨rfl, ((Below.refl _ w).alloc (Nat.le_refl _) _).drew.trans (hb.mono (by simp))⟩
  have fx := ex.symm
  clear ex
  subst fx
  by_cases ey : y' = y
  rotate_left 1
  · have qy : (y' == y) = false := by simp [ey]
    clear ey gs gc go gx gy gz
    clear hg
    go_enter Tryz.func143, Tryz.ntmps143
    go_wp2_with fail
    go_region_held3 (fun w' => w'.cell? ⟨w.heap.size, 0, none⟩ = some (.int .i64 s) ∧ w'.cell? ⟨w.heap.size, 1, none⟩ = some (.int .i64 c) ∧ w'.cell? ⟨w.heap.size, 2, none⟩ = some (.int .i64 o) ∧ w'.cell? ⟨w.heap.size, 3, none⟩ = some (.int .i64 x) ∧ w'.cell? ⟨w.heap.size, 4, none⟩ = some (.int .i64 y) ∧ w'.cell? ⟨w.heap.size, 5, none⟩ = some (.int .i64 z))
      (first | go_keep | (go_split_ands; refine ⟨?_, ?_, ?_, ?_, ?_, ?_⟩ <;> (rw [hb.cell (by simp)]; assumption)))
      ((go_at_call 173; refine (K.out _).mono ?_; rintro e w' ⟨rfl, hb⟩))
    all_goals
      go_wp2
      go_ret
      exact ⟨rfl, ((Below.refl _ w).alloc (Nat.le_refl _) _).drew.trans (hb.mono (by simp))⟩
  have fy := ey.symm
  clear ey
  subst fy
  by_cases ez : z' = z
  rotate_left 1
  · have qz : (z' == z) = false := by simp [ez]
    clear ez gs gc go gx gy gz
    clear hg
    go_enter Tryz.func143, Tryz.ntmps143
    go_wp2_with fail
    go_region_held3 (fun w' => w'.cell? ⟨w.heap.size, 0, none⟩ = some (.int .i64 s) ∧ w'.cell? ⟨w.heap.size, 1, none⟩ = some (.int .i64 c) ∧ w'.cell? ⟨w.heap.size, 2, none⟩ = some (.int .i64 o) ∧ w'.cell? ⟨w.heap.size, 3, none⟩ = some (.int .i64 x) ∧ w'.cell? ⟨w.heap.size, 4, none⟩ = some (.int .i64 y) ∧ w'.cell? ⟨w.heap.size, 5, none⟩ = some (.int .i64 z))
      (first | go_keep | (go_split_ands; refine ⟨?_, ?_, ?_, ?_, ?_, ?_⟩ <;> (rw [hb.cell (by simp)]; assumption)))
      ((go_at_call 173; refine (K.out _).mono ?_; rintro e w' ⟨rfl, hb⟩))
    all_goals
      go_wp2
      go_ret
      exact ⟨rfl, ((Below.refl _ w).alloc (Nat.le_refl _) _).drew.trans (hb.mono (by simp))⟩
  have fz := ez.symm
  clear ez
  subst fz
  exact absurd ⟨gs rfl, gc rfl, go rfl, gx rfl, gy rfl, gz rfl⟩ hg
end Go.Proofs.YtlnhgplloaiiiaaGreatDoor

/-
  Contracts of the reference's checks of telegrams, for every telegram.
-/
namespace Go.Proofs.YtlnhgplloaiiiaaGreatDoor
open Go.RowKit
set_option linter.unusedVariables false
set_option linter.unusedSimpArgs false

theorem rangeErr_or (n lo hi : Int) : (lo ≤ n ∧ n ≤ hi ∧ rangeErr n lo hi = 0) ∨ (¬ (lo ≤ n ∧ n ≤ hi) ∧ rangeErr n lo hi = 3) := by
  by_cases h : lo ≤ n ∧ n ≤ hi
  · exact .inl ⟨h.1, h.2, rangeErr_in h.1 h.2⟩
  · exact .inr ⟨h, rangeErr_out (by omega)⟩
theorem vectorErr_or (x y z : Int) : ((-1048576 ≤ x ∧ x ≤ 1048576) ∧ (-1048576 ≤ y ∧ y ≤ 1048576) ∧ (-1048576 ≤ z ∧ z ≤ 1048576) ∧ vectorErr x y z = 0) ∨
    (¬ ((-1048576 ≤ x ∧ x ≤ 1048576) ∧ (-1048576 ≤ y ∧ y ≤ 1048576) ∧ (-1048576 ≤ z ∧ z ≤ 1048576)) ∧ vectorErr x y z = 3) := by
  unfold vectorErr
  rcases rangeErr_or x (-1048576) 1048576 with ⟨a, b, h1⟩ | ⟨a, h1⟩ <;> rcases rangeErr_or y (-1048576) 1048576 with ⟨a2, b2, h2⟩ | ⟨a2, h2⟩ <;> rcases rangeErr_or z (-1048576) 1048576 with ⟨a3, b3, h3⟩ | ⟨a3, h3⟩ <;> rw [h1, h2, h3] <;> simp only [firstNZ]
  · exact .inl ⟨⟨a, b⟩, ⟨a2, b2⟩, ⟨a3, b3⟩, by simp⟩
  all_goals exact .inr ⟨by omega, by simp⟩
theorem telErr_first (s c o x y z : Int) : firstNZ [rangeErr s 0 255, rangeErr c 0 65535, rangeErr o 0 255, vectorErr x y z] = telErr s c o x y z := by
  by_cases h : GoodT s c o x y z
  · rw [telErr_good h]
    rw [rangeErr_in h.st.1 h.st.2, rangeErr_in h.ct.1 h.ct.2, rangeErr_in h.od.1 h.od.2]
    rcases vectorErr_or x y z with ⟨_, _, _, h4⟩ | ⟨hn, h4⟩
    · rw [h4]; simp [firstNZ]
    · exact absurd ⟨h.vx, h.vy, h.vz⟩ hn
  · rw [telErr_bad h]
    rcases rangeErr_or s 0 255 with ⟨a, b, h1⟩ | ⟨a, h1⟩ <;> rcases rangeErr_or c 0 65535 with ⟨a2, b2, h2⟩ | ⟨a2, h2⟩ <;> rcases rangeErr_or o 0 255 with ⟨a3, b3, h3⟩ | ⟨a3, h3⟩ <;> rcases vectorErr_or x y z with ⟨v1, v2, v3, h4⟩ | ⟨hn, h4⟩ <;> rw [h1, h2, h3, h4] <;> simp only [firstNZ] <;> first | (simp; done) | exact absurd ⟨⟨a, b⟩, ⟨a2, b2⟩, ⟨a3, b3⟩, v1, v2, v3⟩ h

set_option maxRecDepth 100000 in
set_option maxHeartbeats 6400000 in
theorem refCheckTelegram_all (s c o x y z : Int) (w : World) :
    Calls Tryz.prog 71 #[.agg #[.int .i64 s, .int .i64 c, .int .i64 o, .int .i64 x, .int .i64 y, .int .i64 z]] w fun e w' => e = .returned (.int .i64 (telErr s c o x y z)) ∧ Below w.heap.size w w' := by
  obtain ⟨W0, hW0⟩ : ∃ W0, w.alloc (.cells #[.int .i64 s, .int .i64 c, .int .i64 o, .int .i64 x, .int .i64 y, .int .i64 z] 107) = W0 := ⟨_, rfl⟩
  have HB0 : Hid (Below w.heap.size w W0) := Lib.hid (by rw [← hW0]; exact (Below.refl _ w).alloc (Nat.le_refl _) _)
  have hS0 : w.heap.size < W0.heap.size := by rw [← hW0]; simp
  have a0 : W0.cell? ⟨w.heap.size, 0, none⟩ = some (.int .i64 s) := by rw [← hW0]; simp [go_sem]
  have a1 : W0.cell? ⟨w.heap.size, 1, none⟩ = some (.int .i64 c) := by rw [← hW0]; simp [go_sem]
  have a2 : W0.cell? ⟨w.heap.size, 2, none⟩ = some (.int .i64 o) := by rw [← hW0]; simp [go_sem]
  have a3 : W0.cell? ⟨w.heap.size, 3, none⟩ = some (.int .i64 x) := by rw [← hW0]; simp [go_sem]
  have a4 : W0.cell? ⟨w.heap.size, 4, none⟩ = some (.int .i64 y) := by rw [← hW0]; simp [go_sem]
  have a5 : W0.cell? ⟨w.heap.size, 5, none⟩ = some (.int .i64 z) := by rw [← hW0]; simp [go_sem]
  have hR : Blw W0.heap.size W0 W0.drew := show Below _ _ _ from (Below.refl W0.heap.size W0).drew
  have KV : Hid (∀ w1 : World, Blw W0.heap.size W0 w1 → Calls Tryz.prog 27 #[.agg #[.int .i64 x, .int .i64 y, .int .i64 z]] w1 fun e w' => e = .returned (.int .i64 (vectorErr x y z)) ∧ Below W0.heap.size W0 w') :=
    Lib.hid fun w1 (h : Below W0.heap.size W0 w1) => (refCheckVector_all x y z w1).mono fun e w' ⟨he, hb⟩ => ⟨he, h.trans (hb.mono h.size)⟩
  have KF := Lib.hid (telErr_first s c o x y z)
  obtain ⟨r, hr⟩ : ∃ r, telErr s c o x y z = r := ⟨_, rfl⟩
  rw [hr] at KF ⊢
  clear hr
  go_enter Tryz.func71, Tryz.ntmps71
  go_upto_region 1 with fail
  try rw [hW0]
  clear hW0
  go_region_held3 (fun w' => w'.cell? ⟨w.heap.size, 0, none⟩ = some (.int .i64 s) ∧ w'.cell? ⟨w.heap.size, 1, none⟩ = some (.int .i64 c) ∧ w'.cell? ⟨w.heap.size, 2, none⟩ = some (.int .i64 o) ∧ w'.cell? ⟨w.heap.size, 3, none⟩ = some (.int .i64 x) ∧ w'.cell? ⟨w.heap.size, 4, none⟩ = some (.int .i64 y) ∧ w'.cell? ⟨w.heap.size, 5, none⟩ = some (.int .i64 z) ∧ Blw W0.heap.size W0 w')
    (first | (go_split_ands; refine ⟨?_, ?_, ?_, ?_, ?_, ?_, ?_⟩ <;> first | (with_reducible assumption) | exact hb2 | ((rw [hb2.cell (by show _ < W0.heap.size; omega)]; assumption))) | (go_split_ands; refine ⟨?_, ?_, ?_, ?_, ?_, ?_, ?_⟩ <;> first | ((rw [(hb2.alloc hb2.size _).cell (by show _ < W0.heap.size; omega)]; assumption)) | exact (hb2.alloc hb2.size _ : Below _ _ _)) | go_keep)
    (first
      | (go_at_call 17; refine (refCheckRange_any _ _ _ _).mono ?_; rintro e w2 ⟨rfl, rfl⟩)
      | (go_at_call 27; refine (KV.out _ (by assumption)).mono ?_; rintro e w2 ⟨rfl, hb2⟩)
      | ((go_at_call 93; refine (refFirst_any _ 0 4 4 [rangeErr s 0 255, rangeErr c 0 65535, rangeErr o 0 255, vectorErr x y z] rfl (by omega) _ ?_).mono ?_; rotate_left 1; rintro e w' ⟨rfl, rfl⟩; rw [KF.out]; rotate_left 1; (intro j hj; match j, hj with | 0, _ => simp [go_sem] | 1, _ => simp [go_sem] | 2, _ => simp [go_sem] | 3, _ => simp [go_sem]))))
  all_goals
    go_wp2_with fail
    go_ret
    exact ⟨rfl, HB0.out.trans ((hb2.alloc hb2.size _).mono HB0.out.size)⟩

/-- A slice, nil or not, of telegrams. -/
def AnyTels (w : World) (a : Option Addr) (n : Nat) (L : List Tel) : Prop := L.length = n ∧ ∀ j, j < n → ∃ b q, a = some ⟨b, q, none⟩ ∧ b < w.heap.size ∧ TelsAt w b q L
theorem AnyTels.kept {w w' : World} {a : Option Addr} {n : Nat} {L : List Tel} (h : AnyTels w a n L) (hb : Below w.heap.size w w') : AnyTels w' a n L :=
  ⟨h.1, fun j hj => by
    obtain ⟨b, q, e, h1, h2⟩ := h.2 j hj
    exact ⟨b, q, e, Nat.lt_of_lt_of_le h1 hb.size, h2.kept hb h1⟩⟩
noncomputable def Tel.err (t : Tel) : Int := telErr t.s t.c t.o t.x t.y t.z
/-- The first error of telegrams. -/
noncomputable def telsErr (L : List Tel) : Int := firstNZ (L.map Tel.err)
theorem Tel.err_or (t : Tel) : (t.err = 0 ∧ t.Good) ∨ t.err = 3 := by
  by_cases h : t.Good
  · exact .inl ⟨telErr_good h, h⟩
  · exact .inr (telErr_bad h)

set_option maxRecDepth 100000 in
set_option maxHeartbeats 3200000 in
theorem refCheckTelegrams_any (L : List Tel) (a : Option Addr) (n cp : Nat) (hm : n ≤ 512) (w : World) (hA : AnyTels w a n L) :
    Calls Tryz.prog 80 #[.slice a n cp] w fun e w' => e = .returned (.int .i64 (telsErr L)) ∧ Below w.heap.size w w' := by
  have HC := Lib.hid hA.2
  have HN := Lib.hid hA.1.symm
  have i1 : ((n : Int) ≤ 512) := by omega
  clear hA
  have s35 : (Tryz.prog.info? 107).map (·.size) = some 6 := by kernel_rfl
  go_enter Tryz.func80, Tryz.ntmps80
  go_wp2
  go_loopw [3] (fun i wr => ∃ k : Nat, k ≤ n ∧ i = .int .i64 k ∧ Hid (∀ j, j < k → (L.map Tel.err).getD j 0 = 0) ∧ Below w.heap.size w wr) (fun i _ => n - (intOf i).toNat)
  case atStart => exact ⟨0, Nat.zero_le _, rfl, Lib.hid (fun j hj => absurd hj (by omega)), Below.refl _ _⟩
  case round =>
    obtain ⟨k, hk, rfl, hh, hnx⟩ := hrel
    by_cases hlt : k < n
    · have hlt2 : k < L.length := by have := HN.out; omega
      obtain ⟨b, q, rfl, hb, hT0⟩ := HC.out k hlt
      have hT := hT0 k hlt2
      obtain ⟨t, ht⟩ : ∃ t, L[k]?.getD tel0 = t := ⟨_, rfl⟩
      rw [ht] at hT
      have hr : wr.rangeAt b (q + k * 6) t.val := fun j v hv => by
        rw [hnx.cell (by exact hb)]
        exact hT j v hv
      have HR := Lib.hid hr
      have HE : Hid ((L.map Tel.err).getD k 0 = t.err) := Lib.hid (by rw [List.getD_eq_getElem?_getD, List.getElem?_map, List.getElem?_eq_getElem hlt2, ← ht, List.getElem?_eq_getElem hlt2]; rfl)
      have K := Lib.hid (refCheckTelegram_all t.s t.c t.o t.x t.y t.z wr)
      have hte : telErr t.s t.c t.o t.x t.y t.z = t.err := rfl
      rw [hte] at K
      have HBW := Lib.hid hnx
      clear ht hr hT hT0 hlt2 hte HC
      have hv : t.val = [.int .i64 t.s, .int .i64 t.c, .int .i64 t.o, .int .i64 t.x, .int .i64 t.y, .int .i64 t.z] := rfl
      obtain ⟨r, hr⟩ : ∃ r, t.err = r := ⟨_, rfl⟩
      rw [hr] at K HE
      clear hr hnx
      by_cases h0 : r = 0
      · have e0 : (r != 0) = false := by simp [h0]
        have H0 := Lib.hid h0
        clear h0
        go_wp2_with (first
          | (refine wpList_load_mid rfl 107 (.tmp 16) rfl b (q + k * 6) rfl t.val _ HR.out Tryz.underlying107 rfl (by rw [s35]; rfl) ?_)
          | (go_at_call 71; refine K.out.mono ?_; rintro e w2 ⟨rfl, hb2⟩))
        go_roundw
        case rel => exact ⟨k + 1, by omega, by go_num, Lib.hid (fun j hj => by
          by_cases hjk : j < k
          · exact hh.out j hjk
          · obtain rfl : j = k := by omega
            rw [HE.out]; exact H0.out), HBW.out.trans (hb2.mono HBW.out.size)⟩
        case measure => simp [intOf]; omega
      · have e0 : (r != 0) = true := by simp [h0]
        have H0 := Lib.hid h0
        clear h0
        go_wp2_with (first
          | (refine wpList_load_mid rfl 107 (.tmp 16) rfl b (q + k * 6) rfl t.val _ HR.out Tryz.underlying107 rfl (by rw [s35]; rfl) ?_)
          | (go_at_call 71; refine K.out.mono ?_; rintro e w2 ⟨rfl, hb2⟩))
        go_ret
        exact ⟨ret_int (by unfold telsErr; rw [firstNZ_at (by rw [List.length_map, ← HN.out]; exact hlt) hh.out (by rw [HE.out]; exact H0.out), HE.out]), HBW.out.trans (hb2.mono HBW.out.size)⟩
    · obtain rfl : k = n := by omega
      have HBW := Lib.hid hnx
      clear hnx
      go_wp2
      go_ret
      exact ⟨ret_int (by unfold telsErr; exact (firstNZ_end fun j hj => hh.out j (by have := HN.out; rw [List.length_map] at hj; omega)).symm), HBW.out⟩
end Go.Proofs.YtlnhgplloaiiiaaGreatDoor

/-
  Contracts of the law's telegrams, of mapped checks and of the counters of any telegrams.
-/
namespace Go.Proofs.YtlnhgplloaiiiaaGreatDoor
open Go.RowKit
set_option linter.unusedVariables false
set_option linter.unusedSimpArgs false

theorem flat_val_at : ∀ (L : List Tel) (k j : Nat) (v : Value), k < L.length → (L[k]?.getD tel0).val[j]? = some v → (L.flatMap Tel.val)[6 * k + j]? = some v
  | [], _, _, _, h, _ => by simp at h
  | t :: L, 0, j, v, _, h => by
    simp only [List.getElem?_cons_zero, Option.getD_some] at h
    rw [List.flatMap_cons, List.getElem?_append_left (by have := (List.getElem?_eq_some_iff.1 h).1; omega)]
    rw [Nat.mul_zero, Nat.zero_add]; exact h
  | t :: L, k + 1, j, v, hk, h => by
    have hl : t.val.length = 6 := rfl
    rw [List.flatMap_cons, List.getElem?_append_right (by omega), hl, show 6 * (k + 1) + j - 6 = 6 * k + j by omega]
    exact flat_val_at L k j v (by simpa using hk) (by simpa using h)

theorem AnyTels.of_row {w : World} {B : Nat} {v : Value} {n : Nat} {L : List Tel} (hl : L.length = n) (h : w.ownsRow B 112 6 v n (L.flatMap Tel.val)) : ∃ a c, v = .slice a n c ∧ AnyTels w a n L := by
  rcases h.2 with ⟨rfl, rfl⟩ | ⟨g, cap, cur, rfl, hb, hg, _⟩
  · exact ⟨none, 0, rfl, hl, fun j hj => absurd hj (by omega)⟩
  · refine ⟨_, _, rfl, hl, fun j hj => ⟨g, 0, rfl, lt_of_blk hg, fun k hk i u hu => ?_⟩⟩
    have h1 := h.cells (g := g) rfl (6 * k + i) u (flat_val_at L k i u hk hu)
    rw [Addr.add_mid, Nat.zero_add] at h1
    rw [Nat.zero_add, Nat.mul_comm k 6]
    exact h1

theorem short_any (a : Option Addr) (n c : Nat) (w : World) (hm : n ≤ maxLen) :
    Calls Tryz.prog 77 #[.slice a n c] w fun e w' => e = .returned (.bool (decide (n ≤ 20) || decide (n = 513))) ∧ w = w' := by
  unfold maxLen at hm
  by_cases h : n ≤ 20
  · have e : (decide (n ≤ 20) || decide (n = 513)) = true := by simp [h]
    rw [e]
    clear e
    go_enter Tryz.func77, Tryz.ntmps77
    go_wp2
    go_ret
    exact ⟨rfl, rfl⟩
  · by_cases h2 : n = 513
    · subst h2
      go_enter Tryz.func77, Tryz.ntmps77
      go_wp2
      go_ret
      exact ⟨rfl, rfl⟩
    · have e : (decide (n ≤ 20) || decide (n = 513)) = false := by simp [h, h2]
      rw [e]
      have e2 : ((n : Int) == 513) = false := by simp; omega
      clear e h2
      go_enter Tryz.func77, Tryz.ntmps77
      go_wp2
      go_ret
      exact ⟨congrArg (fun b => Ending.returned (.bool b)) (show decide ((n : Int) ≤ 20) = false by simp; omega), rfl⟩

set_option maxRecDepth 100000 in
set_option maxHeartbeats 3200000 in
theorem telegrams_any (L : List Tel) (a : Option Addr) (n cp : Nat) (hm : n ≤ 513) (w : World) (hA : AnyTels w a n L) :
    Calls Tryz.prog 79 #[.slice a n cp] w fun e w' => ∃ a' c', e = .returned (.slice a' n c') ∧ AnyTels w' a' n L ∧ Below w.heap.size w w' := by
  obtain ⟨i0, hi, hz0, hz1, hz2⟩ := info_parts Tryz.infoTel
  have HC := Lib.hid hA.2
  have HN := Lib.hid hA.1.symm
  clear hA
  have s35 : (Tryz.prog.info? 107).map (·.size) = some 6 := by kernel_rfl
  go_enter Tryz.func79, Tryz.ntmps79
  go_wp2
  go_loopw [3, 8] (fun out i wr => ∃ k : Nat, k ≤ n ∧ i = .int .i64 k ∧ wr.ownsRow w.heap.size 112 6 out k ((L.take k).flatMap Tel.val) ∧ Below w.heap.size w wr)
    (fun _ i _ => n - (intOf i).toNat)
  case atStart => exact ⟨0, Nat.zero_le _, rfl, World.ownsRow_nil _ _ _ _, Below.refl _ _⟩
  case round =>
    obtain ⟨k, hk, rfl, hown, hnx⟩ := hrel
    have hsz : w.heap.size ≤ wr.heap.size := hnx.size
    by_cases hlt : k < n
    · have hlt2 : k < L.length := by have := HN.out; omega
      obtain ⟨b, q, rfl, hb, hT0⟩ := HC.out k hlt
      have hT := hT0 k hlt2
      have hS := flat_take_succ L k hlt2
      obtain ⟨t, ht⟩ : ∃ t, L[k]?.getD tel0 = t := ⟨_, rfl⟩
      rw [ht] at hT hS
      have hr : wr.rangeAt b (q + k * 6) t.val := fun j v hv => by
        rw [hnx.cell (by exact hb)]
        exact hT j v hv
      have HR := Lib.hid hr
      have HS := Lib.hid hS
      clear ht hr hT hT0 hlt2 hS HC
      have hv : t.val = [.int .i64 t.s, .int .i64 t.c, .int .i64 t.o, .int .i64 t.x, .int .i64 t.y, .int .i64 t.z] := rfl
      go_wp2_with (first
        | (refine wpList_load_mid rfl 107 (.tmp 10) rfl b (q + k * 6) rfl t.val _ HR.out Tryz.underlying107 rfl (by rw [s35]; rfl) ?_)
        | (at_builtin; refine wpList_append_own _ rfl (.tmp 12) (.tmp 14) 115 rfl w.heap.size 112 i0 (.agg #[.int .i64 0, .int .i64 0, .int .i64 0, .int .i64 0, .int .i64 0, .int .i64 0]) 6 48 Tryz.underlying115 hi hz0 hz1 hz2 rfl (by decide) _ k _ rfl ((hown.alloc _).alloc _) ⟨wr.heap.size + 1, 0, none⟩ 1 1 t.val rfl rfl (cells_new6' _ _ _ _ _ _ _ _ _) (by intro u hu; simp [Tel.val] at hu; rcases hu with rfl | rfl | rfl | rfl | rfl | rfl <;> rfl) (by unfold maxLen; omega) (by omega) (by simp; omega) ?_; intro v' w3 hown3 hgrow3 _))
      have hlt' := hown.lt
      go_roundw
      case rel => exact ⟨k + 1, by omega, by go_num, by rw [HS.out]; exact hown3, ((hnx.alloc (by omega) _).alloc (by simp; omega) _).grown hgrow3 (by simp; omega) (fun j hj => (hlt' j hj).1)⟩
      case measure => simp [intOf]; omega
    · obtain rfl : k = n := by omega
      have ho : wr.ownsRow w.heap.size 112 6 u3 k (L.flatMap Tel.val) := by
        have h := hown
        rwa [List.take_of_length_le (by have := HN.out; omega)] at h
      obtain ⟨a', c', hv, hA'⟩ := AnyTels.of_row HN.out.symm ho
      have HA := Lib.hid hA'
      have HX := Lib.hid hnx
      clear ho hown hA' hnx
      subst hv
      go_wp2
      go_ret
      exact ⟨_, _, rfl, HA.out, HX.out⟩

set_option maxRecDepth 100000 in
set_option maxHeartbeats 3200000 in
theorem mapped_tels (L : List Tel) (a : Option Addr) (n cp : Nat) (hm : n ≤ 512) (w : World) (hA : AnyTels w a n L) :
    Calls Tryz.prog 152 #[.slice a n cp, .func (.func 143) #[] #[]] w fun e w' =>
      e = .returned (.slice (some ⟨w.heap.size, 0, none⟩) n n) ∧ w'.ownsRow w.heap.size 26 1 (.slice (some ⟨w.heap.size, 0, none⟩) n n) n ((L.map Tel.err).map (Value.int .i64)) ∧ Below w.heap.size w w' := by
  obtain ⟨i0, hi, hz0, hz1, hz2⟩ := info_parts Tryz.info26_check
  have HC := Lib.hid hA.2
  have HN := Lib.hid hA.1.symm
  clear hA
  have s35 : (Tryz.prog.info? 112).map (·.size) = some 6 := by kernel_rfl
  go_enter Tryz.func152, Tryz.ntmps152
  go_wp2_with (at_make; refine wpList_make_own _ rfl _ _ 173 rfl w.heap.size 26 i0 (.int .i64 0) 1 Tryz.underlying173 hi hz0 hz1 _ _ _ n rfl rfl (by omega) ?b2 ?b3 (Nat.le_refl _) ?_)
  case b2 => rw [hz2]; omega
  case b3 => unfold maxLen; omega
  intro w0 hown0 hgrow0
  go_wp2
  go_loopw [5, 13] (fun out i wr => ∃ k : Nat, k ≤ n ∧ i = .int .i64 k ∧ out = .slice (some ⟨w.heap.size, 0, none⟩) k n ∧
      wr.ownsRow w.heap.size 26 1 (.slice (some ⟨w.heap.size, 0, none⟩) k n) k (((L.map Tel.err).take k).map (Value.int .i64)) ∧ Below w.heap.size w wr)
    (fun _ i _ => n - (intOf i).toNat)
  case atStart => exact ⟨0, Nat.zero_le _, rfl, rfl, hown0, (Below.refl _ _).grown hgrow0 (Nat.le_refl _) (fun k h => by cases h)⟩
  case round =>
    obtain ⟨k, hk, rfl, rfl, hown, hnx⟩ := hrel
    have hsz := hnx.size
    by_cases hlt : k < n
    · have hlt2 : k < L.length := by have := HN.out; omega
      obtain ⟨b, q, rfl, hb, hT0⟩ := HC.out k hlt
      have hT := hT0 k hlt2
      have hS := take_map_succ (Value.int .i64) (L.map Tel.err) k (by rw [List.length_map]; exact hlt2) 0
      have hE : (L.map Tel.err)[k]?.getD 0 = (L[k]?.getD tel0).err := by rw [List.getElem?_map, List.getElem?_eq_getElem hlt2]; rfl
      rw [hE] at hS
      clear hE
      obtain ⟨t, ht⟩ : ∃ t, L[k]?.getD tel0 = t := ⟨_, rfl⟩
      rw [ht] at hT hS
      have hr : wr.rangeAt b (q + k * 6) t.val := fun j v hv => by
        rw [hnx.cell (by exact hb)]
        exact hT j v hv
      have HR := Lib.hid hr
      have K := Lib.hid (checkTelegram_all t.s t.c t.o t.x t.y t.z)
      have HS := Lib.hid hS
      obtain ⟨r, hrr⟩ : ∃ r, t.err = r := ⟨_, rfl⟩
      rw [show telErr t.s t.c t.o t.x t.y t.z = r from hrr] at K
      rw [hrr] at HS
      clear ht hr hT hT0 hS hrr hlt2 HC
      have hv : t.val = [.int .i64 t.s, .int .i64 t.c, .int .i64 t.o, .int .i64 t.x, .int .i64 t.y, .int .i64 t.z] := rfl
      go_wp2_with (first
        | (refine wpList_load_mid rfl 112 (.tmp 15) rfl b (q + k * 6) rfl t.val _ HR.out Tryz.underlying112 rfl (by rw [s35]; rfl) ?_)
        | (go_at_call 143; refine (K.out _).mono ?_; rintro e w2 ⟨rfl, hb2⟩
           have hown2 := owns_kept (hown.alloc _) hb2 (Nat.le_refl _)
           have hs2 : wr.heap.size + 1 ≤ w2.heap.size := by simpa using hb2.size)
        | (at_builtin; refine wpList_append_fits _ rfl (.tmp 17) (.tmp 21) 173 rfl w.heap.size 26 i0 1 Tryz.underlying173 hi hz1 w.heap.size k n _ rfl (hown2.alloc _) ⟨w2.heap.size, 0, none⟩ 1 1 [.int .i64 r] rfl rfl (cell_one_new _ _ _) (by intro u hu; simp at hu; subst hu; rfl) (by omega) ?_; intro w1 hown1 hgrow1))
      have hB2 : Below w.heap.size w w2 := (hnx.alloc hsz _).trans (hb2.mono (by simp; omega))
      go_roundw
      case rel => exact ⟨k + 1, by omega, by go_num, rfl, by rw [HS.out]; exact hown1, (hB2.alloc (by omega) _).grown hgrow1 (by simp; omega) (fun j hj => by cases hj; exact Nat.le_refl _)⟩
      case measure => simp [intOf]; omega
    · go_wp2
      go_ret
      obtain rfl : k = n := by omega
      rw [List.take_of_length_le (by have := HN.out; rw [List.length_map]; omega)] at hown
      exact ⟨rfl, hown, hnx⟩

set_option maxRecDepth 100000 in
set_option maxHeartbeats 3200000 in
theorem countersOf_all (L : List Tel) (a : Option Addr) (n cp : Nat) (st : Int) (hm : n ≤ 512) (w : World) (hA : AnyTels w a n L) :
    Calls Tryz.prog 154 #[.slice a n cp, .int .i64 st] w fun e w' =>
      ∃ v, e = .returned v ∧ w'.ownsRow w.heap.size 3 1 v (countsOf L st).length ((countsOf L st).map (Value.int .i64)) ∧ Below w.heap.size w w' := by
  obtain ⟨i0, hi, hz0, hz1, hz2⟩ := info_parts Tryz.infoInt
  have HC := Lib.hid hA.2
  have HN := Lib.hid hA.1.symm
  clear hA
  have s35 : (Tryz.prog.info? 112).map (·.size) = some 6 := by kernel_rfl
  go_enter Tryz.func154, Tryz.ntmps154
  go_wp2
  go_loopw [5, 10] (fun out i wr => ∃ k : Nat, k ≤ n ∧ i = .int .i64 k ∧ wr.ownsRow w.heap.size 3 1 out (countsOf (L.take k) st).length ((countsOf (L.take k) st).map (Value.int .i64)) ∧ Below w.heap.size w wr)
    (fun _ i _ => n - (intOf i).toNat)
  case atStart => exact ⟨0, Nat.zero_le _, rfl, World.ownsRow_nil _ _ _ _, Below.refl _ _⟩
  case round =>
    obtain ⟨k, hk, rfl, hown, hnx⟩ := hrel
    have hsz : w.heap.size ≤ wr.heap.size := hnx.size
    by_cases hlt : k < n
    · obtain ⟨b, q, rfl, hb, hT0⟩ := HC.out k hlt
      have hT := hT0 k (by have := HN.out; omega)
      have hS := countsOf_succ L st k (by have := HN.out; omega)
      obtain ⟨t, ht⟩ : ∃ t, L[k]?.getD tel0 = t := ⟨_, rfl⟩
      rw [ht] at hT hS
      have hr : wr.rangeAt b (q + k * 6) t.val := fun j v hv => by
        rw [hnx.cell (by exact hb)]
        exact hT j v hv
      have HR := Lib.hid hr
      have HS := Lib.hid hS
      clear ht hr hT hT0 hS HC
      have hv : t.val = [.int .i64 t.s, .int .i64 t.c, .int .i64 t.o, .int .i64 t.x, .int .i64 t.y, .int .i64 t.z] := rfl
      have hcl := counts_len (L.take k) st
      have hcl2 : (L.take k).length ≤ k := by simp; omega
      by_cases hst : t.s = st
      · have HST := Lib.hid hst
        have hst1 : (t.s == st) = true := by simp [hst]
        clear hst
        go_wp2_with (first
          | (refine wpList_load_mid rfl 112 (.tmp 12) rfl b (q + k * 6) rfl t.val _ HR.out Tryz.underlying112 rfl (by rw [s35]; rfl) ?_)
          | (at_builtin; refine wpList_append_own _ rfl (.tmp 18) (.tmp 21) 25 rfl w.heap.size 3 i0 (.int .i64 0) 1 8 Tryz.underlying25 hi hz0 hz1 hz2 rfl (by decide) _ _ _ rfl ((hown.alloc _).alloc _) ⟨wr.heap.size + 1, 0, none⟩ 1 1 [.int .i64 t.c] rfl rfl (by have h := cell_one_new (wr.alloc (.cells #[.int .i64 t.s, .int .i64 t.c, .int .i64 t.o, .int .i64 t.x, .int .i64 t.y, .int .i64 t.z] 112)) (.int .i64 t.c) 3; simpa using h) (by intro u hu; simp at hu; subst hu; rfl) (by unfold maxLen; omega) (by omega) (by simp; omega) ?_; intro v' w3 hown3 hgrow3 _))
        have hlt' := hown.lt
        go_roundw
        case rel => exact ⟨k + 1, by omega, by go_num, by rw [HS.out, if_pos HST.out, List.map_append, List.length_append]; exact hown3, ((hnx.alloc hsz _).alloc (by simp; omega) _).grown hgrow3 (by simp; omega) (fun j hj => (hlt' j hj).1)⟩
        case measure => simp [intOf]; omega
      · go_wp2_with (first
          | (refine wpList_load_mid rfl 112 (.tmp 12) rfl b (q + k * 6) rfl t.val _ HR.out Tryz.underlying112 rfl (by rw [s35]; rfl) ?_))
        go_roundw
        case rel => exact ⟨k + 1, by omega, by go_num, by rw [HS.out, if_neg hst]; exact hown.alloc _, hnx.alloc hsz _⟩
        case measure => simp [intOf]; omega
    · go_wp2
      go_ret
      obtain rfl : k = n := by omega
      rw [List.take_of_length_le (by have := HN.out; omega)] at hown
      exact ⟨_, rfl, hown, hnx⟩
end Go.Proofs.YtlnhgplloaiiiaaGreatDoor
