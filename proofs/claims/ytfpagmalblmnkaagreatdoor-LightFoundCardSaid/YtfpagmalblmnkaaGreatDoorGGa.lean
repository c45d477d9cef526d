/-
  Contracts of limited and checkTelegram for every telegram.
-/
import Derived.Test.YtfpagmalblmnkaaGreatDoorGWp
import Derived.Test.YtfpagmalblmnkaaGreatDoorGHa
import Derived.Deep.CutBlock
import Derived.Deep.DeepCutAuto
import Derived.Laws.FloatArith
import Derived.Laws.BitsAllLaws
namespace Go.Proofs.YtfpagmalblmnkaaGreatDoor
open Go.RowKit
set_option linter.unusedVariables false
set_option linter.unusedSimpArgs false

/-- A number brought into its range. -/
def clamp (lo hi n : Int) : Int := min (max n lo) hi
theorem clamp_in {lo hi n : Int} (h1 : lo ≤ n) (h2 : n ≤ hi) : clamp lo hi n = n := by unfold clamp; omega
theorem clamp_out {lo hi n : Int} (h : lo ≤ hi) (h1 : ¬ (lo ≤ n ∧ n ≤ hi)) : clamp lo hi n ≠ n := by unfold clamp; omega
theorem run_maxL (n m : Int) : ∀ (ts : Array TypeId) (t : TypeId) (w : World), (Builtin.max_ ts t #[.int .i64 n, .int .i64 m]).run Tryz.prog w = .ok (.int .i64 (max n m)) w := fun ts t w => by
  rw [run_max_int2]
  by_cases h : n < m
  · rw [if_pos h, show max n m = m by omega]
  · rw [if_neg h, show max n m = n by omega]
theorem run_minL (n m : Int) : ∀ (ts : Array TypeId) (t : TypeId) (w : World), (Builtin.min_ ts t #[.int .i64 n, .int .i64 m]).run Tryz.prog w = .ok (.int .i64 (min n m)) w := fun ts t w => by
  rw [run_min_int2]
  by_cases h : m < n
  · rw [if_pos h, show min n m = m by omega]
  · rw [if_neg h, show min n m = n by omega]

set_option maxHeartbeats 800000 in
theorem reach_all (n : Int) (w : World) :
    Calls Tryz.prog 169 #[.int .i64 n] w fun e w' => e = .returned (.int .i64 (clamp (-1048576) 1048576 n)) ∧ w = w' := by
  have m1 := run_maxL n (-1048576)
  obtain ⟨a, ha⟩ : ∃ a : Int, max n (-1048576) = a := ⟨_, rfl⟩
  rw [ha] at m1
  have n1 := run_minL a 1048576
  obtain ⟨b, hb⟩ : ∃ b : Int, min a 1048576 = b := ⟨_, rfl⟩
  rw [hb] at n1
  have e : clamp (-1048576) 1048576 n = b := by unfold clamp; rw [ha, hb]
  rw [e]
  clear ha hb e
  go_enter Tryz.func169, Tryz.ntmps169
  go_wp2
  go_ret
  exact ⟨rfl, rfl⟩

set_option maxRecDepth 100000 in
set_option maxHeartbeats 1600000 in
theorem limited_all (s c o x y z : Int) (w : World) :
    Calls Tryz.prog 146 #[.agg #[.int .i64 s, .int .i64 c, .int .i64 o, .int .i64 x, .int .i64 y, .int .i64 z]] w fun e w' =>
      e = .returned (.agg #[.int .i64 (clamp 0 255 s), .int .i64 (clamp 0 65535 c), .int .i64 (clamp 0 255 o), .int .i64 (clamp (-1048576) 1048576 x), .int .i64 (clamp (-1048576) 1048576 y), .int .i64 (clamp (-1048576) 1048576 z)]) ∧ Below w.heap.size w w' := by
  have m1 := run_maxL s 0
  obtain ⟨a1, ha1⟩ : ∃ a : Int, max s 0 = a := ⟨_, rfl⟩
  rw [ha1] at m1
  have n1 := run_minL a1 255
  obtain ⟨s', hv1⟩ : ∃ b : Int, min a1 255 = b := ⟨_, rfl⟩
  rw [hv1] at n1
  rw [show clamp 0 255 s = s' by unfold clamp; rw [ha1, hv1]]
  clear ha1 hv1
  have m2 := run_maxL c 0
  obtain ⟨a2, ha2⟩ : ∃ a : Int, max c 0 = a := ⟨_, rfl⟩
  rw [ha2] at m2
  have n2 := run_minL a2 65535
  obtain ⟨c', hv2⟩ : ∃ b : Int, min a2 65535 = b := ⟨_, rfl⟩
  rw [hv2] at n2
  rw [show clamp 0 65535 c = c' by unfold clamp; rw [ha2, hv2]]
  clear ha2 hv2
  have m3 := run_maxL o 0
  obtain ⟨a3, ha3⟩ : ∃ a : Int, max o 0 = a := ⟨_, rfl⟩
  rw [ha3] at m3
  have n3 := run_minL a3 255
  obtain ⟨o', hv3⟩ : ∃ b : Int, min a3 255 = b := ⟨_, rfl⟩
  rw [hv3] at n3
  rw [show clamp 0 255 o = o' by unfold clamp; rw [ha3, hv3]]
  clear ha3 hv3
  have kx := reach_all x
  obtain ⟨x', hvx⟩ : ∃ b : Int, clamp (-1048576) 1048576 x = b := ⟨_, rfl⟩
  rw [hvx] at kx ⊢
  clear hvx
  have ky := reach_all y
  obtain ⟨y', hvy⟩ : ∃ b : Int, clamp (-1048576) 1048576 y = b := ⟨_, rfl⟩
  rw [hvy] at ky ⊢
  clear hvy
  have kz := reach_all z
  obtain ⟨z', hvz⟩ : ∃ b : Int, clamp (-1048576) 1048576 z = b := ⟨_, rfl⟩
  rw [hvz] at kz ⊢
  clear hvz
  go_enter Tryz.func146, Tryz.ntmps146
  go_wp2_with fail
  refine wp_region_still_tail 29 (by kernel_rfl) (by kernel_rfl) ?_
  simp only [List.take_succ_cons, List.take_zero, List.drop_succ_cons, List.drop_zero]
  obtain ⟨W1, hW1⟩ : ∃ W1, W1 = (((w.alloc (.cells #[.int .i64 s, .int .i64 c, .int .i64 o, .int .i64 x, .int .i64 y, .int .i64 z] 79)).alloc (.cells #[.int .i64 0, .int .i64 0, .int .i64 0, .int .i64 0, .int .i64 0, .int .i64 0] 79)).drew) := ⟨_, rfl⟩
  change wpStill _ _ (((w.alloc (.cells #[.int .i64 s, .int .i64 c, .int .i64 o, .int .i64 x, .int .i64 y, .int .i64 z] 79)).alloc (.cells #[.int .i64 0, .int .i64 0, .int .i64 0, .int .i64 0, .int .i64 0, .int .i64 0] 79)).drew) (fun a' => wpList _ _ _ _ a' (((w.alloc (.cells #[.int .i64 s, .int .i64 c, .int .i64 o, .int .i64 x, .int .i64 y, .int .i64 z] 79)).alloc (.cells #[.int .i64 0, .int .i64 0, .int .i64 0, .int .i64 0, .int .i64 0, .int .i64 0] 79)).drew)) _ _
  rw [← hW1]
  have c0 : W1.cell? ⟨w.heap.size, 0, none⟩ = some (.int .i64 s) := by rw [hW1]; simp [go_sem]
  have c1 : W1.cell? ⟨w.heap.size, 1, none⟩ = some (.int .i64 c) := by rw [hW1]; simp [go_sem]
  have c2 : W1.cell? ⟨w.heap.size, 2, none⟩ = some (.int .i64 o) := by rw [hW1]; simp [go_sem]
  have c3 : W1.cell? ⟨w.heap.size, 3, none⟩ = some (.int .i64 x) := by rw [hW1]; simp [go_sem]
  have c4 : W1.cell? ⟨w.heap.size, 4, none⟩ = some (.int .i64 y) := by rw [hW1]; simp [go_sem]
  have c5 : W1.cell? ⟨w.heap.size, 5, none⟩ = some (.int .i64 z) := by rw [hW1]; simp [go_sem]
  have k4 := (kx W1).mono fun e w' (h : _ ∧ _) => (⟨h.1, h.2.symm⟩ : e = .returned (.int .i64 x') ∧ w' = W1)
  have k5 := (ky W1).mono fun e w' (h : _ ∧ _) => (⟨h.1, h.2.symm⟩ : e = .returned (.int .i64 y') ∧ w' = W1)
  have k6 := (kz W1).mono fun e w' (h : _ ∧ _) => (⟨h.1, h.2.symm⟩ : e = .returned (.int .i64 z') ∧ w' = W1)
  have K4 := Lib.hid k4
  have K5 := Lib.hid k5
  have K6 := Lib.hid k6
  have HW1 := Lib.hid hW1
  clear k4 k5 k6 kx ky kz hW1
  repeat still_step
  still_call K4.out
  repeat still_step
  still_call K5.out
  repeat still_step
  still_call K6.out
  repeat still_step
  refine wpStill_nil ?_
  rw [HW1.out]
  go_wp2
  refine bodyPost_ret (v := .agg #[.int .i64 s', .int .i64 c', .int .i64 o', .int .i64 x', .int .i64 y', .int .i64 z']) (by simp [results, Tryz.results146, go_sem]) rfl ⟨rfl, ?_⟩
  go_grown

open Classical in
noncomputable def telErr (s c o x y z : Int) : Int := if GoodT s c o x y z then 0 else 3
theorem telErr_good {s c o x y z : Int} (h : GoodT s c o x y z) : telErr s c o x y z = 0 := by unfold telErr; simp [h]
theorem telErr_bad {s c o x y z : Int} (h : ¬ GoodT s c o x y z) : telErr s c o x y z = 3 := by unfold telErr; simp [h]
theorem telErr_zero {s c o x y z : Int} (h : telErr s c o x y z = 0) : GoodT s c o x y z := Classical.byContradiction fun hn => by rw [telErr_bad hn] at h; cases h

set_option maxRecDepth 100000 in
set_option maxHeartbeats 6400000 in
theorem checkTelegram_all (s c o x y z : Int) (w : World) :
    Calls Tryz.prog 96 #[.agg #[.int .i64 s, .int .i64 c, .int .i64 o, .int .i64 x, .int .i64 y, .int .i64 z]] w fun e w' => e = .returned (.int .i64 (telErr s c o x y z)) ∧ Below w.heap.size w w' := by
  by_cases hg : GoodT s c o x y z
  · rw [telErr_good hg]
    exact checkTelegram_any s c o x y z hg w
  rw [telErr_bad hg]
  have K := Lib.hid (limited_all s c o x y z)
  obtain ⟨s', hvs⟩ : ∃ b : Int, clamp 0 255 s = b := ⟨_, rfl⟩
  obtain ⟨c', hvc⟩ : ∃ b : Int, clamp 0 65535 c = b := ⟨_, rfl⟩
  obtain ⟨o', hvo⟩ : ∃ b : Int, clamp 0 255 o = b := ⟨_, rfl⟩
  obtain ⟨x', hvx⟩ : ∃ b : Int, clamp (-1048576) 1048576 x = b := ⟨_, rfl⟩
  obtain ⟨y', hvy⟩ : ∃ b : Int, clamp (-1048576) 1048576 y = b := ⟨_, rfl⟩
  obtain ⟨z', hvz⟩ : ∃ b : Int, clamp (-1048576) 1048576 z = b := ⟨_, rfl⟩
  rw [hvs, hvc, hvo, hvx, hvy, hvz] at K
  have gs : s' = s → 0 ≤ s ∧ s ≤ 255 := fun h => by rw [← hvs] at h; unfold clamp at h; omega
  have gc : c' = c → 0 ≤ c ∧ c ≤ 65535 := fun h => by rw [← hvc] at h; unfold clamp at h; omega
  have go : o' = o → 0 ≤ o ∧ o ≤ 255 := fun h => by rw [← hvo] at h; unfold clamp at h; omega
  have gx : x' = x → -1048576 ≤ x ∧ x ≤ 1048576 := fun h => by rw [← hvx] at h; unfold clamp at h; omega
  have gy : y' = y → -1048576 ≤ y ∧ y ≤ 1048576 := fun h => by rw [← hvy] at h; unfold clamp at h; omega
  have gz : z' = z → -1048576 ≤ z ∧ z ≤ 1048576 := fun h => by rw [← hvz] at h; unfold clamp at h; omega
  clear hvs hvc hvo hvx hvy hvz
  by_cases es : s' = s
  rotate_left 1
  · have qs : (s' == s) = false := by simp [es]
    clear es gs gc go gx gy gz
    clear hg
    go_enter Tryz.func96, Tryz.ntmps96
    go_wp2_with fail
    go_region_held3 (fun w' => w'.cell? ⟨w.heap.size, 0, none⟩ = some (.int .i64 s) ∧ w'.cell? ⟨w.heap.size, 1, none⟩ = some (.int .i64 c) ∧ w'.cell? ⟨w.heap.size, 2, none⟩ = some (.int .i64 o) ∧ w'.cell? ⟨w.heap.size, 3, none⟩ = some (.int .i64 x) ∧ w'.cell? ⟨w.heap.size, 4, none⟩ = some (.int .i64 y) ∧ w'.cell? ⟨w.heap.size, 5, none⟩ = some (.int .i64 z))
      (first | go_keep | (go_split_ands; refine ⟨?_, ?_, ?_, ?_, ?_, ?_⟩ <;> (rw [hb.cell (by simp)]; assumption)))
      ((go_at_call 146; refine (K.out _).mono ?_; rintro e w' ⟨rfl, hb⟩))
    all_goals
      go_wp2
      go_ret
      exact ⟨rfl, ((Below.refl _ w).alloc (Nat.le_refl _) _).drew.trans (hb.mono (by simp))⟩
  have fs := es.symm
  clear es
  subst fs
  by_cases ec : c' = c
  rotate_left 1
  · have qc : (c' == c) = false := by simp [ec]
    clear ec gs gc go gx gy gz
    clear hg
    go_enter Tryz.func96, Tryz.ntmps96
    go_wp2_with fail
    go_region_held3 (fun w' => w'.cell? ⟨w.heap.size, 0, none⟩ = some (.int .i64 s) ∧ w'.cell? ⟨w.heap.size, 1, none⟩ = some (.int .i64 c) ∧ w'.cell? ⟨w.heap.size, 2, none⟩ = some (.int .i64 o) ∧ w'.cell? ⟨w.heap.size, 3, none⟩ = some (.int .i64 x) ∧ w'.cell? ⟨w.heap.size, 4, none⟩ = some (.int .i64 y) ∧ w'.cell? ⟨w.heap.size, 5, none⟩ = some (.int .i64 z))
      (first | go_keep | (go_split_ands; refine ⟨?_, ?_, ?_, ?_, ?_, ?_⟩ <;> (rw [hb.cell (by simp)]; assumption)))
      ((go_at_call 146; refine (K.out _).mono ?_; rintro e w' ⟨rfl, hb⟩))
    all_goals
      go_wp2
      go_ret
      exact ⟨rfl, ((Below.refl _ w).alloc (Nat.le_refl _) _).drew.trans (hb.mono (by simp))⟩
  have fc := ec.symm
  clear ec
  subst fc
  by_cases eo : o' = o
  rotate_left 1
  · have qo : (o' == o) = false := by simp [eo]
    clear eo gs gc go gx gy gz
    clear hg
    go_enter Tryz.func96, Tryz.ntmps96
    go_wp2_with fail
    go_region_held3 (fun w' => w'.cell? ⟨w.heap.size, 0, none⟩ = some (.int .i64 s) ∧ w'.cell? ⟨w.heap.size, 1, none⟩ = some (.int .i64 c) ∧ w'.cell? ⟨w.heap.size, 2, none⟩ = some (.int .i64 o) ∧ w'.cell? ⟨w.heap.size, 3, none⟩ = some (.int .i64 x) ∧ w'.cell? ⟨w.heap.size, 4, none⟩ = some (.int .i64 y) ∧ w'.cell? ⟨w.heap.size, 5, none⟩ = some (.int .i64 z))
      (first | go_keep | (go_split_ands; refine ⟨?_, ?_, ?_, ?_, ?_, ?_⟩ <;> (rw [hb.cell (by simp)]; assumption)))
      ((go_at_call 146; refine (K.out _).mono ?_; rintro e w' ⟨rfl, hb⟩))
    all_goals
      go_wp2
      go_ret
      exact ⟨rfl, ((Below.refl _ w).alloc (Nat.le_refl _) _).drew.trans (hb.mono (by simp))⟩
  have fo := eo.symm
  clear eo
  subst fo
  by_cases ex : x' = x
  rotate_left 1
  · have qx : (x' == x) = false := by simp [ex]
    clear ex gs gc go gx gy gz
    clear hg
    go_enter Tryz.func96, Tryz.ntmps96
    go_wp2_with fail
    go_region_held3 (fun w' => w'.cell? ⟨w.heap.size, 0, none⟩ = some (.int .i64 s) ∧ w'.cell? ⟨w.heap.size, 1, none⟩ = some (.int .i64 c) ∧ w'.cell? ⟨w.heap.size, 2, none⟩ = some (.int .i64 o) ∧ w'.cell? ⟨w.heap.size, 3, none⟩ = some (.int .i64 x) ∧ w'.cell? ⟨w.heap.size, 4, none⟩ = some (.int .i64 y) ∧ w'.cell? ⟨w.heap.size, 5, none⟩ = some (.int .i64 z))
      (first | go_keep | (go_split_ands; refine ⟨?_, ?_, ?_, ?_, ?_, ?_⟩ <;> (rw [hb.cell (by simp)]; assumption)))
      ((go_at_call 146; refine (K.out _).mono ?_; rintro e w' ⟨rfl, hb⟩))
    all_goals
      go_wp2
      go_ret
      exact ⟨rfl, ((Below.refl _ w).alloc (Nat.le_refl _) _).drew.trans (hb.mono (by simp))⟩
  have fx := ex.symm
  clear ex
  subst fx
  by_cases ey : y' = y
  rotate_left 1
  · have qy : (y' == y) = false := by simp [ey]
    clear ey gs gc go gx gy gz
    clear hg
    go_enter Tryz.func96, Tryz.ntmps96
    go_wp2_with fail
    go_region_held3 (fun w' => w'.cell? ⟨w.heap.size, 0, none⟩ = some (.int .i64 s) ∧ w'.cell? ⟨w.heap.size, 1, none⟩ = some (.int .i64 c) ∧ w'.cell? ⟨w.heap.size, 2, none⟩ = some (.int .i64 o) ∧ w'.cell? ⟨w.heap.size, 3, none⟩ = some (.int .i64 x) ∧ w'.cell? ⟨w.heap.size, 4, none⟩ = some (.int .i64 y) ∧ w'.cell? ⟨w.heap.size, 5, none⟩ = some (.int .i64 z))
      (first | go_keep | (go_split_ands; refine ⟨?_, ?_, ?_, ?_, ?_, ?_⟩ <;> (rw [hb.cell (by simp)]; assumption)))
      ((go_at_call 146; refine (K.out _).mono ?_; rintro e w' ⟨rfl, hb⟩))
    all_goals
      go_wp2
      go_ret
      exact ⟨rfl, ((Below.refl _ w).alloc (Nat.le_refl _) _).drew.trans (hb.mono (by simp))⟩
  have fy := ey.symm
  clear ey
  subst fy
  by_cases ez : z' = z
  rotate_left 1
  · have qz : (z' == z) = false := by simp [ez]
    clear ez gs gc go gx gy gz
    clear hg
    go_enter Tryz.func96, Tryz.ntmps96
    go_wp2_with fail
    go_region_held3 (fun w' => w'.cell? ⟨w.heap.size, 0, none⟩ = some (.int .i64 s) ∧ w'.cell? ⟨w.heap.size, 1, none⟩ = some (.int .i64 c) ∧ w'.cell? ⟨w.heap.size, 2, none⟩ = some (.int .i64 o) ∧ w'.cell? ⟨w.heap.size, 3, none⟩ = some (.int .i64 x) ∧ w'.cell? ⟨w.heap.size, 4, none⟩ = some (.int .i64 y) ∧ w'.cell? ⟨w.heap.size, 5, none⟩ = some (.int .i64 z))
      (first | go_keep | (go_split_ands; refine ⟨?_, ?_, ?_, ?_, ?_, ?_⟩ <;> (rw [hb.cell (by simp)]; assumption)))
      ((go_at_call 146; refine (K.out _).mono ?_; rintro e w' ⟨rfl, hb⟩))
    all_goals
      go_wp2
      go_ret
      exact ⟨rfl, ((Below.refl _ w).alloc (Nat.le_refl _) _).drew.trans (hb.mono (by simp))⟩
  have fz := ez.symm
  clear ez
  subst fz
  exact absurd ⟨gs rfl, gc rfl, go rfl, gx rfl, gy rfl, gz rfl⟩ hg
end Go.Proofs.YtfpagmalblmnkaaGreatDoor

/-
  Contract of Decode for any 24 bytes.
-/
namespace Go.Proofs.YtfpagmalblmnkaaGreatDoor
open Go.RowKit
set_option linter.unusedVariables false
set_option linter.unusedSimpArgs false

section
variable {P : Program} (w : World)
theorem run_equalIn_bytes (d : Nat) (t e : TypeId) (n : Nat) (ht : P.underlying t = some (.array n e)) (he : P.underlying e = some (.int .u8)) (hsz : ∀ w, (sizeOf e).run P w = .ok 1 w) (xs ys : List Int) (hx : xs.length = n) (hy : ys.length = n) :
    (Op.equalIn (d + 2) t (.agg (xs.map (Value.int .u8)).toArray) (.agg (ys.map (Value.int .u8)).toArray)).run P w = .ok (decide (xs = ys)) w := by
  rw [Op.equalIn]
  simp only [Sem.run_bind, run_underlying ht, Result.andThen_ok, hsz, Std.Legacy.Range.forIn_eq_forIn_range', Std.Legacy.Range.size, Nat.sub_zero, Nat.add_sub_cancel, Nat.div_one]
  have hl : ∀ i ∈ List.range' 0 n 1, i < n := fun i hi => by simpa using (List.mem_range'_1.1 hi).2
  have hd : decide (xs = ys) = decide (∀ i ∈ List.range' 0 n 1, xs[i]?.getD 0 = ys[i]?.getD 0) := by
    refine decide_eq_decide.2 ⟨fun h i _ => by rw [h], fun h => ?_⟩
    refine List.ext_getElem (by omega) fun i h1 h2 => ?_
    have := h i (by rw [List.mem_range'_1]; omega)
    rw [List.getElem?_eq_getElem h1, List.getElem?_eq_getElem h2] at this
    exact this
  rw [hd]
  clear hd
  generalize List.range' 0 n 1 = l at hl ⊢
  induction l with
  | nil => simp
  | cons i l ih =>
    have hi : i < n := hl i (by simp)
    have px : (part e (xs.map (Value.int .u8)).toArray (i * 1)).run P w = .ok (Value.int .u8 (xs[i]?.getD 0)) w := by
      simp [part, isAgg, run_underlying he, List.getElem?_eq_getElem (show i < xs.length by omega)]
    have py : (part e (ys.map (Value.int .u8)).toArray (i * 1)).run P w = .ok (Value.int .u8 (ys[i]?.getD 0)) w := by
      simp [part, isAgg, run_underlying he, List.getElem?_eq_getElem (show i < ys.length by omega)]
    have pe : (Op.equalIn (d + 1) e (Value.int .u8 (xs[i]?.getD 0)) (Value.int .u8 (ys[i]?.getD 0))).run P w = .ok (xs[i]?.getD 0 == ys[i]?.getD 0) w := by
      rw [run_equalIn_int w d e .u8 .u8 _ _ he]
    simp only [List.forIn_cons, Sem.run_bind, px, py, pe, Result.andThen_ok]
    by_cases h : xs[i]?.getD 0 = ys[i]?.getD 0
    · have h2 : (xs[i]?.getD 0 == ys[i]?.getD 0) = true := by simp [h]
      simp only [h2, Bool.not_true, Bool.false_eq_true, if_false, Sem.run_pure, Result.andThen_ok]
      have e2 : (decide (∀ j ∈ i :: l, xs[j]?.getD 0 = ys[j]?.getD 0)) = decide (∀ j ∈ l, xs[j]?.getD 0 = ys[j]?.getD 0) := by
        refine decide_eq_decide.2 ⟨fun hh j hj => hh j (by simp [hj]), fun hh j hj => ?_⟩
        rcases List.mem_cons.1 hj with rfl | hj
        · exact h
        · exact hh j hj
      rw [e2]
      exact ih fun j hj => hl j (by simp [hj])
    · have h2 : (xs[i]?.getD 0 == ys[i]?.getD 0) = false := by simp [h]
      have e2 : (decide (∀ j ∈ i :: l, xs[j]?.getD 0 = ys[j]?.getD 0)) = false := decide_eq_false fun hh => h (hh i (by simp))
      rw [e2]
      simp [h2]
theorem run_neq_bytes (t e : TypeId) (n : Nat) (ht : P.underlying t = some (.array n e)) (he : P.underlying e = some (.int .u8)) (hsz : ∀ w, (sizeOf e).run P w = .ok 1 w) (xs ys : List Int) (hx : xs.length = n) (hy : ys.length = n) :
    (binOp .neq t (.agg (xs.map (Value.int .u8)).toArray) (.agg (ys.map (Value.int .u8)).toArray)).run P w = .ok (.bool (!decide (xs = ys))) w := by
  rw [run_neq_struct, run_equalIn_bytes w 9998 t e n ht he hsz xs ys hx hy]
  rfl
end

set_option maxRecDepth 100000 in
set_option maxHeartbeats 3200000 in
theorem decode_form (F : List Int) (hF : F.length = 24) (h0 : F[0]?.getD 0 ≠ 77) (w : World) :
    Calls Tryz.prog 33 #[.agg (F.map (Value.int .u8)).toArray] w fun e w' => e = .returned (.tuple #[.agg #[.int .i64 0, .int .i64 0, .int .i64 0, .int .i64 0, .int .i64 0, .int .i64 0], .int .i64 1]) ∧ Below w.heap.size w w' := by
  obtain ⟨V, hV⟩ : ∃ V, F.map (Value.int .u8) = V := ⟨_, rfl⟩
  obtain ⟨u, hu⟩ : ∃ u, F[0]?.getD 0 = u := ⟨_, rfl⟩
  have V0 : V[0]? = some (.int .u8 u) := by rw [← hV, List.getElem?_map, List.getElem?_eq_getElem (by omega), ← hu, List.getElem?_eq_getElem (by omega)]; rfl
  have V24 : V.length = 24 := by rw [← hV]; simp [hF]
  have e0 : (u != 77) = true := by rw [← hu]; simp [h0]
  rw [hV]
  have r0 : ((w.alloc (.cells V.toArray 80)).alloc (.cells #[.int .i64 0, .int .i64 0, .int .i64 0, .int .i64 0, .int .i64 0, .int .i64 0] 79)).heap[w.heap.size]? = some (.cells V.toArray 80 (0, 0)) := by
    rw [Below.heap_alloc _ _ _ (by simp)]
    exact heap_alloc_new w _
  have r2 : ((w.alloc (.cells V.toArray 80)).alloc (.cells #[.int .i64 0, .int .i64 0, .int .i64 0, .int .i64 0, .int .i64 0, .int .i64 0] 79)).heap[w.heap.size + 1]? = some (.cells #[.int .i64 0, .int .i64 0, .int .i64 0, .int .i64 0, .int .i64 0, .int .i64 0] 79 (0, 0)) := heap_alloc2_new w _ _
  have hc0 : ((w.alloc (.cells V.toArray 80)).alloc (.cells #[.int .i64 0, .int .i64 0, .int .i64 0, .int .i64 0, .int .i64 0, .int .i64 0] 79)).cell? ⟨w.heap.size, 0, none⟩ = some (.int .u8 u) := by
    rw [cell_of_row _ _ 0 _ _ (0, 0) r0]; simpa using V0
  have HB : Hid (Below w.heap.size w ((w.alloc (.cells V.toArray 80)).alloc (.cells #[.int .i64 0, .int .i64 0, .int .i64 0, .int .i64 0, .int .i64 0, .int .i64 0] 79))) := Lib.hid (((Below.refl _ w).alloc (Nat.le_refl _) _).alloc (by simp) _)
  obtain ⟨W1, hW1⟩ : ∃ W1, ((w.alloc (.cells V.toArray 80)).alloc (.cells #[.int .i64 0, .int .i64 0, .int .i64 0, .int .i64 0, .int .i64 0, .int .i64 0] 79)) = W1 := ⟨_, rfl⟩
  rw [hW1] at r2 hc0 HB
  have R2 := Lib.hid r2
  clear r0 r2 V0 hV hu h0 V24
  go_enter Tryz.func33, Tryz.ntmps33
  go_upto_region 1 with fail
  try rw [hW1]
  clear hW1
  go_wp2_with (refine wpList_store_row rfl 79 (.tmp 2) (.tmp 9) rfl (w.heap.size + 1) rfl _ rfl 79 _ R2.out ?i2 ?i3 ?i4 ?_)
  case i2 => rfl
  case i3 => kernel_rfl
  case i4 => first | exact ⟨rfl, rfl, rfl, rfl, rfl, rfl⟩ | exact rfl | simp
  go_wp2
  refine bodyPost_ret (results_row_tmp Tryz.results33 _ _ (w.heap.size + 1) 79 _ (0, 0) _ rfl (setRow_heap W1 _ _ _ _ _ R2.out) Tryz.underlying79 rfl (by kernel_rfl)) rfl ⟨rfl, ?_⟩
  exact HB.out.trans ((OnlyBlk.setRow W1 (w.heap.size + 1) _).below HB.out.size (by omega))

set_option maxRecDepth 100000 in
set_option maxHeartbeats 3200000 in
theorem decode_check (s c o x y z : Int) (R : List Int) (hR : R.length = 7) (hT : R ≠ tail7 s c o x y z) (h : FitT s c o x y z) (w : World) :
    Calls Tryz.prog 33 #[.agg ((rawF s c o x y z R).map (Value.int .u8)).toArray] w fun e w' =>
      e = .returned (.tuple #[.agg #[.int .i64 0, .int .i64 0, .int .i64 0, .int .i64 0, .int .i64 0, .int .i64 0], .int .i64 27]) ∧ Below w.heap.size w w' := by
  have K1 := Lib.hid (telegramOf_raw s c o x y z R h)
  have K2 := Lib.hid (frameOf_fit s c o x y z h)
  clear h
  have hne0 : ∀ w, (binOp .neq 80 (.agg ((frame s c o x y z).map (Value.int .u8)).toArray) (.agg ((rawF s c o x y z R).map (Value.int .u8)).toArray)).run Tryz.prog w = .ok (.bool true) w := fun w => by
    have h := run_neq_bytes w _ _ 24 Tryz.underlying80 Tryz.underlying5 (fun _ => by kernel_rfl) (frame s c o x y z) (rawF s c o x y z R) (frame_len ..) (rawF_len _ _ _ _ _ _ R hR)
    rw [decide_eq_false (fun e => hT (rawF_inj (by rw [← frame_raw]; exact e.symm)))] at h
    exact h
  obtain ⟨V1, hV1⟩ : ∃ V1, ((frame s c o x y z).map (Value.int .u8)) = V1 := ⟨_, rfl⟩
  obtain ⟨V, hV⟩ : ∃ V, ((rawF s c o x y z R).map (Value.int .u8)) = V := ⟨_, rfl⟩
  have V24 : V.length = 24 := by rw [← hV]; simp [rawF_len s c o x y z R hR]
  have V0 : V[0]? = some (.int .u8 77) := by rw [← hV]; rfl
  have V0' : ∀ (h : 0 < V.length), V[0]'h = .int .u8 77 := fun h => by rw [List.getElem?_eq_getElem h] at V0; exact Option.some.inj V0
  have hne := hne0
  rw [hV1, hV] at hne
  rw [hV1] at K2
  rw [hV] at K1 ⊢
  clear hV hV1 hne0 hT hR
  have hi36 : (Tryz.prog.info? 80).map (·.size) = some V.length := by rw [size24, V24]
  have r0 : ((w.alloc (.cells V.toArray 80)).alloc (.cells #[.int .i64 0, .int .i64 0, .int .i64 0, .int .i64 0, .int .i64 0, .int .i64 0] 79)).heap[w.heap.size]? = some (.cells V.toArray 80 (0, 0)) := by
    rw [Below.heap_alloc _ _ _ (by simp)]
    exact heap_alloc_new w _
  have r2 : ((w.alloc (.cells V.toArray 80)).alloc (.cells #[.int .i64 0, .int .i64 0, .int .i64 0, .int .i64 0, .int .i64 0, .int .i64 0] 79)).heap[w.heap.size + 1]? = some (.cells #[.int .i64 0, .int .i64 0, .int .i64 0, .int .i64 0, .int .i64 0, .int .i64 0] 79 (0, 0)) := heap_alloc2_new w _ _
  have R0 := Lib.hid r0
  have R2 := Lib.hid r2
  clear r0 r2 V0
  go_enter Tryz.func33, Tryz.ntmps33
  go_wp2_with (first
    | (refine wpList_load_row rfl 80 (.tmp 1) rfl w.heap.size rfl 80 _ (0, 0) _ R0.out Tryz.underlying80 rfl ?i1 ?_)
    | (go_at_call 98; refine (K1.out _).mono ?_; rintro e w1 ⟨rfl, hb1⟩))
  case i1 => rw [hi36]; simp
  obtain ⟨W2, hW2⟩ : ∃ W2, w1.alloc (.cells #[.int .i64 s, .int .i64 c, .int .i64 o, .int .i64 x, .int .i64 y, .int .i64 z] 79) = W2 := ⟨_, rfl⟩
  have hs1 : w.heap.size + 2 ≤ w1.heap.size := by have := hb1.size; simpa using this
  have z2 : W2.heap.size = w1.heap.size + 1 := by rw [← hW2]; simp
  have b0 : W2.cell? ⟨w1.heap.size, 0, none⟩ = some (.int .i64 s) := by rw [← hW2]; simp [go_sem]
  have b1 : W2.cell? ⟨w1.heap.size, 1, none⟩ = some (.int .i64 c) := by rw [← hW2]; simp [go_sem]
  have b2 : W2.cell? ⟨w1.heap.size, 2, none⟩ = some (.int .i64 o) := by rw [← hW2]; simp [go_sem]
  have b3 : W2.cell? ⟨w1.heap.size, 3, none⟩ = some (.int .i64 x) := by rw [← hW2]; simp [go_sem]
  have b4 : W2.cell? ⟨w1.heap.size, 4, none⟩ = some (.int .i64 y) := by rw [← hW2]; simp [go_sem]
  have b5 : W2.cell? ⟨w1.heap.size, 5, none⟩ = some (.int .i64 z) := by rw [← hW2]; simp [go_sem]
  have hB2 : Below w.heap.size w W2 := by
    rw [← hW2]
    exact ((((Below.refl _ w).alloc (Nat.le_refl _) _).alloc (by simp) _).trans (hb1.mono (by simp; omega))).alloc (by omega) _
  have q0 : W2.heap[w.heap.size]? = some (.cells V.toArray 80 (0, 0)) := by
    rw [← hW2, Below.heap_alloc _ _ _ (by omega), hb1.block _ (by simp; omega)]; exact R0.out
  have q2 : W2.heap[w.heap.size + 1]? = some (.cells #[.int .i64 0, .int .i64 0, .int .i64 0, .int .i64 0, .int .i64 0, .int .i64 0] 79 (0, 0)) := by
    rw [← hW2, Below.heap_alloc _ _ _ (by omega), hb1.block _ (by simp)]; exact R2.out
  have hr0 : W2.rangeAt w.heap.size 0 V := fun j v hv => by
    rw [cell_of_row W2 w.heap.size (0 + j) _ _ (0, 0) q0]
    simpa using hv
  have U := Tryz.underlying80
  have Q2 := Lib.hid q2
  have HB2 := Lib.hid hB2
  rw [hW2]
  clear hW2 q0 q2 hB2 hb1 R0 R2 K1
  go_region_held3 (fun w' => w'.rangeAt w.heap.size 0 V ∧ w'.cell? ⟨w1.heap.size, 0, none⟩ = some (.int .i64 s) ∧ w'.cell? ⟨w1.heap.size, 1, none⟩ = some (.int .i64 c) ∧ w'.cell? ⟨w1.heap.size, 2, none⟩ = some (.int .i64 o) ∧ w'.cell? ⟨w1.heap.size, 3, none⟩ = some (.int .i64 x) ∧ w'.cell? ⟨w1.heap.size, 4, none⟩ = some (.int .i64 y) ∧ w'.cell? ⟨w1.heap.size, 5, none⟩ = some (.int .i64 z))
    (first | go_keep | (go_split_ands; refine ⟨?_, ?_, ?_, ?_, ?_, ?_, ?_⟩ <;> first | (rw [hb2.cell (by simp; omega)]; assumption) | (refine rangeAt_below' _ _ _ _ _ ?_ hb2 ?_ <;> first | assumption | (simp; try omega))))
    ((go_at_call 97; refine (K2.out _).mono ?_; rintro e w2 ⟨rfl, hb2⟩))
  have hs2 : W2.heap.size ≤ w2.heap.size := by have := hb2.size; simpa using this
  have d0 : w2.cell? ⟨w1.heap.size, 0, none⟩ = some (.int .i64 s) := by rw [hb2.cell (by simp; omega)]; assumption
  have d1 : w2.cell? ⟨w1.heap.size, 1, none⟩ = some (.int .i64 c) := by rw [hb2.cell (by simp; omega)]; assumption
  have d2 : w2.cell? ⟨w1.heap.size, 2, none⟩ = some (.int .i64 o) := by rw [hb2.cell (by simp; omega)]; assumption
  have d3 : w2.cell? ⟨w1.heap.size, 3, none⟩ = some (.int .i64 x) := by rw [hb2.cell (by simp; omega)]; assumption
  have d4 : w2.cell? ⟨w1.heap.size, 4, none⟩ = some (.int .i64 y) := by rw [hb2.cell (by simp; omega)]; assumption
  have d5 : w2.cell? ⟨w1.heap.size, 5, none⟩ = some (.int .i64 z) := by rw [hb2.cell (by simp; omega)]; assumption
  have HB3 := Lib.hid (HB2.out.drew.trans (hb2.mono (by simpa using HB2.out.size)))
  have Q3 := Lib.hid ((hb2.block _ (by simp; omega)).trans Q2.out)
  clear hb2 K2 hne U hr0 b0 b1 b2 b3 b4 b5
  go_wp2_with (refine wpList_store_row rfl 79 (.tmp 2) (.tmp 16) rfl (w.heap.size + 1) rfl _ rfl 79 _ Q3.out ?i2 ?i3 ?i4 ?_)
  case i2 => rfl
  case i3 => kernel_rfl
  case i4 => first | exact ⟨rfl, rfl, rfl, rfl, rfl, rfl⟩ | exact rfl | simp
  go_wp2
  refine bodyPost_ret (results_row_tmp Tryz.results33 _ _ (w.heap.size + 1) 79 _ (0, 0) _ rfl (setRow_heap w2 _ _ _ _ _ Q3.out) Tryz.underlying79 rfl (by kernel_rfl)) rfl ⟨rfl, ?_⟩
  exact HB3.out.trans ((OnlyBlk.setRow w2 (w.heap.size + 1) _).below HB3.out.size (by omega))

set_option maxRecDepth 100000 in
set_option maxHeartbeats 3200000 in
theorem decode_range (s c o x y z : Int) (h : FitT s c o x y z) (hg : ¬ GoodT s c o x y z) (w : World) :
    Calls Tryz.prog 33 #[.agg ((frame s c o x y z).map (Value.int .u8)).toArray] w fun e w' =>
      e = .returned (.tuple #[.agg #[.int .i64 0, .int .i64 0, .int .i64 0, .int .i64 0, .int .i64 0, .int .i64 0], .int .i64 3]) ∧ Below w.heap.size w w' := by
  have K1 := Lib.hid (telegramOf_raw s c o x y z (tail7 s c o x y z) h)
  rw [← frame_raw] at K1
  have K2 := Lib.hid (frameOf_fit s c o x y z h)
  have K3 := Lib.hid (checkTelegram_all s c o x y z)
  rw [telErr_bad hg] at K3
  clear h hg
  obtain ⟨V, hV⟩ : ∃ V, ((frame s c o x y z).map (Value.int .u8)) = V := ⟨_, rfl⟩
  have V24 : V.length = 24 := by rw [← hV]; simp [frame_len]
  have V0 : V[0]? = some (.int .u8 77) := by rw [← hV]; rfl
  have V0' : ∀ (h : 0 < V.length), V[0]'h = .int .u8 77 := fun h => by rw [List.getElem?_eq_getElem h] at V0; exact Option.some.inj V0
  have hne : ∀ w, (binOp .neq 80 (.agg V.toArray) (.agg V.toArray)).run Tryz.prog w = .ok (.bool false) w := fun w => by
    rw [← hV]
    exact run_neq_same w _ _ 24 Tryz.underlying80 Tryz.underlying5 (fun _ => by kernel_rfl) _ (frame_len ..)
  rw [hV] at K1 K2 ⊢
  clear hV
  have hi36 : (Tryz.prog.info? 80).map (·.size) = some V.length := by rw [size24, V24]
  have r0 : ((w.alloc (.cells V.toArray 80)).alloc (.cells #[.int .i64 0, .int .i64 0, .int .i64 0, .int .i64 0, .int .i64 0, .int .i64 0] 79)).heap[w.heap.size]? = some (.cells V.toArray 80 (0, 0)) := by
    rw [Below.heap_alloc _ _ _ (by simp)]
    exact heap_alloc_new w _
  have r2 : ((w.alloc (.cells V.toArray 80)).alloc (.cells #[.int .i64 0, .int .i64 0, .int .i64 0, .int .i64 0, .int .i64 0, .int .i64 0] 79)).heap[w.heap.size + 1]? = some (.cells #[.int .i64 0, .int .i64 0, .int .i64 0, .int .i64 0, .int .i64 0, .int .i64 0] 79 (0, 0)) := heap_alloc2_new w _ _
  have R0 := Lib.hid r0
  have R2 := Lib.hid r2
  clear r0 r2 V0
  go_enter Tryz.func33, Tryz.ntmps33
  go_wp2_with (first
    | (refine wpList_load_row rfl 80 (.tmp 1) rfl w.heap.size rfl 80 _ (0, 0) _ R0.out Tryz.underlying80 rfl ?i1 ?_)
    | (go_at_call 98; refine (K1.out _).mono ?_; rintro e w1 ⟨rfl, hb1⟩))
  case i1 => rw [hi36]; simp
  obtain ⟨W2, hW2⟩ : ∃ W2, w1.alloc (.cells #[.int .i64 s, .int .i64 c, .int .i64 o, .int .i64 x, .int .i64 y, .int .i64 z] 79) = W2 := ⟨_, rfl⟩
  have hs1 : w.heap.size + 2 ≤ w1.heap.size := by have := hb1.size; simpa using this
  have z2 : W2.heap.size = w1.heap.size + 1 := by rw [← hW2]; simp
  have b0 : W2.cell? ⟨w1.heap.size, 0, none⟩ = some (.int .i64 s) := by rw [← hW2]; simp [go_sem]
  have b1 : W2.cell? ⟨w1.heap.size, 1, none⟩ = some (.int .i64 c) := by rw [← hW2]; simp [go_sem]
  have b2 : W2.cell? ⟨w1.heap.size, 2, none⟩ = some (.int .i64 o) := by rw [← hW2]; simp [go_sem]
  have b3 : W2.cell? ⟨w1.heap.size, 3, none⟩ = some (.int .i64 x) := by rw [← hW2]; simp [go_sem]
  have b4 : W2.cell? ⟨w1.heap.size, 4, none⟩ = some (.int .i64 y) := by rw [← hW2]; simp [go_sem]
  have b5 : W2.cell? ⟨w1.heap.size, 5, none⟩ = some (.int .i64 z) := by rw [← hW2]; simp [go_sem]
  have hB2 : Below w.heap.size w W2 := by
    rw [← hW2]
    exact ((((Below.refl _ w).alloc (Nat.le_refl _) _).alloc (by simp) _).trans (hb1.mono (by simp; omega))).alloc (by omega) _
  have q0 : W2.heap[w.heap.size]? = some (.cells V.toArray 80 (0, 0)) := by
    rw [← hW2, Below.heap_alloc _ _ _ (by omega), hb1.block _ (by simp; omega)]; exact R0.out
  have q2 : W2.heap[w.heap.size + 1]? = some (.cells #[.int .i64 0, .int .i64 0, .int .i64 0, .int .i64 0, .int .i64 0, .int .i64 0] 79 (0, 0)) := by
    rw [← hW2, Below.heap_alloc _ _ _ (by omega), hb1.block _ (by simp)]; exact R2.out
  have hr0 : W2.rangeAt w.heap.size 0 V := fun j v hv => by
    rw [cell_of_row W2 w.heap.size (0 + j) _ _ (0, 0) q0]
    simpa using hv
  have U := Tryz.underlying80
  have Q2 := Lib.hid q2
  have HB2 := Lib.hid hB2
  rw [hW2]
  clear hW2 q0 q2 hB2 hb1 R0 R2 K1
  go_region_held3 (fun w' => w'.rangeAt w.heap.size 0 V ∧ w'.cell? ⟨w1.heap.size, 0, none⟩ = some (.int .i64 s) ∧ w'.cell? ⟨w1.heap.size, 1, none⟩ = some (.int .i64 c) ∧ w'.cell? ⟨w1.heap.size, 2, none⟩ = some (.int .i64 o) ∧ w'.cell? ⟨w1.heap.size, 3, none⟩ = some (.int .i64 x) ∧ w'.cell? ⟨w1.heap.size, 4, none⟩ = some (.int .i64 y) ∧ w'.cell? ⟨w1.heap.size, 5, none⟩ = some (.int .i64 z))
    (first | go_keep | (go_split_ands; refine ⟨?_, ?_, ?_, ?_, ?_, ?_, ?_⟩ <;> first | (rw [hb2.cell (by simp; omega)]; assumption) | (refine rangeAt_below' _ _ _ _ _ ?_ hb2 ?_ <;> first | assumption | (simp; try omega))))
    ((go_at_call 97; refine (K2.out _).mono ?_; rintro e w2 ⟨rfl, hb2⟩))
  have hs2 : W2.heap.size ≤ w2.heap.size := by have := hb2.size; simpa using this
  have d0 : w2.cell? ⟨w1.heap.size, 0, none⟩ = some (.int .i64 s) := by rw [hb2.cell (by simp; omega)]; assumption
  have d1 : w2.cell? ⟨w1.heap.size, 1, none⟩ = some (.int .i64 c) := by rw [hb2.cell (by simp; omega)]; assumption
  have d2 : w2.cell? ⟨w1.heap.size, 2, none⟩ = some (.int .i64 o) := by rw [hb2.cell (by simp; omega)]; assumption
  have d3 : w2.cell? ⟨w1.heap.size, 3, none⟩ = some (.int .i64 x) := by rw [hb2.cell (by simp; omega)]; assumption
  have d4 : w2.cell? ⟨w1.heap.size, 4, none⟩ = some (.int .i64 y) := by rw [hb2.cell (by simp; omega)]; assumption
  have d5 : w2.cell? ⟨w1.heap.size, 5, none⟩ = some (.int .i64 z) := by rw [hb2.cell (by simp; omega)]; assumption
  have HB3 := Lib.hid (HB2.out.drew.trans (hb2.mono (by simpa using HB2.out.size)))
  have Q3 := Lib.hid ((hb2.block _ (by simp; omega)).trans Q2.out)
  clear hb2 K2 hne U hr0 b0 b1 b2 b3 b4 b5
  go_wp2_with (first
    | (refine wpList_store_row rfl 79 (.tmp 2) (.tmp 21) rfl (w.heap.size + 1) rfl _ rfl 79 _ Q4.out ?i2 ?i3 ?i4 ?_)
    | ((go_at_call 96; refine (K3.out _).mono ?_; rintro e w3 ⟨rfl, hb3⟩
        have e0 : w3.cell? ⟨w1.heap.size, 0, none⟩ = some (.int .i64 s) := by rw [hb3.cell (by simp; omega)]; assumption
        have e1 : w3.cell? ⟨w1.heap.size, 1, none⟩ = some (.int .i64 c) := by rw [hb3.cell (by simp; omega)]; assumption
        have e2 : w3.cell? ⟨w1.heap.size, 2, none⟩ = some (.int .i64 o) := by rw [hb3.cell (by simp; omega)]; assumption
        have e3 : w3.cell? ⟨w1.heap.size, 3, none⟩ = some (.int .i64 x) := by rw [hb3.cell (by simp; omega)]; assumption
        have e4 : w3.cell? ⟨w1.heap.size, 4, none⟩ = some (.int .i64 y) := by rw [hb3.cell (by simp; omega)]; assumption
        have e5 : w3.cell? ⟨w1.heap.size, 5, none⟩ = some (.int .i64 z) := by rw [hb3.cell (by simp; omega)]; assumption
        have HB4 := Lib.hid (HB3.out.trans (hb3.mono HB3.out.size))
        have Q4 := Lib.hid ((hb3.block _ (by omega)).trans Q3.out)
        clear hb3 d0 d1 d2 d3 d4 d5)))
  case i2 => rfl
  case i3 => kernel_rfl
  case i4 => first | exact ⟨rfl, rfl, rfl, rfl, rfl, rfl⟩ | exact rfl | simp
  go_wp2
  refine bodyPost_ret (results_row_tmp Tryz.results33 _ _ (w.heap.size + 1) 79 _ (0, 0) _ rfl (setRow_heap w3 _ _ _ _ _ Q4.out) Tryz.underlying79 rfl (by kernel_rfl)) rfl ⟨rfl, ?_⟩
  exact HB4.out.trans ((OnlyBlk.setRow w3 (w.heap.size + 1) _).below HB4.out.size (by omega))
end Go.Proofs.YtfpagmalblmnkaaGreatDoor

/-
  Plain facts on binary floating point: the nearest word of a number that the format has, and what that word reads as; no Go, no program.
  Condition: none beyond the hypotheses written at each theorem.
-/
namespace Go.Proofs.YtfpagmalblmnkaaGreatDoor
open Ieee

theorem log2_mul_pow (a d : Nat) (ha : a ≠ 0) : (a * 2 ^ d).log2 = a.log2 + d := by
  induction d with
  | zero => simp
  | succ d ih =>
    have hp : 0 < 2 ^ d := Nat.two_pow_pos d
    have h0 : a * 2 ^ d ≠ 0 := Nat.mul_ne_zero ha (by omega)
    have e : a * 2 ^ (d + 1) = 2 * (a * 2 ^ d) := by rw [Nat.pow_succ]; ac_rfl
    rw [e, Nat.log2_two_mul h0, ih]; omega

theorem cut_whole (neg : Bool) (n drop q : Nat) (h : n = q * 2 ^ drop) (hd : drop ≤ n.log2 + 2) : Toward.even.cut neg n drop = q := by
  have hp : 0 < 2 ^ drop := Nat.two_pow_pos drop
  have h1 : n / 2 ^ drop = q := by rw [h]; exact Nat.mul_div_cancel _ hp
  have h2 : n % 2 ^ drop = 0 := by rw [h]; exact Nat.mul_mod_left _ _
  unfold Toward.cut
  simp only [Nat.min_eq_left hd, Nat.one_shiftLeft, h1, h2]
  have h3 : decide (2 ^ drop < 2 * 0) = false := by simp
  have h4 : (2 ^ drop == 2 * 0) = false := by simp
  simp [h4]

/-- The place of the last digit that is kept. -/
def lastOf (f : Format) (a : Nat) (place : Int) : Int := max (place + a.log2 - f.fractionBits) f.leastPlace

theorem nearest_exact (f : Format) (neg : Bool) (a d : Nat) (place : Int) (ha : a ≠ 0) (hw : a.log2 ≤ f.fractionBits) (hp : f.leastPlace ≤ place) :
    f.nearest neg (a * 2 ^ d) (place - d) = f.word neg (min ((lastOf f a place - f.leastPlace).toNat * f.binade + a * 2 ^ (place - lastOf f a place).toNat) f.infRung) := by
  have hpd : 0 < 2 ^ d := Nat.two_pow_pos d
  have h0 : a * 2 ^ d ≠ 0 := Nat.mul_ne_zero ha (by omega)
  unfold Format.nearest
  rw [if_neg h0]
  have hl : max (place - (d : Int) + ((a * 2 ^ d).log2 : Nat) - f.fractionBits) f.leastPlace = lastOf f a place := by
    unfold lastOf; rw [log2_mul_pow a d ha]; congr 1; omega
  simp only [hl]
  have hlast : lastOf f a place ≤ place := by unfold lastOf; omega
  have hk : Toward.even.cut neg ((a * 2 ^ d) <<< (place - (d : Int) - lastOf f a place).toNat) (lastOf f a place - (place - (d : Int))).toNat = a * 2 ^ (place - lastOf f a place).toNat := by
    generalize hc : (place - lastOf f a place).toNat = c
    by_cases h : d ≤ c
    · have e1 : (place - (d : Int) - lastOf f a place).toNat = c - d := by omega
      have e2 : (lastOf f a place - (place - (d : Int))).toNat = 0 := by omega
      rw [e1, e2]
      refine cut_whole _ _ _ _ ?_ (by omega)
      rw [Nat.shiftLeft_eq, Nat.mul_assoc, ← Nat.pow_add, Nat.pow_zero, Nat.mul_one]
      congr 2; omega
    · have e1 : (place - (d : Int) - lastOf f a place).toNat = 0 := by omega
      have e2 : (lastOf f a place - (place - (d : Int))).toNat = d - c := by omega
      rw [e1, e2]
      refine cut_whole _ _ _ _ ?_ ?_
      · rw [Nat.shiftLeft_zero, Nat.mul_assoc, ← Nat.pow_add]; congr 2; omega
      · rw [Nat.shiftLeft_zero, log2_mul_pow a d ha]; omega
  rw [hk]

theorem nearest_zero (f : Format) (neg : Bool) (place : Int) : f.nearest neg 0 place = f.word neg 0 := by
  unfold Format.nearest; simp

theorem read_word (f : Format) (neg : Bool) (r : Nat) (h : r < f.infRung) :
    f.read (f.word neg r) = if r < f.binade then .number neg r f.leastPlace else .number neg (f.binade + r % f.binade) (f.leastPlace + (r / f.binade - 1 : Nat)) := by
  have hi := f.infRung_lt
  have hs : r < f.signWeight := by omega
  have hsp : 0 < f.signWeight := by omega
  have e1 : f.word neg r / f.signWeight % 2 = neg.toNat := by
    unfold Format.word
    cases neg
    · simp [Nat.div_eq_of_lt hs]
    · simp [Nat.add_div_left _ hsp, Nat.div_eq_of_lt hs]
  have e2 : f.word neg r % f.signWeight = r := by
    unfold Format.word
    cases neg
    · simp [Nat.mod_eq_of_lt hs]
    · simp [Nat.mod_eq_of_lt hs]
  unfold Format.read
  simp only [e1, e2]
  have e3 : (neg.toNat == 1) = neg := by cases neg <;> rfl
  rw [e3]
  simp only [h, if_true]

/-- The number that a word stands for, in units of the least place. -/
def unitsOf (f : Format) (m : Nat) (e : Int) : Nat := m * 2 ^ (e - f.leastPlace).toNat

theorem read_exact (f : Format) (neg : Bool) (a d : Nat) (place : Int) (ha : a ≠ 0) (hw : a.log2 ≤ f.fractionBits) (hp : f.leastPlace ≤ place)
    (hfin : (lastOf f a place - f.leastPlace).toNat * f.binade + a * 2 ^ (place - lastOf f a place).toNat < f.infRung) :
    ∃ m e, f.read (f.nearest neg (a * 2 ^ d) (place - d)) = .number neg m e ∧ f.leastPlace ≤ e ∧ unitsOf f m e = a * 2 ^ (place - f.leastPlace).toNat := by
  rw [nearest_exact f neg a d place ha hw hp, Nat.min_eq_left (by omega), read_word f neg _ hfin]
  have hlast : lastOf f a place ≤ place := by unfold lastOf; omega
  have hlast2 : f.leastPlace ≤ lastOf f a place := by unfold lastOf; omega
  have hbin : f.binade = 2 ^ f.fractionBits := rfl
  have ha2 : 2 ^ a.log2 ≤ a := Nat.log2_self_le ha
  have ha3 : a < 2 ^ (a.log2 + 1) := Nat.lt_log2_self
  generalize hL : lastOf f a place = last at *
  by_cases hs : last = f.leastPlace ∧ place + a.log2 - f.fractionBits < f.leastPlace
  · obtain ⟨hs, hlt⟩ := hs
    have e0 : (last - f.leastPlace).toNat = 0 := by omega
    have hk : a * 2 ^ (place - last).toNat < f.binade := by
      rw [hbin]
      refine Nat.lt_of_lt_of_le ((Nat.mul_lt_mul_right (Nat.two_pow_pos _)).2 ha3) ?_
      rw [← Nat.pow_add]
      exact Nat.pow_le_pow_right (by omega) (by omega)
    rw [e0, Nat.zero_mul, Nat.zero_add, if_pos hk]
    refine ⟨_, _, rfl, Int.le_refl _, ?_⟩
    unfold unitsOf
    rw [hs, Int.sub_self]; simp
  · have hl : last = place + a.log2 - f.fractionBits := by unfold lastOf at hL; omega
    have hc : (place - last).toNat = f.fractionBits - a.log2 := by omega
    have hk1 : f.binade ≤ a * 2 ^ (place - last).toNat := by
      rw [hbin, hc]
      refine Nat.le_trans ?_ (Nat.mul_le_mul_right _ ha2)
      rw [← Nat.pow_add]
      exact Nat.pow_le_pow_right (by omega) (by omega)
    have hk2 : a * 2 ^ (place - last).toNat < 2 * f.binade := by
      rw [hbin, hc]
      refine Nat.lt_of_lt_of_le ((Nat.mul_lt_mul_right (Nat.two_pow_pos _)).2 ha3) ?_
      rw [← Nat.pow_add, Nat.mul_comm, ← Nat.pow_succ]
      exact Nat.pow_le_pow_right (by omega) (by omega)
    have hbp : 0 < f.binade := Nat.two_pow_pos _
    generalize hkk : a * 2 ^ (place - last).toNat = kept at *
    have hge : ¬ (last - f.leastPlace).toNat * f.binade + kept < f.binade := by
      have : 0 ≤ (last - f.leastPlace).toNat * f.binade := Nat.zero_le _
      omega
    rw [if_neg hge]
    have hmod : ((last - f.leastPlace).toNat * f.binade + kept) % f.binade = kept - f.binade := by
      rw [Nat.add_comm, Nat.add_mul_mod_self_right, Nat.mod_eq_sub_mod hk1, Nat.mod_eq_of_lt (by omega)]
    have hdiv : ((last - f.leastPlace).toNat * f.binade + kept) / f.binade = (last - f.leastPlace).toNat + 1 := by
      rw [Nat.add_comm, Nat.add_mul_div_right _ _ hbp, show kept / f.binade = 1 from by
        apply Nat.div_eq_of_lt_le <;> omega]
      omega
    refine ⟨_, _, rfl, by omega, ?_⟩
    unfold unitsOf
    rw [hmod, hdiv, show f.binade + (kept - f.binade) = kept from by omega, ← hkk]
    rw [show (f.leastPlace + (((last - f.leastPlace).toNat + 1 - 1 : Nat) : Int) - f.leastPlace).toNat = (last - f.leastPlace).toNat from by omega]
    rw [Nat.mul_assoc, ← Nat.pow_add]
    congr 2; omega

/-! ### What a word stands for, in units of the format's least place -/

def sgn (s : Bool) (v : Nat) : Int := if s then -(v : Int) else (v : Int)

/-- x is the finite word with the sign s that stands for v units of the least place. -/
def IsNum (f : Format) (x : Nat) (s : Bool) (v : Nat) : Prop :=
  ∃ m e, f.read x = .number s m e ∧ f.leastPlace ≤ e ∧ m < 2 ^ (f.fractionBits + 1) ∧ m * 2 ^ (e - f.leastPlace).toNat = v

theorem log2_lt_of_mul_lt {m k B : Nat} (hm : m ≠ 0) (h : m * 2 ^ k < 2 ^ B) : m.log2 + k < B := by
  have h1 : 2 ^ (m.log2 + k) ≤ m * 2 ^ k := by rw [Nat.pow_add]; exact Nat.mul_le_mul_right _ (Nat.log2_self_le hm)
  have h2 : 2 ^ (m.log2 + k) < 2 ^ B := Nat.lt_of_le_of_lt h1 h
  exact (Nat.pow_lt_pow_iff_right (by omega)).1 h2

theorem log2_le_of_lt {a n : Nat} (ha : a ≠ 0) (h : a < 2 ^ (n + 1)) : a.log2 ≤ n := by
  have := (Nat.log2_lt ha).2 h; omega

/-- The formats that are used. -/
def Two (f : Format) : Prop := f = single ∨ f = double

theorem isNum_nearest {f : Format} (hf : Two f) (s : Bool) (a d : Nat) (place : Int) (ha : a < 2 ^ (f.fractionBits + 1)) (hp : f.leastPlace ≤ place)
    (hmax : a * 2 ^ (place - f.leastPlace).toNat < 2 ^ (f.fractionBits + 2 ^ f.exponentBits - 2)) :
    IsNum f (f.nearest s (a * 2 ^ d) (place - d)) s (a * 2 ^ (place - f.leastPlace).toNat) := by
  have heb : 4 ≤ 2 ^ f.exponentBits := by rcases hf with rfl | rfl <;> decide
  by_cases h0 : a = 0
  · subst h0
    rw [Nat.zero_mul, nearest_zero, Nat.zero_mul]
    have hinf : 0 < f.infRung := by rcases hf with rfl | rfl <;> decide
    have hb : 0 < f.binade := Nat.two_pow_pos _
    refine ⟨0, f.leastPlace, ?_, Int.le_refl _, Nat.two_pow_pos _, by simp⟩
    rw [read_word f s 0 hinf, if_pos hb]
  · have hw := log2_le_of_lt h0 ha
    have hlg := log2_lt_of_mul_lt h0 hmax
    have ha3 : a < 2 ^ (a.log2 + 1) := Nat.lt_log2_self
    have hbp : 0 < f.binade := Nat.two_pow_pos _
    have hkept : a * 2 ^ (place - lastOf f a place).toNat < 2 * f.binade := by
      refine Nat.lt_of_lt_of_le ((Nat.mul_lt_mul_right (Nat.two_pow_pos _)).2 ha3) ?_
      have : f.binade = 2 ^ f.fractionBits := rfl
      rw [this, ← Nat.pow_add, Nat.mul_comm, ← Nat.pow_succ]
      refine Nat.pow_le_pow_right (by omega) ?_
      unfold lastOf; omega
    have hlast : (lastOf f a place - f.leastPlace).toNat + 3 ≤ 2 ^ f.exponentBits := by
      unfold lastOf; omega
    have hfin : (lastOf f a place - f.leastPlace).toNat * f.binade + a * 2 ^ (place - lastOf f a place).toNat < f.infRung := by
      have e : f.infRung = (2 ^ f.exponentBits - 1) * f.binade := rfl
      have k : ((lastOf f a place - f.leastPlace).toNat + 2) * f.binade ≤ (2 ^ f.exponentBits - 1) * f.binade := Nat.mul_le_mul_right _ (by omega)
      rw [Nat.add_mul] at k
      rw [e]; omega
    obtain ⟨m, e, h1, h2, h3⟩ := read_exact f s a d place h0 hw hp hfin
    refine ⟨m, e, h1, h2, ?_, h3⟩
    have hrw : f.nearest s (a * 2 ^ d) (place - d) = f.word s ((lastOf f a place - f.leastPlace).toNat * f.binade + a * 2 ^ (place - lastOf f a place).toNat) := by
      rw [nearest_exact f s a d place h0 hw hp, Nat.min_eq_left (by omega)]
    rw [hrw, read_word f s _ hfin] at h1
    split at h1
    · rename_i hlt
      simp only [Datum.number.injEq] at h1
      have : f.binade = 2 ^ f.fractionBits := rfl
      have e2 : (2 : Nat) ^ (f.fractionBits + 1) = 2 * f.binade := by rw [this, Nat.pow_succ, Nat.mul_comm]
      omega
    · simp only [Datum.number.injEq] at h1
      have : f.binade = 2 ^ f.fractionBits := rfl
      have e2 : (2 : Nat) ^ (f.fractionBits + 1) = 2 * f.binade := by rw [this, Nat.pow_succ, Nat.mul_comm]
      have := Nat.mod_lt ((lastOf f a place - f.leastPlace).toNat * f.binade + a * 2 ^ (place - lastOf f a place).toNat) hbp
      omega

theorem signed_eq (s : Bool) (m u : Nat) : signed s m u = sgn s (m * 2 ^ u) := by
  unfold signed sgn; rw [Nat.shiftLeft_eq]
theorem sgn_mul (s : Bool) (v c : Nat) : sgn s (v * c) = sgn s v * c := by
  unfold sgn; cases s <;> simp [Int.neg_mul]

theorem compare_mul_pos (a b : Int) (c : Nat) (hc : 0 < c) : compare (a * c) (b * c) = compare a b := by
  have hc' : (0 : Int) < c := by omega
  have e1 : (a * c < b * c) ↔ a < b := Int.mul_lt_mul_right hc'
  have e2 : (a * c = b * c) ↔ a = b := Int.mul_eq_mul_right_iff (by omega)
  show compareOfLessAndEq (a * c) (b * c) = compareOfLessAndEq a b
  unfold compareOfLessAndEq
  simp only [e1, e2]

theorem IsNum.order {f : Format} {x y : Nat} {s t : Bool} {v u : Nat} (hx : IsNum f x s v) (hy : IsNum f y t u) : f.order x y = some (compare (sgn s v) (sgn t u)) := by
  obtain ⟨m, i, h1, h2, _, rfl⟩ := hx
  obtain ⟨n, j, k1, k2, _, rfl⟩ := hy
  unfold Format.order
  rw [h1, k1]
  simp only [Datum.order, signed_eq]
  have e1 : m * 2 ^ (i - f.leastPlace).toNat = m * 2 ^ (i - min i j).toNat * 2 ^ (min i j - f.leastPlace).toNat := by
    rw [Nat.mul_assoc, ← Nat.pow_add]; congr 2; omega
  have e2 : n * 2 ^ (j - f.leastPlace).toNat = n * 2 ^ (j - min i j).toNat * 2 ^ (min i j - f.leastPlace).toNat := by
    rw [Nat.mul_assoc, ← Nat.pow_add]; congr 2; omega
  rw [e1, e2, sgn_mul s (m * 2 ^ (i - min i j).toNat), sgn_mul t (n * 2 ^ (j - min i j).toNat), compare_mul_pos _ _ _ (Nat.two_pow_pos _)]

theorem cut_zero (neg : Bool) (n drop : Nat) : Toward.zero.cut neg n drop = n / 2 ^ drop := by
  unfold Toward.cut
  simp only [Nat.one_shiftLeft, Bool.toNat_false, Nat.add_zero]
  by_cases h : drop ≤ n.log2 + 2
  · rw [Nat.min_eq_left h]
  · rw [Nat.min_eq_right (by omega)]
    have h1 : n < 2 ^ (n.log2 + 2) := Nat.lt_of_lt_of_le Nat.lt_log2_self (Nat.pow_le_pow_right (by omega) (by omega))
    have h2 : n < 2 ^ drop := Nat.lt_of_lt_of_le h1 (Nat.pow_le_pow_right (by omega) (by omega))
    rw [Nat.div_eq_of_lt h1, Nat.div_eq_of_lt h2]

/-- Cut towards zero, an integer. -/
theorem IsNum.toInt {f : Format} {x : Nat} {s : Bool} {v : Nat} (hx : IsNum f x s v) (hL : f.leastPlace ≤ 0) : (f.read x).toInt .zero = some (sgn s (v / 2 ^ (-f.leastPlace).toNat)) := by
  obtain ⟨m, i, h1, h2, _, rfl⟩ := hx
  rw [h1]
  simp only [Datum.toInt, Datum.integral, signed_eq, cut_zero]
  congr 2
  rw [Nat.pow_zero, Nat.mul_one, Nat.shiftLeft_eq]
  by_cases h : 0 ≤ i
  · have e1 : (-i).toNat = 0 := by omega
    have e2 : (i - f.leastPlace).toNat = i.toNat + (-f.leastPlace).toNat := by omega
    rw [e1, e2, Nat.pow_zero, Nat.div_one, Nat.pow_add, ← Nat.mul_assoc, Nat.mul_div_cancel _ (Nat.two_pow_pos _)]
  · have e1 : i.toNat = 0 := by omega
    have e2 : (-f.leastPlace).toNat = (i - f.leastPlace).toNat + (-i).toNat := by omega
    rw [e1, e2, Nat.pow_zero, Nat.mul_one, Nat.pow_add, ← Nat.div_div_eq_div_mul, Nat.mul_div_cancel _ (Nat.two_pow_pos _)]

/-- Times a power of two, the power on either side. -/
theorem IsNum.mul_pow {f : Format} (hf : Two f) {x c : Nat} {s : Bool} {v j : Nat} (hx : IsNum f x s v) (hc : f.read c = .number false (2 ^ f.fractionBits) ((j : Int) - f.fractionBits))
    (hmax : v * 2 ^ j < 2 ^ (f.fractionBits + 2 ^ f.exponentBits - 2)) : ∃ r, f.mul x c = some r ∧ f.mul c x = some r ∧ IsNum f r s (v * 2 ^ j) := by
  obtain ⟨m, i, h1, h2, h3, rfl⟩ := hx
  have e : m * 2 ^ (i - f.leastPlace).toNat * 2 ^ j = m * 2 ^ (i + j - f.leastPlace).toNat := by
    rw [Nat.mul_assoc, ← Nat.pow_add]; congr 2; omega
  rw [e] at hmax ⊢
  have h := isNum_nearest hf s m f.fractionBits (i + j) h3 (by omega) hmax
  refine ⟨_, ?_, ?_, h⟩
  · unfold Format.mul
    rw [h1, hc]
    simp only [Datum.product, Option.map_some, Format.write, Bool.xor_false]
    congr 2
    omega
  · unfold Format.mul
    rw [h1, hc]
    simp only [Datum.product, Option.map_some, Format.write, Bool.false_xor]
    congr 2
    · exact Nat.mul_comm _ _
    · omega
end Go.Proofs.YtfpagmalblmnkaaGreatDoor

/-
  Plain facts on samples: a sample's word stands for an integer over 16; what Go's conversions, comparisons, products and quotients make of it.
  Condition: the hypotheses written at each theorem (sizes of the integers).
-/
namespace Go.Proofs.YtfpagmalblmnkaaGreatDoor
open Ieee

theorem two32 : Two single := .inl rfl
theorem two64 : Two double := .inr rfl

/-- x is a word of float32 that stands for k/16 (0 has two words). -/
def Smp (x : Nat) (k : Int) : Prop := ∃ s, IsNum single x s (k.natAbs * 2 ^ 145) ∧ (k < 0 → s = true) ∧ (0 < k → s = false)

theorem sgn_smp {s : Bool} {k : Int} (c : Nat) (h1 : k < 0 → s = true) (h2 : 0 < k → s = false) : sgn s (k.natAbs * c) = k * c := by
  rw [sgn_mul]
  congr 1
  unfold sgn
  cases s
  · simp only [Bool.false_eq_true, if_false]
    have : ¬ k < 0 := fun h => by have := h1 h; cases this
    omega
  · simp only [if_true]
    have : ¬ 0 < k := fun h => by have := h2 h; cases this
    omega

theorem Smp.order {x y : Nat} {k l : Int} (hx : Smp x k) (hy : Smp y l) : single.order x y = some (compare k l) := by
  obtain ⟨s, h, h1, h2⟩ := hx
  obtain ⟨t, g, g1, g2⟩ := hy
  rw [h.order g, sgn_smp _ h1 h2, sgn_smp _ g1 g2, compare_mul_pos _ _ _ (Nat.two_pow_pos _)]

theorem pow_split {v a b : Nat} (h : v < 2 ^ a) : v * 2 ^ b < 2 ^ (a + b) := by
  rw [Nat.pow_add]; exact (Nat.mul_lt_mul_right (Nat.two_pow_pos _)).2 h

/-- int(x * 16), the factor on either side. -/
theorem Smp.int16 {x : Nat} {k : Int} (hx : Smp x k) (hk : k.natAbs < 2 ^ 40) :
    ∃ r, floatBits .mul .f32 x 1098907648 = some r ∧ floatBits .mul .f32 1098907648 x = some r ∧ floatToIntVal .f32 r .i64 = some k := by
  obtain ⟨s, h, h1, h2⟩ := hx
  have hc : single.read 1098907648 = .number false (2 ^ single.fractionBits) (((4 : Nat) : Int) - single.fractionBits) := by decide +kernel
  obtain ⟨r, m1, m2, m3⟩ := h.mul_pow two32 hc (by
    have e : k.natAbs * 2 ^ 145 * 2 ^ 4 = k.natAbs * 2 ^ 149 := by rw [Nat.mul_assoc]
    rw [e]
    exact Nat.lt_trans (pow_split hk) (by decide +kernel))
  refine ⟨r, m1, m2, ?_⟩
  have ht := m3.toInt (by decide)
  have e : k.natAbs * 2 ^ 145 * 2 ^ 4 / 2 ^ (-single.leastPlace).toNat = k.natAbs * 1 := by
    have e1 : k.natAbs * 2 ^ 145 * 2 ^ 4 = k.natAbs * 2 ^ 149 := by rw [Nat.mul_assoc]
    have e2 : (-single.leastPlace).toNat = 149 := by decide
    rw [e1, e2, Nat.mul_div_cancel _ (Nat.two_pow_pos _), Nat.mul_one]
  rw [e, sgn_smp 1 h1 h2] at ht
  have ht' : (FloatKind.f32.decode r).toInt .zero = some k := by rw [show ((1 : Nat) : Int) = 1 from rfl, Int.mul_one] at ht; exact ht
  unfold floatToIntVal
  rw [ht']
  have h40 : k.natAbs < 1099511627776 := hk
  have : IntKind.i64.min ≤ k ∧ k ≤ IntKind.i64.max := by
    have e1 : IntKind.i64.min = -9223372036854775808 := by decide
    have e2 : IntKind.i64.max = 9223372036854775807 := by decide
    rw [e1, e2]; omega
  simp only [this, and_self, if_true]

/-- float32(n). -/
theorem isNum_ofInt (n : Int) (hn : n.natAbs < 2 ^ 24) : IsNum single (floatOfInt .f32 n) (decide (n < 0)) (n.natAbs * 2 ^ 149) := by
  have h := isNum_nearest two32 (decide (n < 0)) n.natAbs 0 0 hn (by decide) (by
    have e : ((0 : Int) - single.leastPlace).toNat = 149 := by decide
    rw [e]; exact Nat.lt_trans (pow_split hn) (by decide +kernel))
  have e : ((0 : Int) - single.leastPlace).toNat = 149 := by decide
  rw [e] at h
  simpa [floatOfInt, FloatKind.nearest, FloatKind.encode, Format.write, FloatKind.format] using h

/-- float32(n) / 16. -/
theorem div16 (n : Int) (hn : n.natAbs < 2 ^ 24) : ∃ r, floatBits .quo .f32 (floatOfInt .f32 n) 1098907648 = some r ∧ Smp r n := by
  obtain ⟨m, e, h1, h2, h3, h4⟩ := isNum_ofInt n hn
  have hL : single.leastPlace = -149 := by decide
  have hc : single.read 1098907648 = .number false (2 ^ 23) (-19) := by decide +kernel
  have h3' : m < 2 ^ 24 := h3
  rw [hL] at h2 h4
  have hlog : (2 ^ 23 : Nat).log2 = 23 := by decide +kernel
  by_cases h0 : n = 0
  · subst h0
    have hm : m = 0 := by
      have : m * 2 ^ (e - -149).toNat = 0 := by rw [h4]; simp
      rcases Nat.mul_eq_zero.1 this with h | h
      · exact h
      · exact absurd h (by have := Nat.two_pow_pos (e - -149).toNat; omega)
    subst hm
    refine ⟨single.word false 0, ?_, ?_⟩
    · show single.div _ _ = _
      unfold Format.div
      rw [h1, hc]
      simp [Datum.quotient, Format.write, nearest_zero]
    · refine ⟨false, ⟨0, single.leastPlace, by decide +kernel, Int.le_refl _, by decide, by simp⟩, by omega, by omega⟩
  · have hm0 : m ≠ 0 := by
      rintro rfl
      rw [Nat.zero_mul] at h4
      rcases Nat.mul_eq_zero.1 h4.symm with h | h
      · omega
      · exact absurd h (by have := Nat.two_pow_pos 149; omega)
    have hml : m.log2 ≤ 23 := log2_le_of_lt hm0 h3
    have he : -145 ≤ e := by
      refine Classical.byContradiction fun hh => ?_
      have k1 : m * 2 ^ (e - -149).toNat < 2 ^ (24 + 4) := by
        refine Nat.lt_of_lt_of_le (pow_split h3') (Nat.pow_le_pow_right (by omega) (by omega))
      rw [h4] at k1
      have k2 : 2 ^ 149 ≤ n.natAbs * 2 ^ 149 := Nat.le_mul_of_pos_left _ (by omega)
      have k3 : (2 : Nat) ^ 149 < 2 ^ (24 + 4) := Nat.lt_of_le_of_lt k2 k1
      have := (Nat.pow_lt_pow_iff_right (show 1 < 2 by omega)).1 k3
      omega
    have hmax : m * 2 ^ (e - 4 - single.leastPlace).toNat < 2 ^ (single.fractionBits + 2 ^ single.exponentBits - 2) := by
      refine Nat.lt_of_le_of_lt (Nat.mul_le_mul_left _ (Nat.pow_le_pow_right (by omega) (show (e - 4 - single.leastPlace).toNat ≤ (e - -149).toNat by omega))) ?_
      rw [h4]
      exact Nat.lt_trans (pow_split hn) (by decide +kernel)
    have hk := isNum_nearest two32 (decide (n < 0)) m (25 + 23 - m.log2 - 22) (e - 4) h3 (by omega) hmax
    refine ⟨single.nearest (decide (n < 0)) (m * 2 ^ (25 + 23 - m.log2 - 22)) (e - 4 - ((25 + 23 - m.log2 - 22 : Nat) : Int)), ?_, decide (n < 0), ?_, by simp, by simp; omega⟩
    rotate_left
    · have ev : m * 2 ^ (e - 4 - single.leastPlace).toNat = n.natAbs * 2 ^ 145 := by
        have e1 : (e - -149).toNat = (e - 4 - single.leastPlace).toNat + 4 := by omega
        rw [e1, Nat.pow_add, ← Nat.mul_assoc] at h4
        have e2 : n.natAbs * 2 ^ 149 = n.natAbs * 2 ^ 145 * 2 ^ 4 := by rw [Nat.mul_assoc]
        rw [e2] at h4
        exact Nat.eq_of_mul_eq_mul_right (by decide) h4
      rw [ev] at hk
      exact hk
    · show single.div _ _ = _
      unfold Format.div
      rw [h1, hc]
      have hsplit : m <<< (25 + 23 - m.log2) = m * 2 ^ (25 + 23 - m.log2 - 23) * 2 ^ 23 := by
        rw [Nat.shiftLeft_eq, Nat.mul_assoc, ← Nat.pow_add]; congr 2; omega
      have hd : m <<< (25 + 23 - m.log2) / 2 ^ 23 = m * 2 ^ (25 + 23 - m.log2 - 23) := by rw [hsplit]; exact Nat.mul_div_cancel _ (by decide)
      have hr : m <<< (25 + 23 - m.log2) % 2 ^ 23 = 0 := by rw [hsplit]; exact Nat.mul_mod_left _ _
      have hne : ¬ (2 ^ 23 : Nat) = 0 := by decide
      simp only [Datum.quotient, hne, if_false, Option.map_some, Format.write, Bool.xor_false, hlog, show single.fractionBits + 2 = 25 from rfl, hd, hr]
      congr 2
      · have : (25 + 23 - m.log2 - 22 : Nat) = (25 + 23 - m.log2 - 23) + 1 := by omega
        rw [this, Nat.pow_succ]
        simp [Nat.mul_comm, Nat.mul_left_comm]
      · omega

/-- The word that 'float32(n) / 16' gives. -/
def smpOf (n : Int) : Nat := (floatBits .quo .f32 (floatOfInt .f32 n) 1098907648).getD 0
theorem smpOf_run (n : Int) (hn : n.natAbs < 2 ^ 24) : floatBits .quo .f32 (floatOfInt .f32 n) 1098907648 = some (smpOf n) := by
  obtain ⟨r, h, _⟩ := div16 n hn
  unfold smpOf; rw [h]; rfl
theorem smpOf_smp (n : Int) (hn : n.natAbs < 2 ^ 24) : Smp (smpOf n) n := by
  obtain ⟨r, h, hs⟩ := div16 n hn
  unfold smpOf; rw [h]; exact hs
end Go.Proofs.YtfpagmalblmnkaaGreatDoor

/-
  Plain facts on float64: what the words of Go's conversion from float32, of a product with 16, of a number cut towards zero and of an absolute value stand for.
  Condition: the hypotheses written at each theorem (sizes of the numbers).
-/
namespace Go.Proofs.YtfpagmalblmnkaaGreatDoor
open Ieee

theorem mul_pow_join (m a b c : Nat) (h : a + b = c) : m * 2 ^ a * 2 ^ b = m * 2 ^ c := by
  subst h; rw [Nat.mul_assoc, ← Nat.pow_add]
theorem pow_split_lt {v a b c : Nat} (h : v < 2 ^ a) (hc : a + b < c) : v * 2 ^ b < 2 ^ c :=
  Nat.lt_trans (pow_split h) ((Nat.pow_lt_pow_iff_right (by omega)).2 hc)

theorem sgn_le {a b c : Nat} (h : a ≤ b) : sgn false (a * c) ≤ sgn false (b * c) := by
  unfold sgn; simp only [Bool.false_eq_true, if_false]; exact Int.ofNat_le.2 (Nat.mul_le_mul_right _ h)
theorem sgn_le' {a b : Nat} (h : a ≤ b) : sgn false a ≤ sgn false b := by
  unfold sgn; simp only [Bool.false_eq_true, if_false]; exact Int.ofNat_le.2 h

theorem toF64 {x : Nat} {s : Bool} {v : Nat} (a : Nat) (h : IsNum single x s v) (hv : v < 2 ^ a) (ha : a ≤ 277) : ∃ d, floatToFloatBits .f32 x .f64 = some d ∧ IsNum double d s (v * 2 ^ 925) := by
  generalize hu : (925 : Nat) = u
  obtain ⟨m, e, h1, h2, h3, rfl⟩ := h
  have hL : single.leastPlace = -149 := by decide
  have hD : double.leastPlace = -1074 := by decide
  have ev : m * 2 ^ (e - single.leastPlace).toNat * 2 ^ u = m * 2 ^ (e - double.leastPlace).toNat := by
    exact mul_pow_join m _ u _ (by omega)
  have h3' : m < 2 ^ (double.fractionBits + 1) := Nat.lt_of_lt_of_le h3 (by decide +kernel)
  have hk := isNum_nearest two64 s m 0 e h3' (by omega) (by
    rw [← ev]
    exact pow_split_lt hv (by subst hu; show a + 925 < 2098; omega))
  have e0 : e - ((0 : Nat) : Int) = e := by omega
  rw [Nat.pow_zero, Nat.mul_one, e0] at hk
  refine ⟨double.nearest s m e, ?_, by rw [ev]; exact hk⟩
  obtain ⟨m', e', k1, _⟩ := hk
  unfold floatToFloatBits
  have hne : ¬ FloatKind.f32 = FloatKind.f64 := by decide
  have hdec : FloatKind.f32.decode x = .number s m e := h1
  have henc : FloatKind.f64.encode (.number s m e) = double.nearest s m e := rfl
  have hdec2 : FloatKind.f64.decode (double.nearest s m e) = .number s m' e' := k1
  simp only [hne, if_false, hdec, henc, hdec2, Datum.isInfinity]
  simp

theorem IsNum.self {f : Format} {x : Nat} {s : Bool} {v : Nat} (h : IsNum f x s v) : f.order x x = some .eq := by
  rw [h.order h]
  congr 1
  show compareOfLessAndEq _ _ = _
  unfold compareOfLessAndEq; simp

theorem IsNum.gt_false {f : Format} {x y : Nat} {s t : Bool} {v u : Nat} (h : IsNum f x s v) (g : IsNum f y t u) (hle : sgn s v ≤ sgn t u) : (f.order x y == some .gt) = false := by
  rw [h.order g]
  have : compare (sgn s v) (sgn t u) ≠ .gt := by
    show compareOfLessAndEq _ _ ≠ _
    unfold compareOfLessAndEq
    split
    · simp
    · split
      · simp
      · omega
  cases hc : compare (sgn s v) (sgn t u) <;> simp_all

theorem IsNum.le_true {f : Format} {x y : Nat} {s t : Bool} {v u : Nat} (h : IsNum f x s v) (g : IsNum f y t u) (hle : sgn s v ≤ sgn t u) : (f.order x y == some .lt || f.order x y == some .eq) = true := by
  rw [h.order g]
  have : compare (sgn s v) (sgn t u) ≠ .gt := by
    show compareOfLessAndEq _ _ ≠ _
    unfold compareOfLessAndEq
    split
    · simp
    · split
      · simp
      · omega
  cases hc : compare (sgn s v) (sgn t u) <;> simp_all

theorem IsNum.eq_true {f : Format} {x y : Nat} {s : Bool} {v : Nat} (h : IsNum f x s v) (g : IsNum f y s v) : (f.order x y == some .eq) = true := by
  rw [h.order g]
  have : compare (sgn s v) (sgn s v) = .eq := by
    show compareOfLessAndEq _ _ = _
    unfold compareOfLessAndEq; simp
  rw [this]; rfl

/-- d without its sign. -/
theorem IsNum.abs64 {d : Nat} {s : Bool} {v : Nat} (h : IsNum double d s v) : IsNum double (d % 9223372036854775808) false v := by
  obtain ⟨m, e, h1, h2, h3, h4⟩ := h
  refine ⟨m, e, ?_, h2, h3, h4⟩
  have hs : double.signWeight = 9223372036854775808 := by decide +kernel
  unfold Format.read at h1 ⊢
  simp only [hs] at h1 ⊢
  have e1 : d % 9223372036854775808 / 9223372036854775808 = 0 := Nat.div_eq_of_lt (Nat.mod_lt _ (by omega))
  have e2 : d % 9223372036854775808 % 9223372036854775808 = d % 9223372036854775808 := Nat.mod_mod _ _
  rw [e1, e2]
  split at h1
  · rename_i hlt
    simp only [Datum.number.injEq] at h1
    rw [if_pos hlt, h1.2.1, h1.2.2]; rfl
  · rename_i hlt
    split at h1
    · rename_i hlt2
      simp only [Datum.number.injEq] at h1
      rw [if_neg hlt, if_pos hlt2, h1.2.1, h1.2.2]; rfl
    · split at h1 <;> cases h1

theorem andNot_top (d : Nat) (hd : d < 18446744073709551616) : bits BinOp.andNot IntKind.u64 (d : Int) 9223372036854775808 = ((d % 9223372036854775808 : Nat) : Int) := by
  rw [show (9223372036854775808 : Int) = ((9223372036854775808 : Nat) : Int) from rfl, u64_andNot_nat d 9223372036854775808 hd (by omega)]
  congr 1
  have e : (18446744073709551615 - 9223372036854775808 : Nat) = 2 ^ 63 - 1 := by decide
  rw [e, Nat.and_two_pow_sub_one_eq_mod]

/-- math.Trunc of an integer. -/
theorem trunc_int {d : Nat} {s : Bool} {k : Nat} (h : IsNum double d s (k * 2 ^ 1074)) (hk : k < 2 ^ 53) :
    ∃ t, (FloatKind.f64.decode d).integral .zero = .number s k 0 ∧ FloatKind.f64.encode (.number s k 0) = t ∧ IsNum double t s (k * 2 ^ 1074) := by
  generalize hu : (1074 : Nat) = u at *
  have e : ((0 : Int) - double.leastPlace).toNat = u := by subst hu; decide
  have hg := isNum_nearest two64 s k 0 0 hk (by decide) (by
    rw [e]; exact pow_split_lt hk (by subst hu; decide))
  rw [e, Nat.pow_zero, Nat.mul_one] at hg
  refine ⟨_, ?_, rfl, hg⟩
  have hD : double.leastPlace = -1074 := by decide
  obtain ⟨m, i, h1, h2, _, h4⟩ := h
  rw [hD] at h2 h4
  have h1' : FloatKind.f64.decode d = .number s m i := h1
  rw [h1']
  simp only [Datum.integral, cut_zero]
  congr 1
  rw [Nat.shiftLeft_eq]
  by_cases hi : 0 ≤ i
  · have e1 : (-i).toNat = 0 := by omega
    rw [e1, Nat.pow_zero, Nat.div_one]
    have e2 : m * 2 ^ i.toNat * 2 ^ u = m * 2 ^ (i - -1074).toNat := mul_pow_join m _ u _ (by omega)
    rw [← e2] at h4
    exact Nat.eq_of_mul_eq_mul_right (Nat.two_pow_pos u) h4
  · have e1 : i.toNat = 0 := by omega
    rw [e1, Nat.pow_zero, Nat.mul_one]
    have e2 : (1074 : Nat) = (i - -1074).toNat + (-i).toNat := by omega
    have e3 : k * 2 ^ u = k * 2 ^ (-i).toNat * 2 ^ (i - -1074).toNat := (mul_pow_join k _ _ u (by omega)).symm
    rw [e3] at h4
    have h5 := Nat.eq_of_mul_eq_mul_right (Nat.two_pow_pos _) h4
    rw [h5, Nat.mul_div_cancel _ (Nat.two_pow_pos _)]

theorem mul16_64 {d : Nat} {s : Bool} {v : Nat} (a : Nat) (h : IsNum double d s v) (hv : v < 2 ^ a) (ha : a ≤ 2000) : ∃ r, floatBits .mul .f64 d 4625196817309499392 = some r ∧ IsNum double r s (v * 2 ^ 4) := by
  have hc : double.read 4625196817309499392 = .number false (2 ^ double.fractionBits) (((4 : Nat) : Int) - double.fractionBits) := by decide +kernel
  obtain ⟨r, m1, _, m3⟩ := h.mul_pow two64 hc (pow_split_lt hv (show a + 4 < 2098 by omega))
  exact ⟨r, m1, m3⟩

theorem max16384 : IsNum double 4670232813583204352 false (16384 * 2 ^ 1074) := by
  have e : double.read 4670232813583204352 = .number false (2 ^ 52) (-38) := by decide +kernel
  refine ⟨2 ^ 52, -38, e, by decide, by decide, ?_⟩
  have e2 : ((-38 : Int) - double.leastPlace).toNat = 1036 := by decide
  rw [e2]
  generalize hv : (1074 : Nat) = v
  generalize hu : (1036 : Nat) = u
  have e3 : (1 : Nat) * 2 ^ 52 * 2 ^ u = 1 * 2 ^ (52 + u) := mul_pow_join 1 52 u _ rfl
  have e4 : (1 : Nat) * 2 ^ 14 * 2 ^ v = 1 * 2 ^ (14 + v) := mul_pow_join 1 14 v _ rfl
  rw [Nat.one_mul, Nat.one_mul] at e3 e4
  rw [e3, show (16384 : Nat) = 2 ^ 14 from rfl, e4]; congr 1; omega
theorem le_max16384 {n a : Nat} {s : Bool} (h : IsNum double n s (a * 2 ^ 1074)) (ha : a ≤ 16384) : (double.order (n % 9223372036854775808) 4670232813583204352 == some .lt || double.order (n % 9223372036854775808) 4670232813583204352 == some .eq) = true := by
  have hm := max16384
  generalize hv : (1074 : Nat) = v at h hm
  exact h.abs64.le_true hm (sgn_le ha)
theorem max64 : IsNum double 9218868437227405311 false ((2 ^ 53 - 1) * 2 ^ 2045) := ⟨2 ^ 53 - 1, 971, by decide +kernel, by decide, by decide +kernel, by decide +kernel⟩
theorem max64_ge {v a : Nat} (h : v < 2 ^ a) (ha : a ≤ 2097) : v ≤ (2 ^ 53 - 1) * 2 ^ 2045 := by
  generalize hu : (2045 : Nat) = u
  have e : (2 : Nat) ^ a ≤ 2 ^ 52 * 2 ^ u := by rw [← Nat.pow_add]; exact Nat.pow_le_pow_right (by omega) (by omega)
  exact Nat.le_trans (Nat.le_of_lt h) (Nat.le_trans e (Nat.mul_le_mul_right _ (by decide)))
end Go.Proofs.YtfpagmalblmnkaaGreatDoor
