/-
  Plain facts on any word of float32: if it passes the reference's tests for a sample, it stands for k/16 with k from -16384 to 16384.
-/
import Derived.Test.YthfiilfekofimaaGreatDoorDMb
import Derived.Test.YthfiilfekofimaaGreatDoorDWd
import Derived.Deep.DeepCutAuto
import Derived.Handy
import Derived.Deep.RegionHeld3
namespace Go.Proofs.YthfiilfekofimaaGreatDoor
open Ieee

theorem isNum_of_read {f : Format} {x : Nat} {s : Bool} {m : Nat} {e : Int} (h : f.read x = .number s m e) : IsNum f x s (m * 2 ^ (e - f.leastPlace).toNat) := by
  refine ⟨m, e, h, ?_, ?_, rfl⟩
  · unfold Format.read at h
    dsimp only at h
    split at h
    · simp only [Datum.number.injEq] at h; omega
    · split at h
      · simp only [Datum.number.injEq] at h; omega
      · split at h <;> cases h
  · have hb : f.binade = 2 ^ f.fractionBits := rfl
    have hbp : 0 < f.binade := Nat.two_pow_pos _
    rw [Nat.pow_succ, Nat.mul_comm, ← hb]
    unfold Format.read at h
    dsimp only at h
    split at h
    · simp only [Datum.number.injEq] at h; omega
    · split at h
      · simp only [Datum.number.injEq] at h
        have := Nat.mod_lt (x % f.signWeight) hbp
        omega
      · split at h <;> cases h

theorem cmp_gt_of {a b : Int} (h : b < a) : compare a b = .gt := by
  show compareOfLessAndEq a b = .gt
  unfold compareOfLessAndEq
  rw [if_neg (by omega), if_neg (by omega)]
theorem cmp_lt_of {a b : Int} (h : a < b) : compare a b = .lt := by
  show compareOfLessAndEq a b = .lt
  unfold compareOfLessAndEq
  rw [if_pos h]
theorem cmp_eq_of {a b : Int} (h : compare a b = .eq) : a = b := by
  have h' : compareOfLessAndEq a b = .eq := h
  unfold compareOfLessAndEq at h'
  split at h'
  · cases h'
  · split at h'
    · assumption
    · cases h'

theorem isNum1024 : IsNum single 1149239296 false (1024 * 2 ^ 149) := ⟨2 ^ 23, -13, by decide +kernel, by decide, by decide, by decide +kernel⟩
theorem isNum1024n : IsNum single 3296722944 true (1024 * 2 ^ 149) := ⟨2 ^ 23, -13, by decide +kernel, by decide, by decide, by decide +kernel⟩

theorem checkPart_num {x : Nat} (t1 : (single.order x x != some .eq) = false) (t2 : (single.order x 2139095039 == some .gt) = false) (t3 : (single.order x 4286578687 == some .lt) = false)
    (t4 : (single.order x 1149239296 == some .gt) = false) (t5 : (single.order x 3296722944 == some .lt) = false) : ∃ s v, IsNum single x s v ∧ v ≤ 1024 * 2 ^ 149 := by
  cases hd : single.read x with
  | nan a b =>
    exfalso
    have : single.order x x = none := by unfold Format.order; rw [hd]; rfl
    rw [this] at t1; cases t1
  | infinity s =>
    exfalso
    cases s with
    | false =>
      have hm : single.read 2139095039 = .number false 16777215 104 := by decide +kernel
      have : single.order x 2139095039 = some .gt := by unfold Format.order; rw [hd, hm]; rfl
      rw [this] at t2; cases t2
    | true =>
      have hm : single.read 4286578687 = .number true 16777215 104 := by decide +kernel
      have : single.order x 4286578687 = some .lt := by unfold Format.order; rw [hd, hm]; rfl
      rw [this] at t3; cases t3
  | number s m e =>
    have h := isNum_of_read hd
    generalize m * 2 ^ (e - single.leastPlace).toNat = v at h
    refine ⟨s, v, h, ?_⟩
    rw [h.order isNum1024] at t4
    rw [h.order isNum1024n] at t5
    generalize hc : 1024 * 2 ^ 149 = c at t4 t5 ⊢
    refine Classical.byContradiction fun hlt => ?_
    cases s with
    | false =>
      rw [cmp_gt_of (show sgn false c < sgn false v by unfold sgn; simp only [Bool.false_eq_true, if_false]; omega)] at t4
      cases t4
    | true =>
      rw [cmp_lt_of (show sgn true v < sgn true c by unfold sgn; simp only [if_true]; omega)] at t5
      cases t5

theorem checkPart_fin {x : Nat} {s : Bool} {v : Nat} (h : IsNum single x s v) (hv : v ≤ 1024 * 2 ^ 149) :
    ∃ r q, floatBits .mul .f32 1098907648 x = some r ∧ floatToIntVal .f32 r .i64 = some q ∧ ((single.order (floatOfInt .f32 q) r != some .eq) = false → Smp x q ∧ q.natAbs ≤ 16384) := by
  have hc : single.read 1098907648 = .number false (2 ^ single.fractionBits) (((4 : Nat) : Int) - single.fractionBits) := by decide +kernel
  have hmax : v * 2 ^ 4 < 2 ^ (single.fractionBits + 2 ^ single.exponentBits - 2) := by
    have h1 : v < 2 ^ 160 := Nat.lt_of_le_of_lt hv (by decide)
    exact pow_split_lt h1 (by decide)
  obtain ⟨r, _, m2, m3⟩ := h.mul_pow two32 hc hmax
  have ht := m3.toInt (by decide)
  have eL : (-single.leastPlace).toNat = 149 := by decide
  rw [eL] at ht
  have hq : v * 2 ^ 4 / 2 ^ 149 ≤ 16384 := by
    have h1 : v * 2 ^ 4 ≤ 16384 * 2 ^ 149 := by
      have := Nat.mul_le_mul_right (2 ^ 4) hv
      have e : 1024 * 2 ^ 149 * 2 ^ 4 = 16384 * 2 ^ 149 := by decide +kernel
      rw [e] at this; exact this
    have h2 := Nat.div_le_div_right (c := 2 ^ 149) h1
    rwa [Nat.mul_div_cancel _ (Nat.two_pow_pos _)] at h2
  generalize hqq : v * 2 ^ 4 / 2 ^ 149 = p at ht hq
  have hpa : (sgn s p).natAbs = p := by unfold sgn; cases s <;> simp
  refine ⟨r, sgn s p, m2, ?_, ?_⟩
  · unfold floatToIntVal
    have ht' : (FloatKind.f32.decode r).toInt .zero = some (sgn s p) := ht
    rw [ht']
    have : IntKind.i64.min ≤ sgn s p ∧ sgn s p ≤ IntKind.i64.max := by
      have e1 : IntKind.i64.min = -9223372036854775808 := by decide
      have e2 : IntKind.i64.max = 9223372036854775807 := by decide
      rw [e1, e2]; omega
    simp only [this, and_self, if_true]
  · intro hne
    have hy := isNum_ofInt (sgn s p) (by rw [hpa]; exact Nat.lt_of_le_of_lt hq (by decide))
    rw [hy.order m3, hpa] at hne
    have heq : compare (sgn (decide (sgn s p < 0)) (p * 2 ^ 149)) (sgn s (v * 2 ^ 4)) = .eq := by
      cases hcmp : compare (sgn (decide (sgn s p < 0)) (p * 2 ^ 149)) (sgn s (v * 2 ^ 4)) <;> rw [hcmp] at hne <;> first | rfl | cases hne
    have hab : p * 2 ^ 149 = v * 2 ^ 4 := by
      have e := congrArg Int.natAbs (cmp_eq_of heq)
      have n1 : ∀ (b : Bool) (n : Nat), (sgn b n).natAbs = n := fun b n => by unfold sgn; cases b <;> simp
      rwa [n1, n1] at e
    have hv2 : v = p * 2 ^ 145 := by
      have e : p * 2 ^ 149 = p * 2 ^ 145 * 2 ^ 4 := by rw [Nat.mul_assoc]
      rw [e] at hab
      exact (Nat.eq_of_mul_eq_mul_right (by decide) hab).symm
    refine ⟨⟨s, ?_, ?_, ?_⟩, by rw [hpa]; exact hq⟩
    · rw [hpa, ← hv2]; exact h
    · intro hs; unfold sgn at hs; cases s
      · simp only [Bool.false_eq_true, if_false] at hs; omega
      · rfl
    · intro hs; unfold sgn at hs; cases s
      · rfl
      · simp only [if_true] at hs; omega
end Go.Proofs.YthfiilfekofimaaGreatDoor

/-
  Contracts of the reference's check of a map, for any map with at most 4096 samples: if it returns 0 the map is right.
-/
namespace Go.Proofs.YthfiilfekofimaaGreatDoor
open Go.RowKit
set_option linter.unusedVariables false

theorem float1024 : floatOfInt .f32 1024 = 1149239296 := by decide +kernel
theorem sub1024 : floatBits .sub .f32 0 1149239296 = some 3296722944 := by decide +kernel

/-- What the reference's check of a number says: 0 only for a sample's word. -/
def PartPost (x : Nat) (r : Int) : Prop := r = 0 → ∃ k, Smp x k ∧ k.natAbs ≤ 16384

set_option maxHeartbeats 1600000 in
theorem checkPart_any (x : Nat) (w : World) :
    Calls Tryz.prog 54 #[.float .f32 x, .int .i64 1024] w fun e w' => ∃ r, e = .returned (.int .i64 r) ∧ Hid (PartPost x r) ∧ w = w' := by
  have c0 := run_ofInt 1024
  rw [float1024] at c0
  have c1 := run_sub 22 sub1024
  by_cases t1 : (FloatKind.f32.format.order x x != some .eq) = true
  · go_enter Tryz.func54, Tryz.ntmps54
    go_wp2
    go_ret
    exact ⟨1, rfl, fun h => (by cases h), rfl⟩
  have t1 := Bool.eq_false_iff.2 t1
  by_cases t2 : (FloatKind.f32.format.order x 2139095039 == some .gt) = true
  · go_enter Tryz.func54, Tryz.ntmps54
    go_wp2
    go_ret
    exact ⟨1, rfl, fun h => (by cases h), rfl⟩
  have t2 := Bool.eq_false_iff.2 t2
  by_cases t3 : (FloatKind.f32.format.order x 4286578687 == some .lt) = true
  · go_enter Tryz.func54, Tryz.ntmps54
    go_wp2
    go_ret
    exact ⟨1, rfl, fun h => (by cases h), rfl⟩
  have t3 := Bool.eq_false_iff.2 t3
  by_cases t4 : (FloatKind.f32.format.order x 1149239296 == some .gt) = true
  · go_enter Tryz.func54, Tryz.ntmps54
    go_wp2
    go_ret
    exact ⟨3, rfl, fun h => (by cases h), rfl⟩
  have t4 := Bool.eq_false_iff.2 t4
  by_cases t5 : (FloatKind.f32.format.order x 3296722944 == some .lt) = true
  · go_enter Tryz.func54, Tryz.ntmps54
    go_wp2
    go_ret
    exact ⟨3, rfl, fun h => (by cases h), rfl⟩
  have t5 := Bool.eq_false_iff.2 t5
  obtain ⟨s, v, hn, hv⟩ := checkPart_num t1 t2 t3 t4 t5
  obtain ⟨r, q, m1, m2, m3⟩ := checkPart_fin hn hv
  have c2 := run_mul 22 m1
  have c3 := run_toInt m2
  have c4 := run_ofInt q
  have M3 := Lib.hid m3
  clear hn hv m1 m2 m3
  by_cases t6 : (FloatKind.f32.format.order (floatOfInt .f32 q) r != some .eq) = true
  · go_enter Tryz.func54, Tryz.ntmps54
    go_wp2_with (go_at_call 124; refine (when_any true 3 _).mono ?_; rintro e w' ⟨rfl, rfl⟩)
    go_ret
    exact ⟨3, rfl, fun h => (by cases h), rfl⟩
  have t6 := Bool.eq_false_iff.2 t6
  have P := M3.out t6
  have HP := Lib.hid P
  clear P
  go_enter Tryz.func54, Tryz.ntmps54
  go_wp2_with (go_at_call 124; refine (when_any false 3 _).mono ?_; rintro e w' ⟨rfl, rfl⟩)
  go_ret
  exact ⟨0, rfl, fun _ => ⟨q, HP.out⟩, rfl⟩

set_option maxHeartbeats 400000 in
theorem refCheckSample_any (x : Nat) (w : World) :
    Calls Tryz.prog 53 #[.float .f32 x] w fun e w' => ∃ r, e = .returned (.int .i64 r) ∧ Hid (PartPost x r) ∧ w = w' := by
  go_enter Tryz.func53, Tryz.ntmps53
  go_wp2_with (go_at_call 54; refine (checkPart_any x _).mono ?_; rintro e w' ⟨r, rfl, hr, rfl⟩)
  go_ret
  exact ⟨r, rfl, hr, rfl⟩

/-- All words are samples'. -/
def AllSmp (n : Nat) (xs : List Nat) : Prop := ∀ j, j < n → ∃ k, Smp (xs[j]?.getD 0) k ∧ k.natAbs ≤ 16384

set_option maxHeartbeats 1600000 in
theorem checkSamples_any (b o n c : Nat) (xs : List Nat) (hm : n ≤ 4611686018427387904) (w : World)
    (hc : ∀ j, j < n → w.cell? ⟨b, o + j, none⟩ = some (.float .f32 (xs[j]?.getD 0))) :
    Calls Tryz.prog 11 #[.slice (some ⟨b, o, none⟩) n c] w fun e w' => ∃ r, e = .returned (.int .i64 r) ∧ Hid (r = 0 → AllSmp n xs) ∧ w = w' := by
  have Hc := Lib.hid hc
  clear hc
  go_enter Tryz.func11, Tryz.ntmps11
  go_wp2
  go_loop [3] (fun i => ∃ k : Nat, k ≤ n ∧ i = .int .i64 k ∧ Hid (∀ j, j < k → ∃ q, Smp (xs[j]?.getD 0) q ∧ q.natAbs ≤ 16384)) (fun i => n - (intOf i).toNat)
  case atStart => exact ⟨0, Nat.zero_le _, rfl, fun j hj => absurd hj (by omega)⟩
  case round =>
    obtain ⟨k, hk, rfl, hh⟩ := hrel
    by_cases hlt : k < n
    · have hcell := Hc.out k hlt
      go_wp2_with (go_at_call 53; refine (refCheckSample_any _ _).mono ?_; rintro e w' ⟨r, rfl, hr, rfl⟩)
      · have h0 : (r != 0) = true := by assumption
        go_ret
        exact ⟨r, rfl, fun h => (by simp [h] at h0), rfl⟩
      · have h0 : (r != 0) = false := by assumption
        have hr0 : r = 0 := by simpa using h0
        go_round
        case rel => exact ⟨k + 1, by omega, by go_num, fun j hj => by
          by_cases hjk : j < k
          · exact hh.out j hjk
          · obtain rfl : j = k := by omega
            exact hr.out hr0⟩
        case measure => simp [intOf]; omega
    · go_wp2
      go_ret
      obtain rfl : k = n := by omega
      exact ⟨0, rfl, fun _ => hh.out, rfl⟩
end Go.Proofs.YthfiilfekofimaaGreatDoor

/-
  Contract of the reference's CheckMap for any map with at most 4096 samples: if it returns 0 the map is right.
-/
namespace Go.Proofs.YthfiilfekofimaaGreatDoor
open Go.RowKit
set_option linter.unusedVariables false

theorem firstNZ_two {a b : Int} (h : firstNZ [a, b] = 0) : a = 0 ∧ b = 0 := by
  unfold firstNZ at h
  split at h
  · rename_i ha; exact absurd h ha
  · rename_i ha
    unfold firstNZ at h
    split at h
    · rename_i hb; exact absurd h hb
    · exact ⟨by omega, by omega⟩

def RightSays (W H : Int) (n : Nat) (xs : List Nat) : Prop := 1 ≤ W ∧ W ≤ 64 ∧ 1 ≤ H ∧ H ≤ 64 ∧ W * H = n ∧ AllSmp n xs

set_option maxRecDepth 100000 in
set_option maxHeartbeats 6400000 in
theorem refCheckMap_any (W H : Int) (a : Option Addr) (n c : Nat) (xs : List Nat) (hm : n ≤ 4096) (w : World)
    (hs : ∀ j, j < n → ∃ b o, a = some ⟨b, o, none⟩ ∧ b < w.heap.size ∧ ∀ j, j < n → w.cell? ⟨b, o + j, none⟩ = some (.float .f32 (xs[j]?.getD 0))) :
    Calls Tryz.prog 20 #[.agg #[.int .i64 W, .int .i64 H, .slice a n c]] w fun e w' => ∃ r, e = .returned (.int .i64 r) ∧ Hid (r = 0 → RightSays W H n xs) ∧ Below w.heap.size w w' := by
  have Hs := Lib.hid hs
  clear hs
  by_cases hne : firstNZ [rangeErr W 1 64, rangeErr H 1 64] = 0
  · obtain ⟨eW, eH⟩ := firstNZ_two hne
    have hW := rangeErr_zero eW
    have hH := rangeErr_zero eH
    have e0 : (firstNZ [rangeErr W 1 64, rangeErr H 1 64] != 0) = false := by simp [hne]
    have hmul0 : 1 ≤ W * H := by
      have := Int.mul_le_mul hW.1 hH.1 (by omega) (by omega)
      omega
    have hmul1 : W * H ≤ 4096 := by
      have := Int.mul_le_mul hW.2 hH.2 (by omega) (by omega)
      omega
    clear hne eW eH
    by_cases hA : W * H = n
    · have e1 : ((n : Int) != W * H) = false := by rw [hA]; simp
      obtain ⟨b, o, ha, hb, hc⟩ := Hs.out 0 (by omega)
      subst ha
      have HA := Lib.hid hA
      have Hc := Lib.hid hc
      clear hA hc Hs
      go_enter Tryz.func20, Tryz.ntmps20
      go_wp2_with fail
      go_region_held3 (fun w' => w'.cell? ⟨w.heap.size, 0, none⟩ = some (.int .i64 W) ∧ w'.cell? ⟨w.heap.size, 1, none⟩ = some (.int .i64 H))
        (go_keep)
        (first
          | ((go_at_call 81; refine (refCheckSide_any _ _).mono ?_; rintro e w' ⟨rfl, rfl⟩))
          | ((go_at_call 80; refine (refFirst_any _ 0 2 2 [rangeErr W 1 64, rangeErr H 1 64] rfl (by omega) _ ?_).mono ?_; rotate_left 1; rintro e w' ⟨rfl, rfl⟩; rotate_left 1; (intro j hj; match j, hj with | 0, _ => simp [go_sem] | 1, _ => simp [go_sem]))))
      all_goals
        go_wp2_with ((go_at_call 11; refine (checkSamples_any b o n c xs (by omega) _ (fun j hj => ?_)).mono ?_; rotate_left 1; rintro e w' ⟨r, rfl, hr, rfl⟩; rotate_left 1; exact ((((Below.refl _ w).alloc (Nat.le_refl _) _).alloc (by simp) _).drew.cell (by exact hb)).trans (Hc.out j hj)))
        go_ret
        exact ⟨r, rfl, fun h => ⟨hW.1, hW.2, hH.1, hH.2, HA.out, hr.out h⟩, (((Below.refl _ w).alloc (Nat.le_refl _) _).alloc (by simp) _).drew⟩
    · have e1 : ((n : Int) != W * H) = true := by simp; omega
      clear hA
      go_enter Tryz.func20, Tryz.ntmps20
      go_wp2_with fail
      go_region_held3 (fun w' => w'.cell? ⟨w.heap.size, 0, none⟩ = some (.int .i64 W) ∧ w'.cell? ⟨w.heap.size, 1, none⟩ = some (.int .i64 H))
        (go_keep)
        (first
          | ((go_at_call 81; refine (refCheckSide_any _ _).mono ?_; rintro e w' ⟨rfl, rfl⟩))
          | ((go_at_call 80; refine (refFirst_any _ 0 2 2 [rangeErr W 1 64, rangeErr H 1 64] rfl (by omega) _ ?_).mono ?_; rotate_left 1; rintro e w' ⟨rfl, rfl⟩; rotate_left 1; (intro j hj; match j, hj with | 0, _ => simp [go_sem] | 1, _ => simp [go_sem]))))
      all_goals
        go_wp2
        go_ret
        exact ⟨2, rfl, fun h => (by cases h), (((Below.refl _ w).alloc (Nat.le_refl _) _).alloc (by simp) _).drew⟩
  · have e0 : (firstNZ [rangeErr W 1 64, rangeErr H 1 64] != 0) = true := by simp [hne]
    have HNE := Lib.hid hne
    clear hne Hs
    go_enter Tryz.func20, Tryz.ntmps20
    go_wp2_with fail
    go_region_held3 (fun w' => w'.cell? ⟨w.heap.size, 0, none⟩ = some (.int .i64 W) ∧ w'.cell? ⟨w.heap.size, 1, none⟩ = some (.int .i64 H))
      (go_keep)
      (first
        | ((go_at_call 81; refine (refCheckSide_any _ _).mono ?_; rintro e w' ⟨rfl, rfl⟩))
        | ((go_at_call 80; refine (refFirst_any _ 0 2 2 [rangeErr W 1 64, rangeErr H 1 64] rfl (by omega) _ ?_).mono ?_; rotate_left 1; rintro e w' ⟨rfl, rfl⟩; rotate_left 1; (intro j hj; match j, hj with | 0, _ => simp [go_sem] | 1, _ => simp [go_sem]))))
    all_goals
      go_wp2
      go_ret
      exact ⟨_, rfl, fun h => absurd h HNE.out, (((Below.refl _ w).alloc (Nat.le_refl _) _).alloc (by simp) _).drew⟩
end Go.Proofs.YthfiilfekofimaaGreatDoor

/-
  Contracts of the reference's comparisons of two slices: equal ones are told as equal.
-/
namespace Go.Proofs.YthfiilfekofimaaGreatDoor
open Go.RowKit
set_option linter.unusedVariables false

theorem order_eq_neq {x y : Nat} {k : Int} (hx : Smp x k) (hy : Smp y k) : (FloatKind.f32.format.order x y != some .eq) = false := by
  have h : Ieee.single.order x y = some (compare k k) := hx.order hy
  have e : compare k k = .eq := by
    show compareOfLessAndEq k k = .eq
    unfold compareOfLessAndEq; simp
  show (Ieee.single.order x y != some .eq) = false
  rw [h, e]; rfl

set_option maxRecDepth 100000 in
set_option maxHeartbeats 3200000 in
theorem sameSamples_any {w : World} (b o c b' o' c' n : Nat) (xs ys : List Nat) (ks : List Int) (hm : n ≤ 4096) (hb : b < w.heap.size) (hb' : b' < w.heap.size)
    (hc : ∀ j, j < n → w.cell? ⟨b, o + j, none⟩ = some (.float .f32 (xs[j]?.getD 0))) (hc' : ∀ j, j < n → w.cell? ⟨b', o' + j, none⟩ = some (.float .f32 (ys[j]?.getD 0)))
    (hx : ∀ j, j < n → Smp (xs[j]?.getD 0) (ks[j]?.getD 0)) (hy : ∀ j, j < n → Smp (ys[j]?.getD 0) (ks[j]?.getD 0)) :
    Calls Tryz.prog 99 #[.slice (some ⟨b, o, none⟩) n c, .slice (some ⟨b', o', none⟩) n c'] w fun e w' => e = .returned (.bool true) ∧ Below w.heap.size w w' := by
  have Hc := Lib.hid hc
  have Hc' := Lib.hid hc'
  have Hx := Lib.hid hx
  have Hy := Lib.hid hy
  have e0 : ((n : Int) != n) = false := by simp
  clear hc hc' hx hy
  go_enter Tryz.func99, Tryz.ntmps99
  go_wp2
  go_loopw [5] (fun i wr => ∃ k : Nat, k ≤ n ∧ i = .int .i64 k ∧ Below w.heap.size w wr) (fun i _ => n - (intOf i).toNat)
  case atStart => exact ⟨0, Nat.zero_le _, rfl, Below.refl _ _⟩
  case round =>
    obtain ⟨k, hk, rfl, hnx⟩ := hrel
    by_cases hlt : k < n
    · have h1 : wr.cell? ⟨b, o + k, none⟩ = some (.float .f32 (xs[k]?.getD 0)) := (hnx.cell (by exact hb)).trans (Hc.out k hlt)
      have h2 : wr.cell? ⟨b', o' + k, none⟩ = some (.float .f32 (ys[k]?.getD 0)) := (hnx.cell (by exact hb')).trans (Hc'.out k hlt)
      have h3 := order_eq_neq (Hx.out k hlt) (Hy.out k hlt)
      have h4 : (k : Int) < (n : Int) := by omega
      have h5 : (0 : Int) ≤ (k : Int) := by omega
      go_wp2_with fail
      go_quiet (fail)
      go_wp2
      go_roundw
      case rel => exact ⟨k + 1, by omega, by go_num, below_drewN hnx _⟩
      case measure => simp [intOf]; omega
    · go_wp2
      go_ret
      exact ⟨rfl, hnx⟩

set_option maxRecDepth 100000 in
set_option maxHeartbeats 3200000 in
theorem sameInts_any {w : World} (a a' : Option Addr) (n c c' : Nat) (zs : List Int) (hm : n ≤ 4096)
    (hc : ∀ j, j < n → ∃ b o, a = some ⟨b, o, none⟩ ∧ b < w.heap.size ∧ w.cell? ⟨b, o + j, none⟩ = some (.int .i64 (zs[j]?.getD 0))) (hc' : ∀ j, j < n → ∃ b o, a' = some ⟨b, o, none⟩ ∧ b < w.heap.size ∧ w.cell? ⟨b, o + j, none⟩ = some (.int .i64 (zs[j]?.getD 0))) :
    Calls Tryz.prog 43 #[.slice a n c, .slice a' n c'] w fun e w' => e = .returned (.bool true) ∧ Below w.heap.size w w' := by
  have Hc := Lib.hid hc
  have Hc' := Lib.hid hc'
  have e0 : ((n : Int) != n) = false := by simp
  clear hc hc'
  go_enter Tryz.func43, Tryz.ntmps43
  go_wp2
  go_loopw [5] (fun i wr => ∃ k : Nat, k ≤ n ∧ i = .int .i64 k ∧ Below w.heap.size w wr) (fun i _ => n - (intOf i).toNat)
  case atStart => exact ⟨0, Nat.zero_le _, rfl, Below.refl _ _⟩
  case round =>
    obtain ⟨k, hk, rfl, hnx⟩ := hrel
    by_cases hlt : k < n
    · obtain ⟨b, o, rfl, hb, h1⟩ := Hc.out k hlt
      obtain ⟨b', o', rfl, hb', h2⟩ := Hc'.out k hlt
      replace h1 := (hnx.cell (p := ⟨b, o + k, none⟩) hb).trans h1
      replace h2 := (hnx.cell (p := ⟨b', o' + k, none⟩) hb').trans h2
      have h3 : (zs[k]?.getD 0 != zs[k]?.getD 0) = false := by simp
      have h4 : (k : Int) < (n : Int) := by omega
      have h5 : (0 : Int) ≤ (k : Int) := by omega
      clear Hc Hc'
      go_wp2_with fail
      go_quiet (fail)
      go_wp2
      go_roundw
      case rel => exact ⟨k + 1, by omega, by go_num, below_drewN hnx _⟩
      case measure => simp [intOf]; omega
    · go_wp2
      go_ret
      exact ⟨rfl, hnx⟩
end Go.Proofs.YthfiilfekofimaaGreatDoor

/-
  Contracts: two maps with equal integers are told as the same; a map's own copy; whether a map is small.
-/
namespace Go.Proofs.YthfiilfekofimaaGreatDoor
open Go.RowKit
set_option linter.unusedVariables false

set_option maxHeartbeats 800000 in
theorem sameSize_any (W H : Int) (a a' : Option Addr) (n c n' c' : Nat) (w : World) :
    Calls Tryz.prog 98 #[.agg #[.int .i64 W, .int .i64 H, .slice a n c], .agg #[.int .i64 W, .int .i64 H, .slice a' n' c']] w fun e w' => e = .returned (.bool true) ∧ Below w.heap.size w w' := by
  have h1 : (W == W) = true := by simp
  have h2 : (H == H) = true := by simp
  go_enter Tryz.func98, Tryz.ntmps98
  go_wp2
  go_ret
  exact ⟨rfl, (((Below.refl _ _).alloc (Nat.le_refl _) _).alloc (by simp) _)⟩

set_option maxRecDepth 100000 in
set_option maxHeartbeats 1600000 in
theorem sameMap_any {w : World} (W H : Int) (b o c b' o' c' n : Nat) (xs ys : List Nat) (ks : List Int) (hm : n ≤ 4096) (hb : b < w.heap.size) (hb' : b' < w.heap.size)
    (hc : ∀ j, j < n → w.cell? ⟨b, o + j, none⟩ = some (.float .f32 (xs[j]?.getD 0))) (hc' : ∀ j, j < n → w.cell? ⟨b', o' + j, none⟩ = some (.float .f32 (ys[j]?.getD 0)))
    (hx : ∀ j, j < n → Smp (xs[j]?.getD 0) (ks[j]?.getD 0)) (hy : ∀ j, j < n → Smp (ys[j]?.getD 0) (ks[j]?.getD 0)) :
    Calls Tryz.prog 32 #[.agg #[.int .i64 W, .int .i64 H, .slice (some ⟨b, o, none⟩) n c], .agg #[.int .i64 W, .int .i64 H, .slice (some ⟨b', o', none⟩) n c']] w fun e w' => e = .returned (.bool true) ∧ Below w.heap.size w w' := by
  have K : ∀ w1 : World, Below w.heap.size w w1 → Calls Tryz.prog 99 #[.slice (some ⟨b, o, none⟩) n c, .slice (some ⟨b', o', none⟩) n c'] w1 fun e w' => e = .returned (.bool true) ∧ Below w1.heap.size w1 w' := fun w1 h =>
    sameSamples_any b o c b' o' c' n xs ys ks hm (by have := h.size; omega) (by have := h.size; omega) (fun j hj => (h.cell (by exact hb)).trans (hc j hj)) (fun j hj => (h.cell (by exact hb')).trans (hc' j hj)) hx hy
  have HK := Lib.hid K
  clear K hc hc' hx hy
  go_enter Tryz.func32, Tryz.ntmps32
  go_wp2_with fail
  refine (sameSize_any W H _ _ n c n c' _).mono ?_
  rintro e w1 ⟨rfl, hb1⟩
  have hB : Below w.heap.size w w1 := (((Below.refl _ w).alloc (Nat.le_refl _) _).alloc (by simp) _).trans (hb1.mono (by simp; omega))
  have s0 : w1.cell? ⟨w.heap.size, 2, none⟩ = some (.slice (some ⟨b, o, none⟩) n c) := by rw [hb1.cell (by simp; try omega)]; simp [go_sem]
  have s1 : w1.cell? ⟨w.heap.size + 1, 2, none⟩ = some (.slice (some ⟨b', o', none⟩) n c') := by rw [hb1.cell (by simp)]; simp [go_sem]
  have HB := Lib.hid hB
  clear hb1 hB
  go_wp2_with fail
  refine (HK.out _ HB.out).mono ?_
  rintro e w2 ⟨rfl, hb2⟩
  go_wp2
  go_ret
  exact ⟨rfl, HB.out.trans (hb2.mono HB.out.size)⟩

/-- What the call that copies the samples leaves. -/
theorem owns_base {w : World} {B B' T sz n : Nat} {v : Value} {xs : List Value} (h : w.ownsRow B' T sz v n xs) (hB : B ≤ B') : w.ownsRow B T sz v n xs := by
  refine ⟨h.1, ?_⟩
  rcases h.2 with h | ⟨g, cap, cur, h1, h2, h3⟩
  · exact .inl h
  · exact .inr ⟨g, cap, cur, h1, Nat.le_trans hB h2, h3⟩
def OwnPost (w : World) (W H : Int) (n : Nat) (xs : List Nat) (T : TypeId) (e : Ending) (w' : World) : Prop :=
  ∃ g c, e = .returned (.agg #[.int .i64 W, .int .i64 H, .slice (some ⟨g, 0, none⟩) n c]) ∧ w.heap.size ≤ g ∧ g < w'.heap.size ∧ (∀ j, j < n → w'.cell? ⟨g, j, none⟩ = some (.float .f32 (xs[j]?.getD 0))) ∧ Below w.heap.size w w' ∧ w'.ownsRow w.heap.size T 1 (.slice (some ⟨g, 0, none⟩) n c) n (xs.map (Value.float .f32))

theorem Tryz.infoF32 : (Tryz.prog.info? 22).map (fun i => (i.zero, i.size, i.bytes)) = some (some (.float .f32 0), 1, 4) := by kernel_rfl

set_option maxRecDepth 100000 in
set_option maxHeartbeats 3200000 in
theorem own_any {w : World} (W H : Int) (b o n c : Nat) (xs : List Nat) (hx : xs.length = n) (hn1 : 1 ≤ n) (hm : n ≤ 4096) (hb : b < w.heap.size)
    (hc : ∀ j, j < n → w.cell? ⟨b, o + j, none⟩ = some (.float .f32 (xs[j]?.getD 0))) :
    Calls Tryz.prog 73 #[.agg #[.int .i64 W, .int .i64 H, .slice (some ⟨b, o, none⟩) n c]] w (OwnPost w W H n xs 22) := by
  obtain ⟨i0, hi, hz0, hz1, hz2⟩ := info_parts Tryz.infoF32
  have Hx := Lib.hid hx
  have Hc := Lib.hid hc
  clear hx hc
  go_enter Tryz.func73, Tryz.ntmps73
  go_wp2_with (at_builtin; go_loud (refine wpList_append_own _ rfl (.tmp 3) (.tmp 5) 33 rfl (w.heap.size + 2) 22 i0 (.float .f32 0) 1 4 Tryz.underlying33 hi hz0 hz1 hz2 rfl (by decide) (.slice (some ⟨w.heap.size + 1 + 1, 0, none⟩) 0 0) 0 [] rfl ?c0 ⟨b, o, none⟩ n c (xs.map (Value.float .f32)) rfl (by simp [Hx.out]) ?c1 ?c2 ?c3 ?c4 ?c5 ?_))
  case c0 =>
    have h := World.ownsRow_made (base := w.heap.size + 2) (e := 22) (size := 1) ((w.alloc (.cells #[.int .i64 W, .int .i64 H, .slice (some ⟨b, o, none⟩) n c] 41)).alloc (.cells #[.int .i64 0, .int .i64 0, .slice none 0 0] 41)) #[] 0 (by simp) (by unfold maxLen; omega) rfl
    simpa using h
  case c1 =>
    intro j u hu
    have hj : j < n := by have := (List.getElem?_eq_some_iff.1 hu).1; simp [Hx.out] at this; exact this
    have hadd : (⟨b, o, none⟩ : Addr).add j = ⟨b, o + j, none⟩ := by unfold Addr.add; split <;> simp_all
    have e : u = .float .f32 (xs[j]?.getD 0) := by
      have hj' : j < xs.length := by rw [Hx.out]; exact hj
      simp [List.getElem?_map, List.getElem?_eq_getElem hj'] at hu
      simp [hj', hu]
    rw [hadd, e]
    exact ((((Below.refl _ w).alloc (Nat.le_refl _) _).alloc (by simp) _).alloc (by simp; try omega) _ |>.cell (by exact hb)).trans (Hc.out j hj)
  case c2 => intro u hu; obtain ⟨x, _, rfl⟩ := List.mem_map.1 hu; rfl
  case c3 => unfold maxLen; omega
  case c4 => omega
  case c5 => simp
  intro v' w1 hown hgrow _
  have hex : ∃ g cap, v' = .slice (some ⟨g, 0, none⟩) n cap ∧ w.heap.size + 2 ≤ g ∧ g < w1.heap.size := by
    have hlt := hown.lt
    obtain ⟨_, hnil | ⟨g, cap, cur, rfl, _⟩⟩ := hown
    · omega
    · have := hlt g rfl
      exact ⟨g, cap, by simp, this.1, this.2⟩
  obtain ⟨g, cap, hv, hg1, hg2⟩ := hex
  rw [hv] at hown ⊢
  have hb1 := (Below.refl (w.heap.size + 2) _).grown hgrow (by simp; try omega) (fun k hk => by cases hk; simp)
  have s0 : w1.cell? ⟨w.heap.size, 0, none⟩ = some (.int .i64 W) := by rw [hb1.cell (by simp; try omega)]; simp [go_sem]
  have s1 : w1.cell? ⟨w.heap.size, 1, none⟩ = some (.int .i64 H) := by rw [hb1.cell (by simp; try omega)]; simp [go_sem]
  have s2 : w1.cell? ⟨w.heap.size, 2, none⟩ = some (.slice (some ⟨b, o, none⟩) n c) := by rw [hb1.cell (by simp; try omega)]; simp [go_sem]
  have r0 : w1.cell? ⟨w.heap.size + 1, 0, none⟩ = some (.int .i64 0) := by rw [hb1.cell (by simp; try omega)]; simp [go_sem]
  have r1 : w1.cell? ⟨w.heap.size + 1, 1, none⟩ = some (.int .i64 0) := by rw [hb1.cell (by simp; try omega)]; simp [go_sem]
  have r2 : w1.cell? ⟨w.heap.size + 1, 2, none⟩ = some (.slice none 0 0) := by rw [hb1.cell (by simp; try omega)]; simp [go_sem]
  have f2 : w1.frozen? ⟨w.heap.size, 2, none⟩ = false := by rw [hb1.frozen (by simp; try omega)]; simp [go_sem]
  have q0 : w1.frozen? ⟨w.heap.size + 1, 0, none⟩ = false := by rw [hb1.frozen (by simp; try omega)]; simp [go_sem]
  have q1 : w1.frozen? ⟨w.heap.size + 1, 1, none⟩ = false := by rw [hb1.frozen (by simp; try omega)]; simp [go_sem]
  have q2 : w1.frozen? ⟨w.heap.size + 1, 2, none⟩ = false := by rw [hb1.frozen (by simp; try omega)]; simp [go_sem]
  have HB := Lib.hid hb1
  have HV := Lib.hid hv
  have Hcell := Lib.hid (fun (j : Nat) (hj : j < n) => owns_cell hown (j := j) (v := .float .f32 (xs[j]?.getD 0)) (by have h := Hx.out; simp [h, hj]))
  have HOWN := Lib.hid hown
  clear hb1 hown hgrow hv
  go_wp2
  refine bodyPost_ret (v := .agg #[.int .i64 W, .int .i64 H, .slice (some ⟨g, 0, none⟩) n cap]) (by simp [results, Tryz.results73, go_sem, r0, r1, r2]) rfl ⟨g, cap, rfl, by omega, ?_, ?_, ?_, ?_⟩
  · simp; omega
  · intro j hj
    simp [go_sem, World.cell?_setCell_other]
    exact Hcell.out j hj
  · exact (((((((Below.refl _ w).alloc (Nat.le_refl _) _).alloc (by simp) _).alloc (by simp; try omega) _).trans (HB.out.mono (by omega))).setCell (p := ⟨w.heap.size, 2, none⟩) (by simp) _).setCell (p := ⟨w.heap.size + 1, 0, none⟩) (by simp) _).setCell (p := ⟨w.heap.size + 1, 1, none⟩) (by simp) _ |>.setCell (p := ⟨w.heap.size + 1, 2, none⟩) (by simp) _
  · have h := HOWN.out
    try simp only [Nat.zero_add, List.nil_append] at h
    exact owns_base (ownsRow_setCell_below (ownsRow_setCell_below (ownsRow_setCell_below (ownsRow_setCell_below h (by dsimp only; omega) _) (by dsimp only; omega) _) (by dsimp only; omega) _) (by dsimp only; omega) _) (by omega)

end Go.Proofs.YthfiilfekofimaaGreatDoor

/-
  Contracts: the integers of a right map; whether a map is small: if it is told so, it is right and has at most 36 samples.
-/
namespace Go.Proofs.YthfiilfekofimaaGreatDoor
open Go.RowKit
set_option linter.unusedVariables false

theorem Tryz.infoInt : (Tryz.prog.info? 3).map (fun i => (i.zero, i.size, i.bytes)) = some (some (.int .i64 0), 1, 8) := by kernel_rfl

end Go.Proofs.YthfiilfekofimaaGreatDoor

/-
  Contracts of writeNumber and readNumber for two and four bytes, and of checksum.
-/
namespace Go.Proofs.YthfiilfekofimaaGreatDoor
open Go.RowKit
set_option linter.unusedVariables false

/-- Byte k of a number, the lowest one first. -/
def byt (v : Int) (k : Nat) : Int := v / 256 ^ k % 256
theorem byt_bd (v : Int) (k : Nat) : 0 ≤ byt v k ∧ byt v k ≤ 255 := by unfold byt; omega

theorem byt_0 (v : Int) : v % 256 = byt v 0 := by unfold byt; simp
theorem byt_1 (v : Int) : v / 256 % 256 = byt v 1 := by unfold byt; simp
theorem byt_2 (v : Int) : v / 256 / 256 % 256 = byt v 2 := by unfold byt; omega
theorem byt_3' (v : Int) (h0 : 0 ≤ v) (h1 : v ≤ 4294967295) : v / 256 / 256 / 256 = byt v 3 := by unfold byt; omega
theorem byt_1' (v : Int) (h0 : 0 ≤ v) (h1 : v ≤ 65535) : v / 256 = byt v 1 := by unfold byt; omega

set_option maxRecDepth 100000 in
set_option maxHeartbeats 3200000 in
theorem write4_any {x0 x1 x2 x3 : Int} (w : World) (f o : Nat) (c : Nat) (v : Int) (h0 : 0 ≤ v) (h1 : v ≤ 4294967295)
    (c0 : w.cell? ⟨f, o, none⟩ = some (.int .u8 x0)) (c1 : w.cell? ⟨f, o + 1, none⟩ = some (.int .u8 x1)) (c2 : w.cell? ⟨f, o + 2, none⟩ = some (.int .u8 x2)) (c3 : w.cell? ⟨f, o + 3, none⟩ = some (.int .u8 x3))
    (f0 : w.frozen? ⟨f, o, none⟩ = false) (f1 : w.frozen? ⟨f, o + 1, none⟩ = false) (f2 : w.frozen? ⟨f, o + 2, none⟩ = false) (f3 : w.frozen? ⟨f, o + 3, none⟩ = false) :
    Calls Tryz.prog 151 #[.slice (some ⟨f, o, none⟩) 4 c, .int .i64 v] w fun e w' => e = .returned (.tuple #[]) ∧
      w' = (((w.setCell ⟨f, o + 3, none⟩ (.int .u8 (byt v 0))).setCell ⟨f, o + 2, none⟩ (.int .u8 (byt v 1))).setCell ⟨f, o + 1, none⟩ (.int .u8 (byt v 2))).setCell ⟨f, o, none⟩ (.int .u8 (byt v 3)) := by
  go_enter Tryz.func151, Tryz.ntmps151
  go_wp2
  refine wp_loop_rounds 5 ?_
  rw [rounds_succ]
  go_wp2
  rw [rounds_succ]
  go_wp2
  rw [rounds_succ]
  go_wp2
  rw [rounds_succ]
  go_wp2
  rw [rounds_succ]
  go_wp2
  go_end0
  refine ⟨rfl, ?_⟩
  rw [byt_0, byt_1, byt_2, byt_3' v h0 h1]

set_option maxRecDepth 100000 in
set_option maxHeartbeats 3200000 in
theorem write2_any {x0 x1 : Int} (w : World) (f o : Nat) (c : Nat) (v : Int) (h0 : 0 ≤ v) (h1 : v ≤ 65535)
    (c0 : w.cell? ⟨f, o, none⟩ = some (.int .u8 x0)) (c1 : w.cell? ⟨f, o + 1, none⟩ = some (.int .u8 x1))
    (f0 : w.frozen? ⟨f, o, none⟩ = false) (f1 : w.frozen? ⟨f, o + 1, none⟩ = false) :
    Calls Tryz.prog 151 #[.slice (some ⟨f, o, none⟩) 2 c, .int .i64 v] w fun e w' => e = .returned (.tuple #[]) ∧
      w' = (w.setCell ⟨f, o + 1, none⟩ (.int .u8 (byt v 0))).setCell ⟨f, o, none⟩ (.int .u8 (byt v 1)) := by
  go_enter Tryz.func151, Tryz.ntmps151
  go_wp2
  refine wp_loop_rounds 3 ?_
  rw [rounds_succ]
  go_wp2
  rw [rounds_succ]
  go_wp2
  rw [rounds_succ]
  go_wp2
  go_end0
  refine ⟨rfl, ?_⟩
  rw [byt_0, byt_1' v h0 h1]

/-- The number of some bytes, the highest first. -/
def numOf (l : List Int) : Int := l.foldl (fun n b => n * 256 + b) 0
/-- The checksum of some bytes. -/
def chkOf (l : List Int) : Int := l.foldl (fun x b => (277 * x + b) % 16777199) 1
theorem chk_bd (l : List Int) : 0 ≤ chkOf l ∧ chkOf l ≤ 16777198 := by
  unfold chkOf
  suffices h : ∀ x : Int, 0 ≤ x ∧ x ≤ 16777198 → 0 ≤ l.foldl (fun x b => (277 * x + b) % 16777199) x ∧ l.foldl (fun x b => (277 * x + b) % 16777199) x ≤ 16777198 from h 1 (by omega)
  induction l with
  | nil => intro x h; exact h
  | cons b r ih => intro x h; rw [List.foldl_cons]; exact ih _ (by omega)
theorem foldl_take_succ {α β : Type} (f : β → α → β) (x : β) (l : List α) (k : Nat) (hk : k < l.length) (d : α) : (l.take (k + 1)).foldl f x = f ((l.take k).foldl f x) (l[k]?.getD d) := by
  rw [List.take_succ_eq_append_getElem hk, List.foldl_append, List.getElem?_eq_getElem hk]; rfl

set_option maxHeartbeats 1600000 in
theorem checksum_any (f o n c : Nat) (l : List Int) (w : World) (hl : l.length = n) (hm : n ≤ 100000) (hbd : ∀ j, j < n → 0 ≤ l[j]?.getD 0 ∧ l[j]?.getD 0 ≤ 255)
    (hc : ∀ j, j < n → w.cell? ⟨f, o + j, none⟩ = some (.int .u8 (l[j]?.getD 0))) :
    Calls Tryz.prog 117 #[.slice (some ⟨f, o, none⟩) n c] w fun e w' => e = .returned (.int .i64 (chkOf l)) ∧ w = w' := by
  have Hl := Lib.hid hl
  have Hc := Lib.hid hc
  have Hb := Lib.hid hbd
  clear hl hc hbd
  go_enter Tryz.func117, Tryz.ntmps117
  go_wp2
  go_loop [3, 8] (fun x i => ∃ k : Nat, k ≤ n ∧ i = .int .i64 k ∧ x = .int .i64 (chkOf (l.take k))) (fun _ i => n - (intOf i).toNat)
  case atStart => exact ⟨0, Nat.zero_le _, rfl, rfl⟩
  case round =>
    obtain ⟨k, hk, rfl, rfl⟩ := hrel
    have hx := chk_bd (l.take k)
    by_cases hlt : k < n
    · have hcell := Hc.out k hlt
      have hb := Hb.out k hlt
      have HS : Hid (chkOf (l.take (k + 1)) = (277 * chkOf (l.take k) + l[k]?.getD 0) % 16777199) := foldl_take_succ _ _ _ _ (by have := Hl.out; omega) 0
      go_wp2
      go_round
      case rel => exact ⟨k + 1, by omega, by go_num, by rw [HS.out]⟩
      case measure => simp [intOf]; omega
    · go_wp2
      go_ret
      exact ⟨ret_int (by rw [List.take_of_length_le (by have := Hl.out; omega)]), rfl⟩

theorem ofInt_i64 (a : Nat) (h : a < 9223372036854775808) : (BitVec.ofInt 64 (a : Int)).toNat = a := by
  simp; omega
theorem or_shift (a b : Int) (h0 : 0 ≤ a) (h1 : a ≤ 1099511627776) (h2 : 0 ≤ b) (h3 : b ≤ 255) : bits BinOp.or IntKind.i64 (a * 256) b = a * 256 + b := by
  obtain ⟨A, rfl⟩ := Int.eq_ofNat_of_zero_le h0
  obtain ⟨B, rfl⟩ := Int.eq_ofNat_of_zero_le h2
  have e : ((A : Int) * 256) = ((A * 256 : Nat) : Int) := by omega
  rw [e]
  show IntKind.i64.wrap ((BitVec.ofInt 64 ((A * 256 : Nat) : Int) ||| BitVec.ofInt 64 (B : Int)).toNat : Int) = _
  have k := Nat.two_pow_add_eq_or_of_lt (i := 8) (b := B) (by omega) A
  rw [BitVec.toNat_or, ofInt_i64 _ (by omega), ofInt_i64 _ (by omega), Nat.mul_comm A 256, ← k, IntWalk.i64_in _ ⟨by omega, by omega⟩]
  omega

/-- One more than the greatest number of k bytes. -/
def lim : Nat → Int
  | 0 => 1
  | 1 => 256
  | 2 => 65536
  | 3 => 16777216
  | _ => 4294967296
theorem lim_succ (k : Nat) (h : k < 4) : lim (k + 1) = lim k * 256 ∧ lim k ≤ 16777216 := by
  match k, h with
  | 0, _ => decide
  | 1, _ => decide
  | 2, _ => decide
  | 3, _ => decide

set_option maxHeartbeats 1600000 in
theorem readNumber_any (f o n c : Nat) (l : List Int) (w : World) (hl : l.length = n) (hm : n ≤ 4) (hbd : ∀ j, j < n → 0 ≤ l[j]?.getD 0 ∧ l[j]?.getD 0 ≤ 255)
    (hc : ∀ j, j < n → w.cell? ⟨f, o + j, none⟩ = some (.int .u8 (l[j]?.getD 0))) :
    Calls Tryz.prog 119 #[.slice (some ⟨f, o, none⟩) n c] w fun e w' => e = .returned (.int .i64 (numOf l)) ∧ w = w' := by
  have Hl := Lib.hid hl
  have Hc := Lib.hid hc
  have Hb := Lib.hid hbd
  clear hl hc hbd
  go_enter Tryz.func119, Tryz.ntmps119
  go_wp2
  go_loop [3, 8] (fun x i => ∃ k : Nat, k ≤ n ∧ i = .int .i64 k ∧ x = .int .i64 (numOf (l.take k)) ∧ 0 ≤ numOf (l.take k) ∧ numOf (l.take k) < lim k) (fun _ i => n - (intOf i).toNat)
  case atStart => exact ⟨0, Nat.zero_le _, rfl, rfl, by simp [numOf], by simp [numOf, lim]⟩
  case round =>
    obtain ⟨k, hk, rfl, rfl, hx0, hx1⟩ := hrel
    by_cases hlt : k < n
    · have hcell := Hc.out k hlt
      have hb := Hb.out k hlt
      have HS : Hid (numOf (l.take (k + 1)) = numOf (l.take k) * 256 + l[k]?.getD 0) := foldl_take_succ _ _ _ _ (by have := Hl.out; omega) 0
      have hL := lim_succ k (by omega)
      have hx2 : numOf (l.take k) ≤ 4294967295 := by omega
      have hor := or_shift (numOf (l.take k)) (l[k]?.getD 0) hx0 (by omega) hb.1 hb.2
      have H1 := Lib.hid hx1
      have HL := Lib.hid hL
      clear hx1 hL
      go_wp2
      go_round
      case rel => exact ⟨k + 1, by omega, by go_num, by rw [HS.out], by rw [HS.out]; omega, by rw [HS.out, HL.out.1]; have := H1.out; omega⟩
      case measure => simp [intOf]; omega
    · go_wp2
      go_ret
      exact ⟨ret_int (by rw [List.take_of_length_le (by have := Hl.out; omega)]), rfl⟩
end Go.Proofs.YthfiilfekofimaaGreatDoor
