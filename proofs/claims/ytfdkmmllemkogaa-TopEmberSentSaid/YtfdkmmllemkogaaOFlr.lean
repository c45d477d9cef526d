/-
  Plain facts on any word of float32: if it passes the reference's tests for a sample, it stands for k/16 with k from -16384 to 16384.
-/
import Derived.Test.YtfdkmmllemkogaaOFlp
import Derived.Test.YtfdkmmllemkogaaOWg
namespace Go.Proofs.Ytfdkmmllemkogaa
open Ieee

theorem isNum_of_read {f : Format} {x : Nat} {s : Bool} {m : Nat} {e : Int} (h : f.read x = .number s m e) : IsNum f x s (m * 2 ^ (e - f.leastPlace).toNat) := by
  refine ⟨m, e, h, ?_, ?_, rfl⟩
  · unfold Format.read at h
    dsimp only at h
    split at h
    · simp only [Datum.number.injEq] at h; omega
    · split at h
      · simp only [Datum.number.injEq] at h; omega
      · split at h <;> cases h
  · have hb : f.binade = 2 ^ f.fractionBits := rfl
    have hbp : 0 < f.binade := Nat.two_pow_pos _
    rw [Nat.pow_succ, Nat.mul_comm, ← hb]
    unfold Format.read at h
    dsimp only at h
    split at h
    · simp only [Datum.number.injEq] at h; omega
    · split at h
      · simp only [Datum.number.injEq] at h
        have := Nat.mod_lt (x % f.signWeight) hbp
        omega
      · split at h <;> cases h

theorem cmp_gt_of {a b : Int} (h : b < a) : compare a b = .gt := by
  show compareOfLessAndEq a b = .gt
  unfold compareOfLessAndEq
  rw [if_neg (by omega), if_neg (by omega)]
theorem cmp_lt_of {a b : Int} (h : a < b) : compare a b = .lt := by
  show compareOfLessAndEq a b = .lt
  unfold compareOfLessAndEq
  rw [if_pos h]
theorem cmp_eq_of {a b : Int} (h : compare a b = .eq) : a = b := by
  have h' : compareOfLessAndEq a b = .eq := h
  unfold compareOfLessAndEq at h'
  split at h'
  · cases h'
  · split at h'
    · assumption
    · cases h'

theorem isNum1024 : IsNum single 1149239296 false (1024 * 2 ^ 149) := ⟨2 ^ 23, -13, by decide +kernel, by decide, by decide, by decide +kernel⟩
theorem isNum1024n : IsNum single 3296722944 true (1024 * 2 ^ 149) := ⟨2 ^ 23, -13, by decide +kernel, by decide, by decide, by decide +kernel⟩

theorem checkPart_num {x : Nat} (t1 : (single.order x x != some .eq) = false) (t2 : (single.order x 2139095039 == some .gt) = false) (t3 : (single.order x 4286578687 == some .lt) = false)
    (t4 : (single.order x 1149239296 == some .gt) = false) (t5 : (single.order x 3296722944 == some .lt) = false) : ∃ s v, IsNum single x s v ∧ v ≤ 1024 * 2 ^ 149 := by
  cases hd : single.read x with
  | nan a b =>
    exfalso
    have : single.order x x = none := by unfold Format.order; rw [hd]; rfl
    rw [this] at t1; cases t1
  | infinity s =>
    exfalso
    cases s with
    | false =>
      have hm : single.read 2139095039 = .number false 16777215 104 := by decide +kernel
      have : single.order x 2139095039 = some .gt := by unfold Format.order; rw [hd, hm]; rfl
      rw [this] at t2; cases t2
    | true =>
      have hm : single.read 4286578687 = .number true 16777215 104 := by decide +kernel
      have : single.order x 4286578687 = some .lt := by unfold Format.order; rw [hd, hm]; rfl
      rw [this] at t3; cases t3
  | number s m e =>
    have h := isNum_of_read hd
    generalize m * 2 ^ (e - single.leastPlace).toNat = v at h
    refine ⟨s, v, h, ?_⟩
    rw [h.order isNum1024] at t4
    rw [h.order isNum1024n] at t5
    generalize hc : 1024 * 2 ^ 149 = c at t4 t5 ⊢
    refine Classical.byContradiction fun hlt => ?_
    cases s with
    | false =>
      rw [cmp_gt_of (show sgn false c < sgn false v by unfold sgn; simp only [Bool.false_eq_true, if_false]; omega)] at t4
      cases t4
    | true =>
      rw [cmp_lt_of (show sgn true v < sgn true c by unfold sgn; simp only [if_true]; omega)] at t5
      cases t5

theorem checkPart_fin {x : Nat} {s : Bool} {v : Nat} (h : IsNum single x s v) (hv : v ≤ 1024 * 2 ^ 149) :
    ∃ r q, floatBits .mul .f32 1098907648 x = some r ∧ floatToIntVal .f32 r .i64 = some q ∧ ((single.order (floatOfInt .f32 q) r != some .eq) = false → Smp x q ∧ q.natAbs ≤ 16384) := by
  have hc : single.read 1098907648 = .number false (2 ^ single.fractionBits) (((4 : Nat) : Int) - single.fractionBits) := by decide +kernel
  have hmax : v * 2 ^ 4 < 2 ^ (single.fractionBits + 2 ^ single.exponentBits - 2) := by
    have h1 : v < 2 ^ 160 := Nat.lt_of_le_of_lt hv (by decide)
    exact pow_split_lt h1 (by decide)
  obtain ⟨r, _, m2, m3⟩ := h.mul_pow two32 hc hmax
  have ht := m3.toInt (by decide)
  have eL : (-single.leastPlace).toNat = 149 := by decide
  rw [eL] at ht
  have hq : v * 2 ^ 4 / 2 ^ 149 ≤ 16384 := by
    have h1 : v * 2 ^ 4 ≤ 16384 * 2 ^ 149 := by
      have := Nat.mul_le_mul_right (2 ^ 4) hv
      have e : 1024 * 2 ^ 149 * 2 ^ 4 = 16384 * 2 ^ 149 := by decide +kernel
      rw [e] at this; exact this
    have h2 := Nat.div_le_div_right (c := 2 ^ 149) h1
    rwa [Nat.mul_div_cancel _ (Nat.two_pow_pos _)] at h2
  generalize hqq : v * 2 ^ 4 / 2 ^ 149 = p at ht hq
  have hpa : (sgn s p).natAbs = p := by unfold sgn; cases s <;> simp
  refine ⟨r, sgn s p, m2, ?_, ?_⟩
  · unfold floatToIntVal
    have ht' : (FloatKind.f32.decode r).toInt .zero = some (sgn s p) := ht
    rw [ht']
    have : IntKind.i64.min ≤ sgn s p ∧ sgn s p ≤ IntKind.i64.max := by
      have e1 : IntKind.i64.min = -9223372036854775808 := by decide
      have e2 : IntKind.i64.max = 9223372036854775807 := by decide
      rw [e1, e2]; omega
    simp only [this, and_self, if_true]
  · intro hne
    have hy := isNum_ofInt (sgn s p) (by rw [hpa]; exact Nat.lt_of_le_of_lt hq (by decide))
    rw [hy.order m3, hpa] at hne
    have heq : compare (sgn (decide (sgn s p < 0)) (p * 2 ^ 149)) (sgn s (v * 2 ^ 4)) = .eq := by
      cases hcmp : compare (sgn (decide (sgn s p < 0)) (p * 2 ^ 149)) (sgn s (v * 2 ^ 4)) <;> rw [hcmp] at hne <;> first | rfl | cases hne
    have hab : p * 2 ^ 149 = v * 2 ^ 4 := by
      have e := congrArg Int.natAbs (cmp_eq_of heq)
      have n1 : ∀ (b : Bool) (n : Nat), (sgn b n).natAbs = n := fun b n => by unfold sgn; cases b <;> simp
      rwa [n1, n1] at e
    have hv2 : v = p * 2 ^ 145 := by
      have e : p * 2 ^ 149 = p * 2 ^ 145 * 2 ^ 4 := by rw [Nat.mul_assoc]
      rw [e] at hab
      exact (Nat.eq_of_mul_eq_mul_right (by decide) hab).symm
    refine ⟨⟨s, ?_, ?_, ?_⟩, by rw [hpa]; exact hq⟩
    · rw [hpa, ← hv2]; exact h
    · intro hs; unfold sgn at hs; cases s
      · simp only [Bool.false_eq_true, if_false] at hs; omega
      · rfl
    · intro hs; unfold sgn at hs; cases s
      · rfl
      · simp only [if_true] at hs; omega
end Go.Proofs.Ytfdkmmllemkogaa

/-
  Contracts of the reference's check of a map, for any map with at most 4096 samples: if it returns 0 the map is right.
-/
namespace Go.Proofs.Ytfdkmmllemkogaa
open Go.RowKit
set_option linter.unusedVariables false

theorem float1024 : floatOfInt .f32 1024 = 1149239296 := by decide +kernel
theorem sub1024 : floatBits .sub .f32 0 1149239296 = some 3296722944 := by decide +kernel

/-- What the reference's check of a number says: 0 only for a sample's word. -/
def PartPost (x : Nat) (r : Int) : Prop := r = 0 → ∃ k, Smp x k ∧ k.natAbs ≤ 16384

set_option maxHeartbeats 1600000 in
theorem checkPart_any (x : Nat) (w : World) :
    Calls Try.prog 71 #[.float .f32 x, .int .i64 1024] w fun e w' => ∃ r, e = .returned (.int .i64 r) ∧ Hid (PartPost x r) ∧ w = w' := by
  have c0 := run_ofInt 1024
  rw [float1024] at c0
  have c1 := run_sub 27 sub1024
  by_cases t1 : (FloatKind.f32.format.order x x != some .eq) = true
  · go_enter Try.func71, Try.ntmps71
    go_wp2
    go_ret
    exact ⟨1, rfl, fun h => (by cases h), rfl⟩
  have t1 := Bool.eq_false_iff.2 t1
  by_cases t2 : (FloatKind.f32.format.order x 2139095039 == some .gt) = true
  · go_enter Try.func71, Try.ntmps71
    go_wp2
    go_ret
    exact ⟨1, rfl, fun h => (by cases h), rfl⟩
  have t2 := Bool.eq_false_iff.2 t2
  by_cases t3 : (FloatKind.f32.format.order x 4286578687 == some .lt) = true
  · go_enter Try.func71, Try.ntmps71
    go_wp2
    go_ret
    exact ⟨1, rfl, fun h => (by cases h), rfl⟩
  have t3 := Bool.eq_false_iff.2 t3
  by_cases t4 : (FloatKind.f32.format.order x 1149239296 == some .gt) = true
  · go_enter Try.func71, Try.ntmps71
    go_wp2
    go_ret
    exact ⟨3, rfl, fun h => (by cases h), rfl⟩
  have t4 := Bool.eq_false_iff.2 t4
  by_cases t5 : (FloatKind.f32.format.order x 3296722944 == some .lt) = true
  · go_enter Try.func71, Try.ntmps71
    go_wp2
    go_ret
    exact ⟨3, rfl, fun h => (by cases h), rfl⟩
  have t5 := Bool.eq_false_iff.2 t5
  obtain ⟨s, v, hn, hv⟩ := checkPart_num t1 t2 t3 t4 t5
  obtain ⟨r, q, m1, m2, m3⟩ := checkPart_fin hn hv
  have c2 := run_mul 27 m1
  have c3 := run_toInt m2
  have c4 := run_ofInt q
  have M3 := Lib.hid m3
  clear hn hv m1 m2 m3
  by_cases t6 : (FloatKind.f32.format.order (floatOfInt .f32 q) r != some .eq) = true
  · go_enter Try.func71, Try.ntmps71
    go_wp2_with (go_at_call 70; refine (when_any true 3 _).mono ?_; rintro e w' ⟨rfl, rfl⟩)
    go_ret
    exact ⟨3, rfl, fun h => (by cases h), rfl⟩
  have t6 := Bool.eq_false_iff.2 t6
  have P := M3.out t6
  have HP := Lib.hid P
  clear P
  go_enter Try.func71, Try.ntmps71
  go_wp2_with (go_at_call 70; refine (when_any false 3 _).mono ?_; rintro e w' ⟨rfl, rfl⟩)
  go_ret
  exact ⟨0, rfl, fun _ => ⟨q, HP.out⟩, rfl⟩

set_option maxHeartbeats 400000 in
theorem refCheckSample_any (x : Nat) (w : World) :
    Calls Try.prog 60 #[.float .f32 x] w fun e w' => ∃ r, e = .returned (.int .i64 r) ∧ Hid (PartPost x r) ∧ w = w' := by
  go_enter Try.func60, Try.ntmps60
  go_wp2_with (go_at_call 71; refine (checkPart_any x _).mono ?_; rintro e w' ⟨r, rfl, hr, rfl⟩)
  go_ret
  exact ⟨r, rfl, hr, rfl⟩

/-- All words are samples'. -/
def AllSmp (n : Nat) (xs : List Nat) : Prop := ∀ j, j < n → ∃ k, Smp (xs[j]?.getD 0) k ∧ k.natAbs ≤ 16384

set_option maxHeartbeats 1600000 in
theorem checkSamples_any (b o n c : Nat) (xs : List Nat) (hm : n ≤ 4611686018427387904) (w : World)
    (hc : ∀ j, j < n → w.cell? ⟨b, o + j, none⟩ = some (.float .f32 (xs[j]?.getD 0))) :
    Calls Try.prog 39 #[.slice (some ⟨b, o, none⟩) n c] w fun e w' => ∃ r, e = .returned (.int .i64 r) ∧ Hid (r = 0 → AllSmp n xs) ∧ w = w' := by
  have Hc := Lib.hid hc
  clear hc
  go_enter Try.func39, Try.ntmps39
  go_wp2
  go_loop [3] (fun i => ∃ k : Nat, k ≤ n ∧ i = .int .i64 k ∧ Hid (∀ j, j < k → ∃ q, Smp (xs[j]?.getD 0) q ∧ q.natAbs ≤ 16384)) (fun i => n - (intOf i).toNat)
  case atStart => exact ⟨0, Nat.zero_le _, rfl, fun j hj => absurd hj (by omega)⟩
  case round =>
    obtain ⟨k, hk, rfl, hh⟩ := hrel
    by_cases hlt : k < n
    · have hcell := Hc.out k hlt
      go_wp2_with (go_at_call 60; refine (refCheckSample_any _ _).mono ?_; rintro e w' ⟨r, rfl, hr, rfl⟩)
      · have h0 : (r != 0) = true := by assumption
        go_ret
        exact ⟨r, rfl, fun h => (by simp [h] at h0), rfl⟩
      · have h0 : (r != 0) = false := by assumption
        have hr0 : r = 0 := by simpa using h0
        go_round
        case rel => exact ⟨k + 1, by omega, by go_num, fun j hj => by
          by_cases hjk : j < k
          · exact hh.out j hjk
          · obtain rfl : j = k := by omega
            exact hr.out hr0⟩
        case measure => simp [intOf]; omega
    · go_wp2
      go_ret
      obtain rfl : k = n := by omega
      exact ⟨0, rfl, fun _ => hh.out, rfl⟩
end Go.Proofs.Ytfdkmmllemkogaa
