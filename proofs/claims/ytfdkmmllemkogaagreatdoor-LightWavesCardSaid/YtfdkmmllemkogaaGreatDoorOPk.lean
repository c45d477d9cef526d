/-
  The reference's CheckPart up to 4096, for every word.
-/
import Derived.Test.YtfdkmmllemkogaaGreatDoorOPi
import Derived.Test.YtfdkmmllemkogaaGreatDoorOVk
namespace Go.Proofs.YtfdkmmllemkogaaGreatDoor
open Go.RowKit
open Ieee (Format single double Datum signed)
set_option linter.unusedVariables false
set_option linter.unusedSimpArgs false

theorem float4096 : floatOfInt .f32 4096 = 1166016512 := by decide +kernel
theorem sub4096 : floatBits .sub .f32 0 1166016512 = some 3313500160 := by decide +kernel
theorem isNum4096 : IsNum single 1166016512 false (4096 * 2 ^ 149) := ⟨2 ^ 23, -11, by decide +kernel, by decide, by decide, by decide +kernel⟩

theorem isNumN4096 : IsNum single 3313500160 true (4096 * 2 ^ 149) := ⟨2 ^ 23, -11, by decide +kernel, by decide, by decide, by decide +kernel⟩

theorem checkPart4_num {x : Nat} (t1 : (single.order x x != some .eq) = false) (t2 : (single.order x 2139095039 == some .gt) = false) (t3 : (single.order x 4286578687 == some .lt) = false)
    (t4 : (single.order x 1166016512 == some .gt) = false) (t5 : (single.order x 3313500160 == some .lt) = false) : ∃ s v, IsNum single x s v ∧ v ≤ 4096 * 2 ^ 149 := by
  cases hd : single.read x with
  | nan a b =>
    exfalso
    have : single.order x x = none := by unfold Format.order; rw [hd]; rfl
    rw [this] at t1; cases t1
  | infinity s =>
    exfalso
    cases s with
    | false =>
      have hm : single.read 2139095039 = .number false 16777215 104 := by decide +kernel
      have : single.order x 2139095039 = some .gt := by unfold Format.order; rw [hd, hm]; rfl
      rw [this] at t2; cases t2
    | true =>
      have hm : single.read 4286578687 = .number true 16777215 104 := by decide +kernel
      have : single.order x 4286578687 = some .lt := by unfold Format.order; rw [hd, hm]; rfl
      rw [this] at t3; cases t3
  | number s m e =>
    have h := isNum_of_read hd
    generalize m * 2 ^ (e - single.leastPlace).toNat = v at h
    refine ⟨s, v, h, ?_⟩
    rw [h.order isNum4096] at t4
    rw [h.order isNumN4096] at t5
    generalize hc : 4096 * 2 ^ 149 = c at t4 t5 ⊢
    refine Classical.byContradiction fun hlt => ?_
    cases s with
    | false =>
      rw [cmp_gt_of (show sgn false c < sgn false v by unfold sgn; simp only [Bool.false_eq_true, if_false]; omega)] at t4
      cases t4
    | true =>
      rw [cmp_lt_of (show sgn true v < sgn true c by unfold sgn; simp only [if_true]; omega)] at t5
      cases t5

theorem checkPart4_fin {x : Nat} {s : Bool} {v : Nat} (h : IsNum single x s v) (hv : v ≤ 4096 * 2 ^ 149) :
    ∃ r q, floatBits .mul .f32 1098907648 x = some r ∧ floatToIntVal .f32 r .i64 = some q ∧ ((single.order (floatOfInt .f32 q) r != some .eq) = false → Smp x q ∧ q.natAbs ≤ 65536) := by
  have hc : single.read 1098907648 = .number false (2 ^ single.fractionBits) (((4 : Nat) : Int) - single.fractionBits) := by decide +kernel
  have hmax : v * 2 ^ 4 < 2 ^ (single.fractionBits + 2 ^ single.exponentBits - 2) := by
    have h1 : v < 2 ^ 164 := Nat.lt_of_le_of_lt hv (by decide)
    exact pow_split_lt h1 (by decide)
  obtain ⟨r, _, m2, m3⟩ := h.mul_pow two32 hc hmax
  have ht := m3.toInt (by decide)
  have eL : (-single.leastPlace).toNat = 149 := by decide
  rw [eL] at ht
  have hq : v * 2 ^ 4 / 2 ^ 149 ≤ 65536 := by
    have h1 : v * 2 ^ 4 ≤ 65536 * 2 ^ 149 := by
      have := Nat.mul_le_mul_right (2 ^ 4) hv
      have e : 4096 * 2 ^ 149 * 2 ^ 4 = 65536 * 2 ^ 149 := by decide +kernel
      rw [e] at this; exact this
    have h2 := Nat.div_le_div_right (c := 2 ^ 149) h1
    rwa [Nat.mul_div_cancel _ (Nat.two_pow_pos _)] at h2
  generalize hqq : v * 2 ^ 4 / 2 ^ 149 = p at ht hq
  have hpa : (sgn s p).natAbs = p := by unfold sgn; cases s <;> simp
  refine ⟨r, sgn s p, m2, ?_, ?_⟩
  · unfold floatToIntVal
    have ht' : (FloatKind.f32.decode r).toInt .zero = some (sgn s p) := ht
    rw [ht']
    have : IntKind.i64.min ≤ sgn s p ∧ sgn s p ≤ IntKind.i64.max := by
      have e1 : IntKind.i64.min = -9223372036854775808 := by decide
      have e2 : IntKind.i64.max = 9223372036854775807 := by decide
      rw [e1, e2]; omega
    simp only [this, and_self, if_true]
  · intro hne
    have hy := isNum_ofInt (sgn s p) (by rw [hpa]; exact Nat.lt_of_le_of_lt hq (by decide))
    rw [hy.order m3, hpa] at hne
    have heq : compare (sgn (decide (sgn s p < 0)) (p * 2 ^ 149)) (sgn s (v * 2 ^ 4)) = .eq := by
      cases hcmp : compare (sgn (decide (sgn s p < 0)) (p * 2 ^ 149)) (sgn s (v * 2 ^ 4)) <;> rw [hcmp] at hne <;> first | rfl | cases hne
    have hab : p * 2 ^ 149 = v * 2 ^ 4 := by
      have e := congrArg Int.natAbs (cmp_eq_of heq)
      have n1 : ∀ (b : Bool) (n : Nat), (sgn b n).natAbs = n := fun b n => by unfold sgn; cases b <;> simp
      rwa [n1, n1] at e
    have hv2 : v = p * 2 ^ 145 := by
      have e : p * 2 ^ 149 = p * 2 ^ 145 * 2 ^ 4 := by rw [Nat.mul_assoc]
      rw [e] at hab
      exact (Nat.eq_of_mul_eq_mul_right (by decide) hab).symm
    refine ⟨⟨s, ?_, ?_, ?_⟩, by rw [hpa]; exact hq⟩
    · rw [hpa, ← hv2]; exact h
    · intro hs; unfold sgn at hs; cases s
      · simp only [Bool.false_eq_true, if_false] at hs; omega
      · rfl
    · intro hs; unfold sgn at hs; cases s
      · rfl
      · simp only [if_true] at hs; omega

/-- The error of a word as a sample: 1 for what is no number, 3 for no multiple of 1/16 up to 4096, otherwise 0. -/
def prtErr (x : Nat) : Int :=
  match single.read x with
  | .number _ m e => if m * 2 ^ (e - single.leastPlace).toNat ≤ 4096 * 2 ^ 149 ∧ m * 2 ^ (e - single.leastPlace).toNat % 2 ^ 145 = 0 then 0 else 3
  | _ => 1


theorem prtErr_num {x : Nat} {s : Bool} {v : Nat} (h : IsNum single x s v) : prtErr x = if v ≤ 4096 * 2 ^ 149 ∧ v % 2 ^ 145 = 0 then 0 else 3 := by
  obtain ⟨m, e, h1, _, _, rfl⟩ := h
  unfold prtErr
  rw [h1]

theorem prtErr_ok {x : Nat} {s : Bool} {v : Nat} (h : IsNum single x s v) (h1 : v ≤ 4096 * 2 ^ 149) (h2 : v % 2 ^ 145 = 0) : prtErr x = 0 := by
  rw [prtErr_num h, if_pos ⟨h1, h2⟩]

theorem prtErr_large {x : Nat} {s : Bool} {v : Nat} (h : IsNum single x s v) (h1 : ¬ v ≤ 4096 * 2 ^ 149) : prtErr x = 3 := by
  rw [prtErr_num h, if_neg fun hh => h1 hh.1]

theorem prtErr_fine {x : Nat} {s : Bool} {v : Nat} (h : IsNum single x s v) (h1 : ¬ v % 2 ^ 145 = 0) : prtErr x = 3 := by
  rw [prtErr_num h, if_neg fun hh => h1 hh.2]

theorem prtErr_nan {x : Nat} {a : Bool} {b : Nat} (h : single.read x = .nan a b) : prtErr x = 1 := by unfold prtErr; rw [h]

theorem prtErr_inf {x : Nat} {s : Bool} (h : single.read x = .infinity s) : prtErr x = 1 := by unfold prtErr; rw [h]

theorem prtErr_zero {x : Nat} (h : prtErr x = 0) : ∃ k, Smp x k ∧ k.natAbs ≤ 65536 := by
  rcases smp_class x with ⟨a, b, hd⟩ | ⟨s, hd⟩ | ⟨s, v, hn, _⟩
  · rw [prtErr_nan hd] at h; cases h
  · rw [prtErr_inf hd] at h; cases h
  · rw [prtErr_num hn] at h
    split at h
    · rename_i hh
      obtain ⟨h1, h2⟩ := hh
      have e : v = v / 2 ^ 145 * 2 ^ 145 := by
        have := Nat.div_add_mod v (2 ^ 145)
        rw [h2, Nat.add_zero, Nat.mul_comm] at this; exact this.symm
      have hq : v / 2 ^ 145 ≤ 65536 := by
        have := Nat.div_le_div_right (c := 2 ^ 145) h1
        have e2 : 4096 * 2 ^ 149 = 65536 * 2 ^ 145 := by decide +kernel
        rwa [e2, Nat.mul_div_cancel _ (Nat.two_pow_pos _)] at this
      generalize v / 2 ^ 145 = p at e hq
      have hpa : (sgn s p).natAbs = p := by unfold sgn; cases s <;> simp
      refine ⟨sgn s p, ⟨s, ?_, ?_, ?_⟩, by rw [hpa]; exact hq⟩
      · rw [hpa, ← e]; exact hn
      · intro hs; unfold sgn at hs; cases s
        · simp only [Bool.false_eq_true, if_false] at hs; omega
        · rfl
      · intro hs; unfold sgn at hs; cases s
        · rfl
        · simp only [if_true] at hs; omega
    · cases h

theorem prt_t1 {x : Nat} (t1 : (single.order x x != some .eq) = true) : prtErr x = 1 := by
  rcases smp_class x with ⟨a, b, hd⟩ | ⟨s, hd⟩ | ⟨s, v, hn, _⟩
  · exact prtErr_nan hd
  · exact prtErr_inf hd
  · rw [hn.self] at t1; cases t1

theorem prt_t2 {x : Nat} (t2 : (single.order x 2139095039 == some .gt) = true) : prtErr x = 1 := by
  rcases smp_class x with ⟨a, b, hd⟩ | ⟨s, hd⟩ | ⟨s, v, hn, hv⟩
  · exact prtErr_nan hd
  · exact prtErr_inf hd
  · rw [hn.gt_false max32p (sgn_le_pos hv)] at t2; cases t2

theorem prt_t3 {x : Nat} (t3 : (single.order x 4286578687 == some .lt) = true) : prtErr x = 1 := by
  rcases smp_class x with ⟨a, b, hd⟩ | ⟨s, hd⟩ | ⟨s, v, hn, hv⟩
  · exact prtErr_nan hd
  · exact prtErr_inf hd
  · rw [hn.lt_false max32n (sgn_ge_neg hv)] at t3; cases t3

theorem prt_t4 {x : Nat} (t1 : (single.order x x != some .eq) = false) (t2 : (single.order x 2139095039 == some .gt) = false) (t3 : (single.order x 4286578687 == some .lt) = false)
    (t4 : (single.order x 1166016512 == some .gt) = true) : prtErr x = 3 := by
  obtain ⟨s, v, hn⟩ := smp_num t1 t2 t3
  refine prtErr_large hn fun hv => ?_
  rw [hn.gt_false isNum4096 (sgn_le_pos hv)] at t4; cases t4

theorem prt_t5 {x : Nat} (t1 : (single.order x x != some .eq) = false) (t2 : (single.order x 2139095039 == some .gt) = false) (t3 : (single.order x 4286578687 == some .lt) = false)
    (t5 : (single.order x 3313500160 == some .lt) = true) : prtErr x = 3 := by
  obtain ⟨s, v, hn⟩ := smp_num t1 t2 t3
  refine prtErr_large hn fun hv => ?_
  rw [hn.lt_false isNumN4096 (sgn_ge_neg hv)] at t5; cases t5

theorem checkPart4_exact {x : Nat} {s : Bool} {v : Nat} (h : IsNum single x s v) (hv : v ≤ 4096 * 2 ^ 149) :
    ∃ r q, floatBits .mul .f32 1098907648 x = some r ∧ floatToIntVal .f32 r .i64 = some q ∧ ((single.order (floatOfInt .f32 q) r != some .eq) = false → prtErr x = 0) ∧ ((single.order (floatOfInt .f32 q) r != some .eq) = true → prtErr x = 3) := by
  obtain ⟨r, q, h1, h2, h3⟩ := checkPart4_fin h hv
  refine ⟨r, q, h1, h2, fun hh => ?_, fun hh => prtErr_fine h fun hm => ?_⟩
  · obtain ⟨⟨t, hn, _, _⟩, _⟩ := h3 hh
    have e : q.natAbs * 2 ^ 145 % 2 ^ 145 = 0 := Nat.mul_mod_left _ _
    rw [prtErr_num hn]
    refine if_pos ⟨?_, e⟩
    have hq : q.natAbs ≤ 65536 := (h3 hh).2
    have := Nat.mul_le_mul_right (2 ^ 145) hq
    have e2 : 4096 * 2 ^ 149 = 65536 * 2 ^ 145 := by decide +kernel
    rw [e2]; exact this
  · have e : v = v / 2 ^ 145 * 2 ^ 145 := by
      have := Nat.div_add_mod v (2 ^ 145)
      rw [hm, Nat.add_zero, Nat.mul_comm] at this; exact this.symm
    have hq : v / 2 ^ 145 ≤ 65536 := by
      have := Nat.div_le_div_right (c := 2 ^ 145) hv
      have e2 : 4096 * 2 ^ 149 = 65536 * 2 ^ 145 := by decide +kernel
      rwa [e2, Nat.mul_div_cancel _ (Nat.two_pow_pos _)] at this
    generalize hp : v / 2 ^ 145 = p at e hq
    have hpa : (sgn s p).natAbs = p := by unfold sgn; cases s <;> simp
    have hc : single.read 1098907648 = .number false (2 ^ single.fractionBits) (((4 : Nat) : Int) - single.fractionBits) := by decide +kernel
    have hmax : v * 2 ^ 4 < 2 ^ (single.fractionBits + 2 ^ single.exponentBits - 2) := by
      have h1 : v < 2 ^ 164 := Nat.lt_of_le_of_lt hv (by decide)
      exact pow_split_lt h1 (by decide)
    obtain ⟨r', _, m2, m3⟩ := h.mul_pow two32 hc hmax
    have er : r = r' := by
      have := h1.symm.trans (show floatBits .mul .f32 1098907648 x = some r' from m2)
      simpa using this
    subst er
    have ht := m3.toInt (by decide)
    have eL : (-single.leastPlace).toNat = 149 := by decide
    have ev : v * 2 ^ 4 = p * 2 ^ 149 := by rw [e, Nat.mul_assoc]
    rw [eL, ev, Nat.mul_div_cancel _ (Nat.two_pow_pos _)] at ht
    have eq : q = sgn s p := by
      unfold floatToIntVal at h2
      have ht' : (FloatKind.f32.decode r).toInt .zero = some (sgn s p) := ht
      rw [ht'] at h2
      have : IntKind.i64.min ≤ sgn s p ∧ sgn s p ≤ IntKind.i64.max := by
        have e1 : IntKind.i64.min = -9223372036854775808 := by decide
        have e2 : IntKind.i64.max = 9223372036854775807 := by decide
        rw [e1, e2]; omega
      simp only [this, and_self, if_true, Option.some.injEq] at h2
      exact h2.symm
    have hy := isNum_ofInt (sgn s p) (by rw [hpa]; exact Nat.lt_of_le_of_lt hq (by decide))
    rw [eq, hy.order m3, hpa, ev] at hh
    have hs : sgn (decide (sgn s p < 0)) (p * 2 ^ 149) = sgn s (p * 2 ^ 149) := by
      cases s with
      | false =>
        have : decide (sgn false p < 0) = false := by unfold sgn; simp
        rw [this]
      | true =>
        by_cases hp0 : p = 0
        · subst hp0; rw [Nat.zero_mul]; decide
        · have : decide (sgn true p < 0) = true := by unfold sgn; simp; omega
          rw [this]
    rw [hs, compare_self] at hh
    cases hh

set_option maxHeartbeats 1600000 in
theorem checkPart4_all (x : Nat) (w : World) :
    Calls Tryz.prog 119 #[.float .f32 x, .int .i64 4096] w fun e w' => e = .returned (.int .i64 (prtErr x)) ∧ w = w' := by
  have c0 := run_ofInt 4096
  rw [float4096] at c0
  have c1 := run_sub 23 sub4096
  by_cases t1 : (FloatKind.f32.format.order x x != some .eq) = true
  · rw [prt_t1 t1]
    go_enter Tryz.func119, Tryz.ntmps119
    go_wp2
    go_ret
    exact ⟨rfl, rfl⟩
  have t1 := Bool.eq_false_iff.2 t1
  by_cases t2 : (FloatKind.f32.format.order x 2139095039 == some .gt) = true
  · rw [prt_t2 t2]
    go_enter Tryz.func119, Tryz.ntmps119
    go_wp2
    go_ret
    exact ⟨rfl, rfl⟩
  have t2 := Bool.eq_false_iff.2 t2
  by_cases t3 : (FloatKind.f32.format.order x 4286578687 == some .lt) = true
  · rw [prt_t3 t3]
    go_enter Tryz.func119, Tryz.ntmps119
    go_wp2
    go_ret
    exact ⟨rfl, rfl⟩
  have t3 := Bool.eq_false_iff.2 t3
  by_cases t4 : (FloatKind.f32.format.order x 1166016512 == some .gt) = true
  · rw [prt_t4 t1 t2 t3 t4]
    go_enter Tryz.func119, Tryz.ntmps119
    go_wp2
    go_ret
    exact ⟨rfl, rfl⟩
  have t4 := Bool.eq_false_iff.2 t4
  by_cases t5 : (FloatKind.f32.format.order x 3313500160 == some .lt) = true
  · rw [prt_t5 t1 t2 t3 t5]
    go_enter Tryz.func119, Tryz.ntmps119
    go_wp2
    go_ret
    exact ⟨rfl, rfl⟩
  have t5 := Bool.eq_false_iff.2 t5
  obtain ⟨s, v, hn, hv⟩ := checkPart4_num t1 t2 t3 t4 t5
  obtain ⟨r, q, m1, m2, m3, m4⟩ := checkPart4_exact hn hv
  have c2 := run_mul 23 m1
  have c3 := run_toInt m2
  have c4 := run_ofInt q
  clear hn hv m1 m2
  by_cases t6 : (FloatKind.f32.format.order (floatOfInt .f32 q) r != some .eq) = true
  · rw [m4 t6]
    clear m3 m4
    go_enter Tryz.func119, Tryz.ntmps119
    go_wp2_with (go_at_call 42; refine (when_any true 3 _).mono ?_; rintro e w' ⟨rfl, rfl⟩)
    go_ret
    exact ⟨rfl, rfl⟩
  have t6 := Bool.eq_false_iff.2 t6
  rw [m3 t6]
  clear m3 m4
  go_enter Tryz.func119, Tryz.ntmps119
  go_wp2_with (go_at_call 42; refine (when_any false 3 _).mono ?_; rintro e w' ⟨rfl, rfl⟩)
  go_ret
  exact ⟨rfl, rfl⟩


end Go.Proofs.YtfdkmmllemkogaaGreatDoor

/-
  The reference's CheckPanel for every panel: the same error as the program's.
-/
namespace Go.Proofs.YtfdkmmllemkogaaGreatDoor
open Go.RowKit
open Ieee (Format single double Datum signed)
set_option linter.unusedVariables false
set_option linter.unusedSimpArgs false

theorem prtErr_cases (x : Nat) : prtErr x = 0 ∨ prtErr x = 1 ∨ prtErr x = 3 := by
  rcases smp_class x with ⟨a, b, hd⟩ | ⟨s, hd⟩ | ⟨s, v, hn, _⟩
  · exact .inr (.inl (prtErr_nan hd))
  · exact .inr (.inl (prtErr_inf hd))
  · rw [prtErr_num hn]
    split
    · exact .inl rfl
    · exact .inr (.inr rfl)
theorem finB_prt (x : Nat) : finB x = true ↔ prtErr x ≠ 1 := by
  rcases smp_class x with ⟨a, b, hd⟩ | ⟨s, hd⟩ | ⟨s, v, hn, _⟩
  · rw [prtErr_nan hd]; unfold finB; rw [hd]; simp
  · rw [prtErr_inf hd]; unfold finB; rw [hd]; simp
  · rw [finB_num hn, prtErr_num hn]
    split <;> simp
theorem mulB_prt {x : Nat} (h : finB x = true) : mulB x = true ↔ prtErr x = 0 := by
  rcases smp_class x with ⟨a, b, hd⟩ | ⟨s, hd⟩ | ⟨s, v, hn, _⟩
  · unfold finB at h; rw [hd] at h; cases h
  · unfold finB at h; rw [hd] at h; cases h
  · rw [mulB_num hn, prtErr_num hn, decide_eq_true_iff]
    constructor
    · intro hh; rw [if_pos hh]
    · intro hh
      refine Classical.byContradiction fun hn' => ?_
      rw [if_neg hn'] at hh
      cases hh
/-- The error of a number of a panel, by those of its parts. -/
theorem numErr_prt (x y : Nat) : numErr x y = if prtErr x = 1 ∨ prtErr y = 1 then 1 else if prtErr x = 0 ∧ prtErr y = 0 then 0 else 3 := by
  unfold numErr
  by_cases h : prtErr x = 1 ∨ prtErr y = 1
  · rw [if_pos h, if_neg]
    rintro ⟨h1, h2⟩
    rcases h with h | h
    · exact (finB_prt x).1 h1 h
    · exact (finB_prt y).1 h2 h
  · have h1 : finB x = true := (finB_prt x).2 fun hh => h (.inl hh)
    have h2 : finB y = true := (finB_prt y).2 fun hh => h (.inr hh)
    rw [if_neg h, if_pos ⟨h1, h2⟩]
    simp only [mulB_prt h1, mulB_prt h2]
theorem numErr_zero {x y : Nat} (h : numErr x y = 0) : ∃ k l, Smp x k ∧ Smp y l ∧ k.natAbs ≤ 65536 ∧ l.natAbs ≤ 65536 := by
  rw [numErr_prt] at h
  split at h
  · cases h
  · split at h
    · rename_i hh
      obtain ⟨k, h1, h2⟩ := prtErr_zero hh.1
      obtain ⟨l, h3, h4⟩ := prtErr_zero hh.2
      exact ⟨k, l, h1, h3, h2, h4⟩
    · cases h

set_option maxRecDepth 1000000 in
set_option maxHeartbeats 12800000 in
theorem refCheckPanel_any (x0 y0 x1 y1 x2 y2 x3 y3 : Nat) (w : World) :
    Calls Tryz.prog 71 #[.agg #[.complex .f32 x0 y0, .complex .f32 x1 y1, .complex .f32 x2 y2, .complex .f32 x3 y3]] w fun e w' =>
      e = .returned (.int .i64 (firstNZ (([(x0, y0), (x1, y1), (x2, y2), (x3, y3)] : List (Nat × Nat)).map (fun z => numErr z.1 z.2)))) ∧ Below w.heap.size w w' := by
  obtain ⟨zs, hzs⟩ : ∃ zs : List (Nat × Nat), zs = [(x0, y0), (x1, y1), (x2, y2), (x3, y3)] := ⟨_, rfl⟩
  rw [← hzs]
  have hlen : (zs.map (fun z => numErr z.1 z.2)).length = 4 := by rw [hzs]; rfl
  have hcell : ∀ k, k < 4 → (#[.complex .f32 x0 y0, .complex .f32 x1 y1, .complex .f32 x2 y2, .complex .f32 x3 y3] : Array Value)[k]? = some (.complex .f32 (zs[k]?.getD (0, 0)).1 (zs[k]?.getD (0, 0)).2) := fun k hk => by
    rw [hzs]
    match k, hk with
    | 0, _ => rfl
    | 1, _ => rfl
    | 2, _ => rfl
    | 3, _ => rfl
  have hat : ∀ k, k < 4 → (zs.map (fun z => numErr z.1 z.2)).getD k 0 = numErr (zs[k]?.getD (0, 0)).1 (zs[k]?.getD (0, 0)).2 := fun k hk => by
    have : k < zs.length := by rw [hzs]; exact hk
    simp [this]
  obtain ⟨W0, hW0⟩ : ∃ W0, w.alloc (.cells #[.complex .f32 x0 y0, .complex .f32 x1 y1, .complex .f32 x2 y2, .complex .f32 x3 y3] 95) = W0 := ⟨_, rfl⟩
  have hB0 : Below w.heap.size w W0 := by rw [← hW0]; exact (Below.refl _ w).alloc (Nat.le_refl _) _
  have bX : W0.heap[w.heap.size]? = some (.cells #[.complex .f32 x0 y0, .complex .f32 x1 y1, .complex .f32 x2 y2, .complex .f32 x3 y3] 95 (0, 0)) := by rw [← hW0]; exact blk_alloc_new _ _
  have HB0 := Lib.hid hB0
  have HX0 := Lib.hid bX
  have HL := Lib.hid hlen
  have HC := Lib.hid hcell
  have HA := Lib.hid hat
  clear hB0 bX hlen hcell hat hzs
  go_enter Tryz.func71, Tryz.ntmps71
  go_upto_region 1 with fail
  try rw [hW0]
  clear hW0
  go_wp2_with fail
  go_loopw [3] (fun s3 wq => ∃ k : Nat, k ≤ 4 ∧ s3 = .int .i64 k ∧ (∀ j, j < k → (zs.map (fun z => numErr z.1 z.2)).getD j 0 = 0) ∧ wq.heap[w.heap.size]? = some (.cells #[.complex .f32 x0 y0, .complex .f32 x1 y1, .complex .f32 x2 y2, .complex .f32 x3 y3] 95 (0, 0)) ∧ Below w.heap.size w wq) (fun i _ => 4 - (intOf i).toNat)
  case atStart => exact ⟨0, by omega, rfl, fun j hj => by omega, HX0.out, HB0.out⟩
  case round =>
    obtain ⟨k, hk, rfl, hz, hx, hbr⟩ := hrel
    have HZ := Lib.hid hz
    have HX1 := Lib.hid hx
    have HBR := Lib.hid hbr
    by_cases hlt : k < 4
    · have hltI : (k : Int) < 4 := by omega
      have hce := HC.out k hlt
      have hae := HA.out k hlt
      obtain ⟨x, hxv⟩ : ∃ x, (zs[k]?.getD (0, 0)).1 = x := ⟨_, rfl⟩
      obtain ⟨y, hyv⟩ : ∃ y, (zs[k]?.getD (0, 0)).2 = y := ⟨_, rfl⟩
      rw [hxv, hyv] at hce hae
      rw [numErr_prt] at hae
      have g0 : wr.cell? ⟨w.heap.size, k, none⟩ = some (.complex .f32 x y) := by
        rw [cell_of_row _ _ k _ _ (0, 0) hx]
        exact hce
      have KX := Lib.hid (fun w1 => checkPart4_all x w1)
      have KY := Lib.hid (fun w1 => checkPart4_all y w1)
      have hcx := prtErr_cases x
      have hcy := prtErr_cases y
      obtain ⟨a, ha⟩ : ∃ a, prtErr x = a := ⟨_, rfl⟩
      obtain ⟨b, hb⟩ : ∃ b, prtErr y = b := ⟨_, rfl⟩
      rw [ha] at hae hcx KX
      rw [hb] at hae hcy KY
      have hend : ∀ q : Int, q ≠ 0 → (zs.map (fun z => numErr z.1 z.2)).getD k 0 = q → firstNZ (zs.map (fun z => numErr z.1 z.2)) = q := fun q h0 h1 => by
        rw [← h1]
        exact firstNZ_at (by rw [HL.out]; exact hlt) HZ.out (by rw [h1]; exact h0)
      have HEND := Lib.hid hend
      clear hz hx hbr hce hxv hyv ha hb hend
      rcases hcx with rfl | rfl | rfl <;> rcases hcy with rfl | rfl | rfl
      all_goals
        have HAE := Lib.hid hae
        clear hae
        go_upto_region 4 with fail
        go_region_held3 (fun w' => w'.cell? ⟨w.heap.size, k, none⟩ = some (.complex .f32 x y))
          (first | (go_keep; done) | (with_reducible assumption))
          (first
            | (go_at_call_of 119 (Value.float .f32 x); refine (KX.out _).mono ?_; rintro e w6 ⟨rfl, rfl⟩)
            | (go_at_call_of 119 (Value.float .f32 y); refine (KY.out _).mono ?_; rintro e w7 ⟨rfl, rfl⟩))
        all_goals
          go_wp2_with fail
          first
            | (go_roundw
               case rel => exact ⟨k + 1, by omega, by go_num, fun j hj => (by
                 by_cases hjk : j < k
                 · exact HZ.out j hjk
                 · obtain rfl : j = k := by omega
                   rw [HAE.out]; decide), HX1.out, HBR.out.drew⟩
               case measure => simp [intOf]; omega)
            | (go_ret
               exact ⟨by rw [HEND.out 1 (by decide) (by rw [HAE.out]; decide)]; rfl, HBR.out.drew⟩)
            | (go_ret
               exact ⟨by rw [HEND.out 3 (by decide) (by rw [HAE.out]; decide)]; rfl, HBR.out.drew⟩)
    · obtain rfl : k = 4 := by omega
      have hfin : firstNZ (zs.map (fun z => numErr z.1 z.2)) = 0 := firstNZ_end fun j hj => hz j (by rw [HL.out] at hj; exact hj)
      clear hz hx hbr
      go_wp2_with fail
      go_ret
      exact ⟨by rw [hfin]; rfl, HBR.out⟩
end Go.Proofs.YtfdkmmllemkogaaGreatDoor
