/-
  Contracts of the check of a sample, of the program and of the reference, for every word: both answer smpErr.
-/
import Derived.Test.YtfpagmalblmnkaaGreatDoorGWg
import Derived.Test.YtfpagmalblmnkaaGreatDoorGRe
namespace Go.Proofs.YtfpagmalblmnkaaGreatDoor
open Go.RowKit
set_option linter.unusedVariables false

set_option maxHeartbeats 1600000 in
theorem checkPart_all (x : Nat) (w : World) :
    Calls Tryz.prog 48 #[.float .f32 x, .int .i64 1024] w fun e w' => e = .returned (.int .i64 (smpErr x)) ∧ w = w' := by
  have c0 := run_ofInt 1024
  rw [float1024] at c0
  have c1 := run_sub 22 sub1024
  by_cases t1 : (FloatKind.f32.format.order x x != some .eq) = true
  · rw [smp_t1 t1]
    go_enter Tryz.func48, Tryz.ntmps48
    go_wp2
    go_ret
    exact ⟨rfl, rfl⟩
  have t1 := Bool.eq_false_iff.2 t1
  by_cases t2 : (FloatKind.f32.format.order x 2139095039 == some .gt) = true
  · rw [smp_t2 t2]
    go_enter Tryz.func48, Tryz.ntmps48
    go_wp2
    go_ret
    exact ⟨rfl, rfl⟩
  have t2 := Bool.eq_false_iff.2 t2
  by_cases t3 : (FloatKind.f32.format.order x 4286578687 == some .lt) = true
  · rw [smp_t3 t3]
    go_enter Tryz.func48, Tryz.ntmps48
    go_wp2
    go_ret
    exact ⟨rfl, rfl⟩
  have t3 := Bool.eq_false_iff.2 t3
  by_cases t4 : (FloatKind.f32.format.order x 1149239296 == some .gt) = true
  · rw [smp_t4 t1 t2 t3 t4]
    go_enter Tryz.func48, Tryz.ntmps48
    go_wp2
    go_ret
    exact ⟨rfl, rfl⟩
  have t4 := Bool.eq_false_iff.2 t4
  by_cases t5 : (FloatKind.f32.format.order x 3296722944 == some .lt) = true
  · rw [smp_t5 t1 t2 t3 t5]
    go_enter Tryz.func48, Tryz.ntmps48
    go_wp2
    go_ret
    exact ⟨rfl, rfl⟩
  have t5 := Bool.eq_false_iff.2 t5
  obtain ⟨s, v, hn, hv⟩ := checkPart_num t1 t2 t3 t4 t5
  obtain ⟨r, q, m1, m2, m3, m4⟩ := checkPart_exact hn hv
  have c2 := run_mul 22 m1
  have c3 := run_toInt m2
  have c4 := run_ofInt q
  clear hn hv m1 m2
  by_cases t6 : (FloatKind.f32.format.order (floatOfInt .f32 q) r != some .eq) = true
  · rw [m4 t6]
    clear m3 m4
    go_enter Tryz.func48, Tryz.ntmps48
    go_wp2_with (go_at_call 115; refine (when_any true 3 _).mono ?_; rintro e w' ⟨rfl, rfl⟩)
    go_ret
    exact ⟨rfl, rfl⟩
  have t6 := Bool.eq_false_iff.2 t6
  rw [m3 t6]
  clear m3 m4
  go_enter Tryz.func48, Tryz.ntmps48
  go_wp2_with (go_at_call 115; refine (when_any false 3 _).mono ?_; rintro e w' ⟨rfl, rfl⟩)
  go_ret
  exact ⟨rfl, rfl⟩

set_option maxHeartbeats 400000 in
theorem refCheckSample_all (x : Nat) (w : World) :
    Calls Tryz.prog 47 #[.float .f32 x] w fun e w' => e = .returned (.int .i64 (smpErr x)) ∧ w = w' := by
  go_enter Tryz.func47, Tryz.ntmps47
  go_wp2_with (go_at_call 48; refine (checkPart_all x _).mono ?_; rintro e w' ⟨rfl, rfl⟩)
  go_ret
  exact ⟨rfl, rfl⟩

/-! ### The program's -/

/-- What is no number is converted to some such word of float64. -/
theorem run_nan64 {x : Nat} {a : Bool} {b : Nat} (h : Ieee.single.read x = .nan a b) (w : World) :
    ∃ d, (convert 22 191 (.float .f32 x)).run Tryz.prog w = .ok (.float .f64 d) w.drew ∧ ∃ a b, Ieee.double.read d = .nan a b := by
  have hs : Tryz.prog.underlying 22 = some (.float .f32) := Tryz.underlying22
  have hd : Tryz.prog.underlying 191 = some (.float .f64) := Tryz.underlying191
  have hx : FloatKind.f32.decode x = .nan a b := h
  refine ⟨(Question.nanConv .f64 x).cut (w.tape w.drawn (.nanConv .f64 x)), ?_, ?_⟩
  · simp [convert, run_underlying hs, run_underlying hd, Conv.floatToFloat, hx, Question.forced]
  · generalize w.tape w.drawn (.nanConv .f64 x) = t
    show ∃ a b, Ieee.double.read ((t % 2) * 2 ^ 63 + 0x7ff0000000000000 + 1 + (t / 2) % (2 ^ 52 - 1)) = .nan a b
    have e1 : Ieee.double.signWeight = 9223372036854775808 := by decide +kernel
    have e2 : Ieee.double.infRung = 9218868437227405312 := by decide +kernel
    unfold Ieee.Format.read
    have e3 : Ieee.double.binade = 4503599627370496 := by decide +kernel
    simp only [e1, e2, e3]
    have h1 := Nat.mod_lt (t / 2) (show 0 < 2 ^ 52 - 1 by decide)
    have h2 := Nat.mod_lt t (show 0 < 2 by decide)
    generalize t / 2 % (2 ^ 52 - 1) = p at h1
    generalize t % 2 = q at h2
    have h3 : (q * 2 ^ 63 + 9218868437227405312 + 1 + p) % 9223372036854775808 = 9218868437227405312 + 1 + p := by omega
    rw [h3, if_neg (by omega), if_neg (by omega), if_neg (by omega)]
    exact ⟨_, _, rfl⟩

theorem run_inf64 {x : Nat} {s : Bool} (h : Ieee.single.read x = .infinity s) :
    ∃ d, (∀ w : World, (convert 22 191 (.float .f32 x)).run Tryz.prog w = .ok (.float .f64 d) w) ∧ d < 18446744073709551616 ∧ Ieee.double.order d d = some .eq ∧
      (Ieee.double.order (d % 9223372036854775808) 9218868437227405311 == some .gt) = true := by
  have hx : FloatKind.f32.decode x = .infinity s := h
  have hf : floatToFloatBits .f32 x .f64 = some (FloatKind.f64.encode (.infinity s)) := by
    unfold floatToFloatBits
    have hne : ¬ FloatKind.f32 = FloatKind.f64 := by decide
    simp only [hne, if_false, hx]
  refine ⟨_, run_to64 hf, ?_, ?_, ?_⟩ <;> cases s <;> decide +kernel

set_option maxHeartbeats 1000000 in
theorem isNaN_nan (d : Nat) (h : ∃ a b, Ieee.double.read d = .nan a b) (w : World) :
    Calls Tryz.prog 153 #[.float .f64 d] w fun e w' => e = .returned (.bool true) ∧ w = w' := by
  have h1 : FloatKind.f64.format.order d d = none := by
    obtain ⟨a, b, h⟩ := h
    show Ieee.double.order d d = none
    unfold Ieee.Format.order; rw [h]; rfl
  clear h
  go_enter Tryz.func153, Tryz.ntmps153
  go_wp2
  go_ret
  exact ⟨rfl, rfl⟩

set_option maxHeartbeats 1000000 in
theorem isNaN_no (d : Nat) (h : Ieee.double.order d d = some .eq) (w : World) :
    Calls Tryz.prog 153 #[.float .f64 d] w fun e w' => e = .returned (.bool false) ∧ w = w' := by
  have h1 : FloatKind.f64.format.order d d = some .eq := h
  clear h
  go_enter Tryz.func153, Tryz.ntmps153
  go_wp2
  go_ret
  exact ⟨rfl, rfl⟩

set_option maxHeartbeats 800000 in
theorem isInf_yes (d : Nat) (hd : d < 18446744073709551616) (h : (Ieee.double.order (d % 9223372036854775808) 9218868437227405311 == some .gt) = true) (w : World) :
    Calls Tryz.prog 154 #[.float .f64 d, .int .i64 0] w fun e w' => e = .returned (.bool true) ∧ w = w' := by
  have h1 : (FloatKind.f64.format.order (d % 9223372036854775808) 9218868437227405311 == some .gt) = true := h
  clear h
  go_enter Tryz.func154, Tryz.ntmps154
  go_wp2_with (go_at_call 156; refine (abs_any d hd _).mono ?_; rintro e w' ⟨rfl, rfl⟩)
  go_ret
  exact ⟨rfl, rfl⟩

set_option maxHeartbeats 1000000 in
theorem isFinite_nan {x : Nat} {a : Bool} {b : Nat} (h : Ieee.single.read x = .nan a b) (w : World) :
    Calls Tryz.prog 113 #[.float .f32 x] w fun e w' => e = .returned (.bool false) ∧ w' = w.drew := by
  obtain ⟨d, c1, hd⟩ := run_nan64 h w
  have K1 := Lib.hid (isNaN_nan d hd)
  clear h hd
  go_enter Tryz.func113, Tryz.ntmps113
  go_wp2_with (go_at_call 153; refine (K1.out _).mono ?_; rintro e w' ⟨rfl, rfl⟩)
  go_ret
  exact ⟨rfl, rfl⟩

set_option maxHeartbeats 1000000 in
theorem isFinite_inf {x : Nat} {s : Bool} (h : Ieee.single.read x = .infinity s) (w : World) :
    Calls Tryz.prog 113 #[.float .f32 x] w fun e w' => e = .returned (.bool false) ∧ w' = w := by
  obtain ⟨d, c1, hd, h1, h2⟩ := run_inf64 h
  have K1 := Lib.hid (isNaN_no d h1)
  have K2 := Lib.hid (isInf_yes d hd h2)
  clear h hd h1 h2
  go_enter Tryz.func113, Tryz.ntmps113
  go_wp2_with (first | (go_at_call 153; refine (K1.out _).mono ?_; rintro e w' ⟨rfl, rfl⟩) | (go_at_call 154; refine (K2.out _).mono ?_; rintro e w' ⟨rfl, rfl⟩))
  go_ret
  exact ⟨rfl, rfl⟩

set_option maxHeartbeats 1000000 in
theorem isFinite_num {x : Nat} {s : Bool} {v : Nat} (hx : x < 2 ^ 32) (h : IsNum Ieee.single x s v) (hv : v ≤ 16777215 * 2 ^ 253) (w : World) :
    Calls Tryz.prog 113 #[.float .f32 x] w fun e w' => e = .returned (.bool true) ∧ w' = w := by
  have hv2 : v < 2 ^ 277 := Nat.lt_of_le_of_lt hv (by decide +kernel)
  obtain ⟨d, h1, h2⟩ := toF64 277 h hv2 (by omega)
  have hd := isNum_lt (s := s) (v := 0) h1 hx
  have hb : v * 2 ^ 925 ≤ (2 ^ 53 - 1) * 2 ^ 2045 := by
    generalize hu : (925 : Nat) = u
    exact max64_ge (pow_split hv2) (by omega)
  have c1 := run_to64 h1
  have K1 := Lib.hid (isNaN_any d s _ h2)
  have K2 := Lib.hid (isInf_any d s _ h2 hd hb)
  clear h h1 h2 hd hv hx hb hv2
  go_enter Tryz.func113, Tryz.ntmps113
  go_wp2_with (first | (go_at_call 153; refine (K1.out _).mono ?_; rintro e w' ⟨rfl, rfl⟩) | (go_at_call 154; refine (K2.out _).mono ?_; rintro e w' ⟨rfl, rfl⟩))
  go_ret
  exact ⟨rfl, rfl⟩

set_option maxHeartbeats 1000000 in
theorem isMultiple_num {x : Nat} {s : Bool} {v : Nat} (h : IsNum Ieee.single x s v) (hv : v ≤ 16777215 * 2 ^ 253) (w : World) :
    Calls Tryz.prog 114 #[.float .f32 x, .float .f64 4652218415073722368] w fun e w' => e = .returned (.bool (decide (v ≤ 1024 * 2 ^ 149 ∧ v % 2 ^ 145 = 0))) ∧ w' = w := by
  obtain ⟨d, n, t, h1, h2, n1, t1, t2, q1, q2⟩ := multiple_words h hv
  have hn := floatBits_lt n1
  have c1 := run_to64 h1
  have c2 := run_mul 191 n1
  have c3 := run_trunc t1 t2
  have hm : floatBits .mul .f64 4652218415073722368 4625196817309499392 = some 4670232813583204352 := by decide +kernel
  have c5 := run_mul 191 hm
  have K1 := Lib.hid (trunc_any n t c3)
  have K2 := Lib.hid (abs_any n hn)
  clear h h1 h2 n1 t1 t2 hm hn c3 hv
  by_cases f1 : v % 2 ^ 145 = 0
  · rw [decide_eq_true f1] at q1
    by_cases f2 : v ≤ 1024 * 2 ^ 149
    · rw [decide_eq_true f2] at q2
      rw [decide_eq_true (show v ≤ 1024 * 2 ^ 149 ∧ v % 2 ^ 145 = 0 from ⟨f2, f1⟩)]
      have c4 : (FloatKind.f64.format.order n t == some .eq) = true := q1
      have c6 : (FloatKind.f64.format.order (n % 9223372036854775808) 4670232813583204352 == some .lt || FloatKind.f64.format.order (n % 9223372036854775808) 4670232813583204352 == some .eq) = true := q2
      clear f1 f2 q1 q2
      go_enter Tryz.func114, Tryz.ntmps114
      go_wp2_with (first | (go_at_call 155; refine (K1.out _).mono ?_; rintro e w' ⟨rfl, rfl⟩) | (go_at_call 156; refine (K2.out _).mono ?_; rintro e w' ⟨rfl, rfl⟩))
      go_ret
      exact ⟨rfl, rfl⟩
    · rw [decide_eq_false f2] at q2
      rw [decide_eq_false (show ¬ (v ≤ 1024 * 2 ^ 149 ∧ v % 2 ^ 145 = 0) from fun hh => f2 hh.1)]
      have c4 : (FloatKind.f64.format.order n t == some .eq) = true := q1
      have c6 : (FloatKind.f64.format.order (n % 9223372036854775808) 4670232813583204352 == some .lt || FloatKind.f64.format.order (n % 9223372036854775808) 4670232813583204352 == some .eq) = false := q2
      clear f1 f2 q1 q2
      go_enter Tryz.func114, Tryz.ntmps114
      go_wp2_with (first | (go_at_call 155; refine (K1.out _).mono ?_; rintro e w' ⟨rfl, rfl⟩) | (go_at_call 156; refine (K2.out _).mono ?_; rintro e w' ⟨rfl, rfl⟩))
      go_ret
      exact ⟨rfl, rfl⟩
  · rw [decide_eq_false f1] at q1
    rw [decide_eq_false (show ¬ (v ≤ 1024 * 2 ^ 149 ∧ v % 2 ^ 145 = 0) from fun hh => f1 hh.2)]
    have c4 : (FloatKind.f64.format.order n t == some .eq) = false := q1
    clear f1 q1 q2
    go_enter Tryz.func114, Tryz.ntmps114
    go_wp2_with (first | (go_at_call 155; refine (K1.out _).mono ?_; rintro e w' ⟨rfl, rfl⟩) | (go_at_call 156; refine (K2.out _).mono ?_; rintro e w' ⟨rfl, rfl⟩))
    go_ret
    exact ⟨rfl, rfl⟩

set_option maxHeartbeats 800000 in
theorem checkSample_all (x : Nat) (hx : x < 2 ^ 32) (w : World) :
    Calls Tryz.prog 43 #[.float .f32 x] w fun e w' => e = .returned (.int .i64 (smpErr x)) ∧ (w = w' ∨ w.drew = w') := by
  rcases smp_class x with ⟨a, b, hd⟩ | ⟨s, hd⟩ | ⟨s, v, hn, hv⟩
  · rw [smpErr_nan hd]
    have K1 := Lib.hid (isFinite_nan hd)
    clear hd hx
    go_enter Tryz.func43, Tryz.ntmps43
    go_wp2_with (go_at_call 113; refine (K1.out _).mono ?_; rintro e w' ⟨rfl, rfl⟩)
    go_ret
    exact ⟨rfl, .inr rfl⟩
  · rw [smpErr_inf hd]
    have K1 := Lib.hid (isFinite_inf hd)
    clear hd hx
    go_enter Tryz.func43, Tryz.ntmps43
    go_wp2_with (go_at_call 113; refine (K1.out _).mono ?_; rintro e w' ⟨rfl, rfl⟩)
    go_ret
    exact ⟨rfl, .inl rfl⟩
  · rw [smpErr_num hn]
    have K1 := Lib.hid (isFinite_num hx hn hv)
    have K2 := Lib.hid (isMultiple_num hn hv)
    clear hn hx hv
    by_cases f : v ≤ 1024 * 2 ^ 149 ∧ v % 2 ^ 145 = 0
    · rw [decide_eq_true f] at K2
      rw [if_pos f]
      clear f
      go_enter Tryz.func43, Tryz.ntmps43
      go_wp2_with (first | (go_at_call 113; refine (K1.out _).mono ?_; rintro e w' ⟨rfl, rfl⟩) | (go_at_call 114; refine (K2.out _).mono ?_; rintro e w' ⟨rfl, rfl⟩))
      go_ret
      exact ⟨rfl, .inl rfl⟩
    · rw [decide_eq_false f] at K2
      rw [if_neg f]
      clear f
      go_enter Tryz.func43, Tryz.ntmps43
      go_wp2_with (first | (go_at_call 113; refine (K1.out _).mono ?_; rintro e w' ⟨rfl, rfl⟩) | (go_at_call 114; refine (K2.out _).mono ?_; rintro e w' ⟨rfl, rfl⟩))
      go_ret
      exact ⟨rfl, .inl rfl⟩
end Go.Proofs.YtfpagmalblmnkaaGreatDoor
