/-
  Contracts of the functions on one sample: its integer, the sample of an integer, whether it is one, for words that stand for k/16; and the reference's check of any word.
  Condition: the sizes of the integers that are written at each theorem.
-/
import Derived.Test.YtfdkmmllemkogaaOWa
import Derived.Test.YtfdkmmllemkogaaOFlp
namespace Go.Proofs.Ytfdkmmllemkogaa
open Go.RowKit
set_option linter.unusedVariables false

theorem run_mul (t : TypeId) {k : FloatKind} {x y r : Nat} (h : floatBits .mul k x y = some r) : ∀ w : World, (binOp .mul t (.float k x) (.float k y)).run Try.prog w = .ok (.float k r) w :=
  fun w => run_float_arith w .mul t k x y r h
theorem run_quo (t : TypeId) {k : FloatKind} {x y r : Nat} (h : floatBits .quo k x y = some r) : ∀ w : World, (binOp .quo t (.float k x) (.float k y)).run Try.prog w = .ok (.float k r) w :=
  fun w => run_float_arith w .quo t k x y r h
theorem run_sub (t : TypeId) {k : FloatKind} {x y r : Nat} (h : floatBits .sub k x y = some r) : ∀ w : World, (binOp .sub t (.float k x) (.float k y)).run Try.prog w = .ok (.float k r) w :=
  fun w => run_float_arith w .sub t k x y r h
theorem run_toInt {r : Nat} {n : Int} (h : floatToIntVal .f32 r .i64 = some n) : ∀ w : World, (convert 27 3 (.float .f32 r)).run Try.prog w = .ok (.int .i64 n) w :=
  fun w => run_convert_float_int w 27 3 .f32 .i64 r n (by rw [Try.underlying27]; rfl) Try.underlying3 h
theorem run_to64 {r d : Nat} (h : floatToFloatBits .f32 r .f64 = some d) : ∀ w : World, (convert 27 116 (.float .f32 r)).run Try.prog w = .ok (.float .f64 d) w :=
  fun w => run_convert_float_float w 27 116 .f32 .f64 r d (by rw [Try.underlying27]; rfl) Try.underlying116 h
theorem run_ofInt (n : Int) : ∀ w : World, (convert 3 27 (.int .i64 n)).run Try.prog w = .ok (.float .f32 (floatOfInt .f32 n)) w :=
  fun w => run_convert_int_float w 3 27 .i64 .f32 n (by rw [Try.underlying3]; rfl) Try.underlying27

set_option maxHeartbeats 400000 in
theorem integer_any (x : Nat) (k : Int) (hs : Smp x k) (hk : k.natAbs < 2 ^ 40) (w : World) :
    Calls Try.prog 58 #[.float .f32 x] w fun e w' => e = .returned (.int .i64 k) ∧ w = w' := by
  obtain ⟨r, m1, m2, m3⟩ := hs.int16 hk
  have h1 := run_mul 27 m1
  have h2 := run_toInt m3
  clear hk
  go_enter Try.func58, Try.ntmps58
  go_wp2
  go_ret
  exact ⟨rfl, rfl⟩

set_option maxHeartbeats 400000 in
theorem sixteenths_any (x : Nat) (k : Int) (hs : Smp x k) (hk : k.natAbs < 2 ^ 40) (w : World) :
    Calls Try.prog 21 #[.float .f32 x] w fun e w' => e = .returned (.int .i64 k) ∧ w = w' := by
  obtain ⟨r, m1, m2, m3⟩ := hs.int16 hk
  have h1 := run_mul 27 m2
  have h2 := run_toInt m3
  clear hk
  go_enter Try.func21, Try.ntmps21
  go_wp2
  go_ret
  exact ⟨rfl, rfl⟩

set_option maxHeartbeats 400000 in
theorem sample_any (n : Int) (hn : n.natAbs < 2 ^ 24) (w : World) :
    Calls Try.prog 65 #[.int .i64 n] w fun e w' => e = .returned (.float .f32 (smpOf n)) ∧ w = w' := by
  have h1 := run_quo 27 (smpOf_run n hn)
  have h2 := run_ofInt n
  clear hn
  go_enter Try.func65, Try.ntmps65
  go_wp2
  go_ret
  exact ⟨rfl, rfl⟩

set_option maxHeartbeats 400000 in
theorem refSample_any (n : Int) (hn : n.natAbs < 2 ^ 24) (w : World) :
    Calls Try.prog 10 #[.int .i64 n] w fun e w' => e = .returned (.float .f32 (smpOf n)) ∧ w = w' := by
  have h1 := run_quo 27 (smpOf_run n hn)
  have h2 := run_ofInt n
  clear hn
  go_enter Try.func10, Try.ntmps10
  go_wp2
  go_ret
  exact ⟨rfl, rfl⟩

set_option maxHeartbeats 400000 in
theorem isNaN_any (d : Nat) (s : Bool) (v : Nat) (h : IsNum Ieee.double d s v) (w : World) :
    Calls Try.prog 75 #[.float .f64 d] w fun e w' => e = .returned (.bool false) ∧ w = w' := by
  have h1 : FloatKind.f64.format.order d d = some .eq := h.self
  have H := Lib.hid h
  clear h
  go_enter Try.func75, Try.ntmps75
  go_wp2
  go_ret
  exact ⟨rfl, rfl⟩

theorem run_bits64 (d : Nat) : ∀ w : World, (callFunc 82 #[.float .f64 d]).run Try.prog w = .ok (.value (.int .u64 d)) w := fun w => by kernel_rfl
theorem run_frombits64 (n : Nat) : ∀ w : World, (callFunc 81 #[.int .u64 n]).run Try.prog w = .ok (.value (.float .f64 n)) w := fun w => by kernel_rfl

theorem run_frombits64m (d : Nat) : ∀ w : World, (callFunc 81 #[.int .u64 ((d : Int) % 9223372036854775808)]).run Try.prog w = .ok (.value (.float .f64 (d % 9223372036854775808))) w := fun w => by
  have e : ((d : Int) % 9223372036854775808) = ((d % 9223372036854775808 : Nat) : Int) := by omega
  rw [e]; exact run_frombits64 _ w

set_option maxHeartbeats 400000 in
theorem abs_any (d : Nat) (hd : d < 18446744073709551616) (w : World) :
    Calls Try.prog 78 #[.float .f64 d] w fun e w' => e = .returned (.float .f64 (d % 9223372036854775808)) ∧ w = w' := by
  have h1 := run_bits64 d
  have h2 := run_frombits64m d
  have h3 := andNot_top d hd
  go_enter Try.func78, Try.ntmps78
  go_wp2
  go_ret
  exact ⟨rfl, rfl⟩

theorem isNum_lt {d : Nat} {s : Bool} {v : Nat} {x : Nat} (h : floatToFloatBits .f32 x .f64 = some d) (hx : x < 2 ^ 32) : d < 18446744073709551616 := by
  have := floatToFloatBits_wf (src := .f32) (dst := .f64) (wf_of_lt .f32 x hx) h
  simpa [Lit.wf] using this

set_option maxHeartbeats 800000 in
/-- A number that is below 2^1023 is not infinite. -/
theorem isInf_any (d : Nat) (s : Bool) (v : Nat) (h : IsNum Ieee.double d s v) (hd : d < 18446744073709551616) (hv : v ≤ (2 ^ 53 - 1) * 2 ^ 2045) (w : World) :
    Calls Try.prog 76 #[.float .f64 d, .int .i64 0] w fun e w' => e = .returned (.bool false) ∧ w = w' := by
  have h1 : (FloatKind.f64.format.order (d % 9223372036854775808) 9218868437227405311 == some .gt) = false := h.abs64.gt_false max64 (sgn_le' hv)
  clear hv h
  go_enter Try.func76, Try.ntmps76
  go_wp2_with (go_at_call 78; refine (abs_any d hd _).mono ?_; rintro e w' ⟨rfl, rfl⟩)
  go_ret
  exact ⟨rfl, rfl⟩

theorem run_trunc {d : Nat} {s : Bool} {k t : Nat} (h1 : (FloatKind.f64.decode d).integral .zero = .number s k 0) (h2 : FloatKind.f64.encode (.number s k 0) = t) :
    ∀ w : World, (callFunc 79 #[.float .f64 d]).run Try.prog w = .ok (.value (.float .f64 t)) w := fun w => by
  rw [run_callFunc_extern Try.func79 (by kernel_rfl) (by kernel_rfl) (by kernel_rfl) (e := Extern.MathFloor.toIntegral "math.archTrunc" .zero) (by kernel_rfl)]
  have key : ∀ D : Ieee.Datum, FloatKind.f64.decode d = D → D.integral .zero = .number s k 0 → (Extern.MathFloor.toIntegral "math.archTrunc" .zero #[.float .f64 d]).run Try.prog w = .ok (.float .f64 t) w := by
    intro D hD hI
    show Sem.run Try.prog (Extern.MathFloor.toIntegral.match_1 (fun _ => Sem Value) (FloatKind.f64.decode d) _ _) w = _
    rw [hD]
    cases D with
    | nan a b => cases hI
    | infinity a => cases hI
    | number a b c => rw [← h2, ← hI]; rfl
  rw [key _ rfl h1]; rfl

set_option maxHeartbeats 400000 in
theorem trunc_any (d t : Nat) (ht : ∀ w : World, (callFunc 79 #[.float .f64 d]).run Try.prog w = .ok (.value (.float .f64 t)) w) (w : World) :
    Calls Try.prog 77 #[.float .f64 d] w fun e w' => e = .returned (.float .f64 t) ∧ w = w' := by
  go_enter Try.func77, Try.ntmps77
  go_wp2
  go_ret
  exact ⟨rfl, rfl⟩

theorem floatBits_lt {op : BinOp} {x y r : Nat} (h : floatBits op .f64 x y = some r) : r < 18446744073709551616 := by
  simpa [Lit.wf] using floatBits_wf h

set_option maxHeartbeats 1000000 in
theorem isFinite_any (x : Nat) (k : Int) (hx : x < 2 ^ 32) (hs : Smp x k) (hk : k.natAbs < 2 ^ 40) (w : World) :
    Calls Try.prog 68 #[.float .f32 x] w fun e w' => e = .returned (.bool true) ∧ w = w' := by
  obtain ⟨s, h, _, _⟩ := hs
  obtain ⟨d, h1, h2⟩ := toF64 (40 + 145) h (pow_split hk) (by omega)
  have hd := isNum_lt (s := s) (v := 0) h1 hx
  have hv : k.natAbs * 2 ^ 145 * 2 ^ 925 ≤ (2 ^ 53 - 1) * 2 ^ 2045 := by
    generalize hu : (925 : Nat) = u
    exact max64_ge (pow_split (pow_split hk)) (by omega)
  have c1 := run_to64 h1
  have K1 := Lib.hid (isNaN_any d s _ h2)
  have K2 := Lib.hid (isInf_any d s _ h2 hd hv)
  clear h h1 h2 hd hv hx hk
  go_enter Try.func68, Try.ntmps68
  go_wp2_with (first | (go_at_call 75; refine (K1.out _).mono ?_; rintro e w' ⟨rfl, rfl⟩) | (go_at_call 76; refine (K2.out _).mono ?_; rintro e w' ⟨rfl, rfl⟩))
  go_ret
  exact ⟨rfl, rfl⟩

set_option maxHeartbeats 1000000 in
/-- Whether a sample's word is a multiple of 1/16 up to 1024: here one that is. -/
theorem isMultiple_any (x : Nat) (k : Int) (hs : Smp x k) (hk : k.natAbs ≤ 16384) (w : World) :
    Calls Try.prog 69 #[.float .f32 x, .float .f64 4652218415073722368] w fun e w' => e = .returned (.bool true) ∧ w = w' := by
  obtain ⟨s, h, _, _⟩ := hs
  have hk40 : k.natAbs < 2 ^ 40 := Nat.lt_of_le_of_lt hk (by decide)
  obtain ⟨d, h1, h2⟩ := toF64 (40 + 145) h (pow_split hk40) (by omega)
  obtain ⟨n, n1, n2⟩ := mul16_64 1110 h2 (by
    generalize hu : (925 : Nat) = u
    generalize hv : (1110 : Nat) = v
    exact Nat.lt_of_lt_of_le (pow_split (pow_split hk40)) (Nat.pow_le_pow_right (by omega) (by omega))) (by omega)
  have ev : k.natAbs * 2 ^ 145 * 2 ^ 925 * 2 ^ 4 = k.natAbs * 2 ^ 1074 := by
    generalize hu : (925 : Nat) = u
    generalize hv : (1074 : Nat) = v
    rw [mul_pow_join k.natAbs 145 u (145 + u) rfl, mul_pow_join _ _ 4 v (by omega)]
  rw [ev] at n2
  obtain ⟨t, t1, t2, t3⟩ := trunc_int n2 (Nat.lt_of_le_of_lt hk (by decide))
  have hn := floatBits_lt n1
  have c1 := run_to64 h1
  have c2 := run_mul 116 n1
  have c3 := run_trunc t1 t2
  have c4 : (FloatKind.f64.format.order n t == some .eq) = true := n2.eq_true t3
  have hm : floatBits .mul .f64 4652218415073722368 4625196817309499392 = some 4670232813583204352 := by decide +kernel
  have c5 := run_mul 116 hm
  have c6 : (FloatKind.f64.format.order (n % 9223372036854775808) 4670232813583204352 == some .lt || FloatKind.f64.format.order (n % 9223372036854775808) 4670232813583204352 == some .eq) = true :=
    le_max16384 n2 hk
  have K1 := Lib.hid (trunc_any n t c3)
  have K2 := Lib.hid (abs_any n hn)
  clear h h1 h2 n1 n2 t1 t2 t3 ev hm hn c3 hk hk40
  go_enter Try.func69, Try.ntmps69
  go_wp2_with (first | (go_at_call 77; refine (K1.out _).mono ?_; rintro e w' ⟨rfl, rfl⟩) | (go_at_call 78; refine (K2.out _).mono ?_; rintro e w' ⟨rfl, rfl⟩))
  go_ret
  exact ⟨rfl, rfl⟩

set_option maxHeartbeats 400000 in
theorem checkSample_any (x : Nat) (k : Int) (hx : x < 2 ^ 32) (hs : Smp x k) (hk : k.natAbs ≤ 16384) (w : World) :
    Calls Try.prog 56 #[.float .f32 x] w fun e w' => e = .returned (.int .i64 0) ∧ w = w' := by
  have K1 := Lib.hid (isFinite_any x k hx hs (Nat.lt_of_le_of_lt hk (by decide)))
  have K2 := Lib.hid (isMultiple_any x k hs hk)
  clear hx hs hk
  go_enter Try.func56, Try.ntmps56
  go_wp2_with (first | (go_at_call 68; refine (K1.out _).mono ?_; rintro e w' ⟨rfl, rfl⟩) | (go_at_call 69; refine (K2.out _).mono ?_; rintro e w' ⟨rfl, rfl⟩))
  go_ret
  exact ⟨rfl, rfl⟩
end Go.Proofs.Ytfdkmmllemkogaa
