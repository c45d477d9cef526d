/-
  Contracts of the functions on one sample: its integer, the sample of an integer, whether it is one, for words that stand for k/16; and the reference's check of any word.
  Condition: the sizes of the integers that are written at each theorem.
-/
import Derived.Test.YtpmjiifdnnhecaaGreatDoorOaaXc
namespace Go.Proofs.YtpmjiifdnnhecaaGreatDoor
open Go.RowKit
set_option linter.unusedVariables false

theorem run_mul (t : TypeId) {k : FloatKind} {x y r : Nat} (h : floatBits .mul k x y = some r) : ∀ w : World, (binOp .mul t (.float k x) (.float k y)).run Tryz.prog w = .ok (.float k r) w :=
  fun w => run_float_arith w .mul t k x y r h
theorem run_quo (t : TypeId) {k : FloatKind} {x y r : Nat} (h : floatBits .quo k x y = some r) : ∀ w : World, (binOp .quo t (.float k x) (.float k y)).run Tryz.prog w = .ok (.float k r) w :=
  fun w => run_float_arith w .quo t k x y r h
theorem run_sub (t : TypeId) {k : FloatKind} {x y r : Nat} (h : floatBits .sub k x y = some r) : ∀ w : World, (binOp .sub t (.float k x) (.float k y)).run Tryz.prog w = .ok (.float k r) w :=
  fun w => run_float_arith w .sub t k x y r h
theorem run_toInt {r : Nat} {n : Int} (h : floatToIntVal .f32 r .i64 = some n) : ∀ w : World, (convert 119 3 (.float .f32 r)).run Tryz.prog w = .ok (.int .i64 n) w :=
  fun w => run_convert_float_int w 119 3 .f32 .i64 r n (by rw [Tryz.underlying119]; rfl) Tryz.underlying3 h
theorem run_to64 {r d : Nat} (h : floatToFloatBits .f32 r .f64 = some d) : ∀ w : World, (convert 119 293 (.float .f32 r)).run Tryz.prog w = .ok (.float .f64 d) w :=
  fun w => run_convert_float_float w 119 293 .f32 .f64 r d (by rw [Tryz.underlying119]; rfl) Tryz.underlying293 h
theorem run_ofInt (n : Int) : ∀ w : World, (convert 3 119 (.int .i64 n)).run Tryz.prog w = .ok (.float .f32 (floatOfInt .f32 n)) w :=
  fun w => run_convert_int_float w 3 119 .i64 .f32 n (by rw [Tryz.underlying3]; rfl) Tryz.underlying119

set_option maxHeartbeats 400000 in
theorem integer_any (x : Nat) (k : Int) (hs : Smp x k) (hk : k.natAbs < 2 ^ 40) (w : World) :
    Calls Tryz.prog 198 #[.float .f32 x] w fun e w' => e = .returned (.int .i64 k) ∧ w = w' := by
  obtain ⟨r, m1, m2, m3⟩ := hs.int16 hk
  have h1 := run_mul 119 m1
  have h2 := run_toInt m3
  clear hk
  go_enter Tryz.func198, Tryz.ntmps198
  go_wp2
  go_ret
  exact ⟨rfl, rfl⟩

set_option maxHeartbeats 400000 in
theorem sample_any (n : Int) (hn : n.natAbs < 2 ^ 24) (w : World) :
    Calls Tryz.prog 168 #[.int .i64 n] w fun e w' => e = .returned (.float .f32 (smpOf n)) ∧ w = w' := by
  have h1 := run_quo 119 (smpOf_run n hn)
  have h2 := run_ofInt n
  clear hn
  go_enter Tryz.func168, Tryz.ntmps168
  go_wp2
  go_ret
  exact ⟨rfl, rfl⟩

set_option maxHeartbeats 400000 in
theorem refSample_any (n : Int) (hn : n.natAbs < 2 ^ 24) (w : World) :
    Calls Tryz.prog 71 #[.int .i64 n] w fun e w' => e = .returned (.float .f32 (smpOf n)) ∧ w = w' := by
  have h1 := run_quo 119 (smpOf_run n hn)
  have h2 := run_ofInt n
  clear hn
  go_enter Tryz.func71, Tryz.ntmps71
  go_wp2
  go_ret
  exact ⟨rfl, rfl⟩

set_option maxHeartbeats 400000 in
theorem isNaN_any (d : Nat) (s : Bool) (v : Nat) (h : IsNum Ieee.double d s v) (w : World) :
    Calls Tryz.prog 225 #[.float .f64 d] w fun e w' => e = .returned (.bool false) ∧ w = w' := by
  have h1 : FloatKind.f64.format.order d d = some .eq := h.self
  have H := Lib.hid h
  clear h
  go_enter Tryz.func225, Tryz.ntmps225
  go_wp2
  go_ret
  exact ⟨rfl, rfl⟩

theorem run_bits64 (d : Nat) : ∀ w : World, (callFunc 234 #[.float .f64 d]).run Tryz.prog w = .ok (.value (.int .u64 d)) w := fun w => by kernel_rfl
theorem run_frombits64 (n : Nat) : ∀ w : World, (callFunc 243 #[.int .u64 n]).run Tryz.prog w = .ok (.value (.float .f64 n)) w := fun w => by kernel_rfl

theorem run_frombits64m (d : Nat) : ∀ w : World, (callFunc 243 #[.int .u64 ((d : Int) % 9223372036854775808)]).run Tryz.prog w = .ok (.value (.float .f64 (d % 9223372036854775808))) w := fun w => by
  have e : ((d : Int) % 9223372036854775808) = ((d % 9223372036854775808 : Nat) : Int) := by omega
  rw [e]; exact run_frombits64 _ w

set_option maxHeartbeats 400000 in
theorem abs_any (d : Nat) (hd : d < 18446744073709551616) (w : World) :
    Calls Tryz.prog 228 #[.float .f64 d] w fun e w' => e = .returned (.float .f64 (d % 9223372036854775808)) ∧ w = w' := by
  have h1 := run_bits64 d
  have h2 := run_frombits64m d
  have h3 := andNot_top d hd
  go_enter Tryz.func228, Tryz.ntmps228
  go_wp2
  go_ret
  exact ⟨rfl, rfl⟩

theorem isNum_lt {d : Nat} {s : Bool} {v : Nat} {x : Nat} (h : floatToFloatBits .f32 x .f64 = some d) (hx : x < 2 ^ 32) : d < 18446744073709551616 := by
  have := floatToFloatBits_wf (src := .f32) (dst := .f64) (wf_of_lt .f32 x hx) h
  simpa [Lit.wf] using this

set_option maxHeartbeats 800000 in
/-- A number that is below 2^1023 is not infinite. -/
theorem isInf_any (d : Nat) (s : Bool) (v : Nat) (h : IsNum Ieee.double d s v) (hd : d < 18446744073709551616) (hv : v ≤ (2 ^ 53 - 1) * 2 ^ 2045) (w : World) :
    Calls Tryz.prog 226 #[.float .f64 d, .int .i64 0] w fun e w' => e = .returned (.bool false) ∧ w = w' := by
  have h1 : (FloatKind.f64.format.order (d % 9223372036854775808) 9218868437227405311 == some .gt) = false := h.abs64.gt_false max64 (sgn_le' hv)
  clear hv h
  go_enter Tryz.func226, Tryz.ntmps226
  go_wp2_with (go_at_call 228; refine (abs_any d hd _).mono ?_; rintro e w' ⟨rfl, rfl⟩)
  go_ret
  exact ⟨rfl, rfl⟩

theorem run_trunc {d : Nat} {s : Bool} {k t : Nat} (h1 : (FloatKind.f64.decode d).integral .zero = .number s k 0) (h2 : FloatKind.f64.encode (.number s k 0) = t) :
    ∀ w : World, (callFunc 241 #[.float .f64 d]).run Tryz.prog w = .ok (.value (.float .f64 t)) w := fun w => by
  rw [run_callFunc_extern Tryz.func241 (by kernel_rfl) (by kernel_rfl) (by kernel_rfl) (e := Extern.MathFloor.toIntegral "math.archTrunc" .zero) (by kernel_rfl)]
  have key : ∀ D : Ieee.Datum, FloatKind.f64.decode d = D → D.integral .zero = .number s k 0 → (Extern.MathFloor.toIntegral "math.archTrunc" .zero #[.float .f64 d]).run Tryz.prog w = .ok (.float .f64 t) w := by
    intro D hD hI
    show Sem.run Tryz.prog (Extern.MathFloor.toIntegral.match_1 (fun _ => Sem Value) (FloatKind.f64.decode d) _ _) w = _
    rw [hD]
    cases D with
    | nan a b => cases hI
    | infinity a => cases hI
    | number a b c => rw [← h2, ← hI]; rfl
  rw [key _ rfl h1]; rfl

set_option maxHeartbeats 400000 in
theorem trunc_any (d t : Nat) (ht : ∀ w : World, (callFunc 241 #[.float .f64 d]).run Tryz.prog w = .ok (.value (.float .f64 t)) w) (w : World) :
    Calls Tryz.prog 227 #[.float .f64 d] w fun e w' => e = .returned (.float .f64 t) ∧ w = w' := by
  go_enter Tryz.func227, Tryz.ntmps227
  go_wp2
  go_ret
  exact ⟨rfl, rfl⟩

theorem floatBits_lt {op : BinOp} {x y r : Nat} (h : floatBits op .f64 x y = some r) : r < 18446744073709551616 := by
  simpa [Lit.wf] using floatBits_wf h

set_option maxHeartbeats 1000000 in
theorem isFinite_any (x : Nat) (k : Int) (hx : x < 2 ^ 32) (hs : Smp x k) (hk : k.natAbs < 2 ^ 40) (w : World) :
    Calls Tryz.prog 204 #[.float .f32 x] w fun e w' => e = .returned (.bool true) ∧ w = w' := by
  obtain ⟨s, h, _, _⟩ := hs
  obtain ⟨d, h1, h2⟩ := toF64 (40 + 145) h (pow_split hk) (by omega)
  have hd := isNum_lt (s := s) (v := 0) h1 hx
  have hv : k.natAbs * 2 ^ 145 * 2 ^ 925 ≤ (2 ^ 53 - 1) * 2 ^ 2045 := by
    generalize hu : (925 : Nat) = u
    exact max64_ge (pow_split (pow_split hk)) (by omega)
  have c1 := run_to64 h1
  have K1 := Lib.hid (isNaN_any d s _ h2)
  have K2 := Lib.hid (isInf_any d s _ h2 hd hv)
  clear h h1 h2 hd hv hx hk
  go_enter Tryz.func204, Tryz.ntmps204
  go_wp2_with (first | (go_at_call 225; refine (K1.out _).mono ?_; rintro e w' ⟨rfl, rfl⟩) | (go_at_call 226; refine (K2.out _).mono ?_; rintro e w' ⟨rfl, rfl⟩))
  go_ret
  exact ⟨rfl, rfl⟩

set_option maxHeartbeats 1000000 in
/-- Whether a sample's word is a multiple of 1/16 up to 1024: here one that is. -/
theorem isMultiple_any (x : Nat) (k : Int) (hs : Smp x k) (hk : k.natAbs ≤ 16384) (w : World) :
    Calls Tryz.prog 205 #[.float .f32 x, .float .f64 4652218415073722368] w fun e w' => e = .returned (.bool true) ∧ w = w' := by
  obtain ⟨s, h, _, _⟩ := hs
  have hk40 : k.natAbs < 2 ^ 40 := Nat.lt_of_le_of_lt hk (by decide)
  obtain ⟨d, h1, h2⟩ := toF64 (40 + 145) h (pow_split hk40) (by omega)
  obtain ⟨n, n1, n2⟩ := mul16_64 1110 h2 (by
    generalize hu : (925 : Nat) = u
    generalize hv : (1110 : Nat) = v
    exact Nat.lt_of_lt_of_le (pow_split (pow_split hk40)) (Nat.pow_le_pow_right (by omega) (by omega))) (by omega)
  have ev : k.natAbs * 2 ^ 145 * 2 ^ 925 * 2 ^ 4 = k.natAbs * 2 ^ 1074 := by
    generalize hu : (925 : Nat) = u
    generalize hv : (1074 : Nat) = v
    rw [mul_pow_join k.natAbs 145 u (145 + u) rfl, mul_pow_join _ _ 4 v (by omega)]
  rw [ev] at n2
  obtain ⟨t, t1, t2, t3⟩ := trunc_int n2 (Nat.lt_of_le_of_lt hk (by decide))
  have hn := floatBits_lt n1
  have c1 := run_to64 h1
  have c2 := run_mul 293 n1
  have c3 := run_trunc t1 t2
  have c4 : (FloatKind.f64.format.order n t == some .eq) = true := n2.eq_true t3
  have hm : floatBits .mul .f64 4652218415073722368 4625196817309499392 = some 4670232813583204352 := by decide +kernel
  have c5 := run_mul 293 hm
  have c6 : (FloatKind.f64.format.order (n % 9223372036854775808) 4670232813583204352 == some .lt || FloatKind.f64.format.order (n % 9223372036854775808) 4670232813583204352 == some .eq) = true :=
    le_max16384 n2 hk
  have K1 := Lib.hid (trunc_any n t c3)
  have K2 := Lib.hid (abs_any n hn)
  clear h h1 h2 n1 n2 t1 t2 t3 ev hm hn c3 hk hk40
  go_enter Tryz.func205, Tryz.ntmps205
  go_wp2_with (first | (go_at_call 227; refine (K1.out _).mono ?_; rintro e w' ⟨rfl, rfl⟩) | (go_at_call 228; refine (K2.out _).mono ?_; rintro e w' ⟨rfl, rfl⟩))
  go_ret
  exact ⟨rfl, rfl⟩

set_option maxHeartbeats 400000 in
theorem checkSample_any (x : Nat) (k : Int) (hx : x < 2 ^ 32) (hs : Smp x k) (hk : k.natAbs ≤ 16384) (w : World) :
    Calls Tryz.prog 156 #[.float .f32 x] w fun e w' => e = .returned (.int .i64 0) ∧ w = w' := by
  have K1 := Lib.hid (isFinite_any x k hx hs (Nat.lt_of_le_of_lt hk (by decide)))
  have K2 := Lib.hid (isMultiple_any x k hs hk)
  clear hx hs hk
  go_enter Tryz.func156, Tryz.ntmps156
  go_wp2_with (first | (go_at_call 204; refine (K1.out _).mono ?_; rintro e w' ⟨rfl, rfl⟩) | (go_at_call 205; refine (K2.out _).mono ?_; rintro e w' ⟨rfl, rfl⟩))
  go_ret
  exact ⟨rfl, rfl⟩
end Go.Proofs.YtpmjiifdnnhecaaGreatDoor

/-
  Contracts of the loops that look for the first error: over a slice of integers that is known cell by cell; and what it means that a slice's cells are known.
-/

namespace Go.Proofs.YtpmjiifdnnhecaaGreatDoor
open Go.RowKit
set_option linter.unusedVariables false

/-- The first number of a list that is not 0, or 0. -/
def firstNZ : List Int → Int
  | [] => 0
  | x :: r => if x ≠ 0 then x else firstNZ r

theorem firstNZ_zeros {l : List Int} (h : ∀ x ∈ l, x = 0) : firstNZ l = 0 := by
  induction l with
  | nil => rfl
  | cons x r ih => rw [firstNZ, if_neg (by have := h x (by simp); omega)]; exact ih fun y hy => h y (by simp [hy])
theorem firstNZ_at {l : List Int} {k : Nat} (hk : k < l.length) (h0 : ∀ j, j < k → l.getD j 0 = 0) (h1 : l.getD k 0 ≠ 0) : firstNZ l = l.getD k 0 := by
  induction l generalizing k with
  | nil => simp at hk
  | cons x r ih =>
    cases k with
    | zero => simp at h1 ⊢; rw [firstNZ, if_pos h1]
    | succ k =>
      have hx : x = 0 := by simpa using h0 0 (by omega)
      rw [firstNZ, if_neg (by omega)]
      simp only [List.getD_cons_succ] at h1 ⊢
      exact ih (by simpa using hk) (fun j hj => by simpa using h0 (j + 1) (by omega)) h1
theorem firstNZ_end {l : List Int} (h : ∀ j, j < l.length → l.getD j 0 = 0) : firstNZ l = 0 := by
  refine firstNZ_zeros fun x hx => ?_
  obtain ⟨i, hi, rfl⟩ := List.getElem_of_mem hx
  have := h i hi
  simpa [List.getD_eq_getElem?_getD, hi] using this

set_option maxHeartbeats 1000000 in
theorem refFirst_any (b o n c : Nat) (zs : List Int) (hz : zs.length = n) (hm : n ≤ 4611686018427387904) (w : World)
    (hc : ∀ j, j < n → w.cell? ⟨b, o + j, none⟩ = some (.int .i64 (zs[j]?.getD 0))) :
    Calls Tryz.prog 84 #[.slice (some ⟨b, o, none⟩) n c] w fun e w' => e = .returned (.int .i64 (firstNZ zs)) ∧ w = w' := by
  have Hz := Lib.hid hz
  have Hc := Lib.hid hc
  clear hz hc
  go_enter Tryz.func84, Tryz.ntmps84
  go_wp2
  go_loop [3] (fun i => ∃ k : Nat, k ≤ n ∧ i = .int .i64 k ∧ Hid (∀ j, j < k → zs.getD j 0 = 0)) (fun i => n - (intOf i).toNat)
  case atStart => exact ⟨0, Nat.zero_le _, rfl, fun j hj => absurd hj (by omega)⟩
  case round =>
    obtain ⟨k, hk, rfl, hh⟩ := hrel
    by_cases hlt : k < n
    · have hcell := Hc.out k hlt
      by_cases h0 : zs[k]?.getD 0 = 0
      · have e0 : (zs[k]?.getD 0 != 0) = false := by simp [h0]
        have H0 := Lib.hid h0
        clear h0
        go_wp2
        go_round
        case rel => exact ⟨k + 1, by omega, by go_num, fun j hj => by
          by_cases hjk : j < k
          · exact hh.out j hjk
          · obtain rfl : j = k := by omega
            rw [List.getD_eq_getElem?_getD]; exact H0.out⟩
        case measure => simp [intOf]; omega
      · have e0 : (zs[k]?.getD 0 != 0) = true := by simp [h0]
        have H0 := Lib.hid h0
        clear h0
        go_wp2
        go_ret
        exact ⟨ret_int (by rw [firstNZ_at (by rw [Hz.out]; exact hlt) hh.out (by rw [List.getD_eq_getElem?_getD]; exact H0.out), List.getD_eq_getElem?_getD]), rfl⟩
    · go_wp2
      go_ret
      exact ⟨ret_int (firstNZ_end fun j hj => hh.out j (by have := Hz.out; omega)).symm, rfl⟩
set_option maxHeartbeats 1000000 in
theorem first_any (b o n c : Nat) (zs : List Int) (hz : zs.length = n) (hm : n ≤ 4611686018427387904) (w : World)
    (hc : ∀ j, j < n → w.cell? ⟨b, o + j, none⟩ = some (.int .i64 (zs[j]?.getD 0))) :
    Calls Tryz.prog 77 #[.slice (some ⟨b, o, none⟩) n c] w fun e w' => e = .returned (.int .i64 (firstNZ zs)) ∧ w = w' := by
  have Hz := Lib.hid hz
  have Hc := Lib.hid hc
  clear hz hc
  go_enter Tryz.func77, Tryz.ntmps77
  go_wp2
  go_loop [7] (fun i => ∃ k : Nat, k ≤ n ∧ i = .int .i64 k ∧ Hid (∀ j, j < k → zs.getD j 0 = 0)) (fun i => n - (intOf i).toNat)
  case atStart => exact ⟨0, Nat.zero_le _, rfl, fun j hj => absurd hj (by omega)⟩
  case round =>
    obtain ⟨k, hk, rfl, hh⟩ := hrel
    by_cases hlt : k < n
    · have hcell := Hc.out k hlt
      by_cases h0 : zs[k]?.getD 0 = 0
      · have e0 : (zs[k]?.getD 0 != 0) = false := by simp [h0]
        have H0 := Lib.hid h0
        clear h0
        go_wp2
        go_round
        case rel => exact ⟨k + 1, by omega, by go_num, fun j hj => by
          by_cases hjk : j < k
          · exact hh.out j hjk
          · obtain rfl : j = k := by omega
            rw [List.getD_eq_getElem?_getD]; exact H0.out⟩
        case measure => simp [intOf]; omega
      · have e0 : (zs[k]?.getD 0 != 0) = true := by simp [h0]
        have H0 := Lib.hid h0
        clear h0
        go_wp2
        go_ret
        exact ⟨ret_int (by rw [firstNZ_at (by rw [Hz.out]; exact hlt) hh.out (by rw [List.getD_eq_getElem?_getD]; exact H0.out), List.getD_eq_getElem?_getD]), rfl⟩
    · go_wp2
      go_ret
      exact ⟨ret_int (firstNZ_end fun j hj => hh.out j (by have := Hz.out; omega)).symm, rfl⟩

theorem first_zeros (b o n c : Nat) (hm : n ≤ 4611686018427387904) (w : World) (hc : ∀ j, j < n → w.cell? ⟨b, o + j, none⟩ = some (.int .i64 0)) :
    Calls Tryz.prog 77 #[.slice (some ⟨b, o, none⟩) n c] w fun e w' => e = .returned (.int .i64 0) ∧ w = w' := by
  have h := first_any b o n c (List.replicate n 0) (by simp) hm w (fun j hj => by rw [hc j hj]; simp [hj])
  rwa [firstNZ_zeros (fun x hx => (List.mem_replicate.1 hx).2)] at h

/-- The cells of a row that the call owns. -/
theorem owns_cell {w : World} {B T n c g : Nat} {vs : List Value} (h : w.ownsRow B T 1 (.slice (some ⟨g, 0, none⟩) n c) n vs) {j : Nat} {v : Value} (hj : vs[j]? = some v) : w.cell? ⟨g, j, none⟩ = some v := by
  have hadd : (⟨g, 0, none⟩ : Addr).add j = ⟨g, j, none⟩ := by unfold Addr.add; split <;> simp_all
  rw [← hadd]; exact h.cells (g := g) rfl j v hj
end Go.Proofs.YtpmjiifdnnhecaaGreatDoor
