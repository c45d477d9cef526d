/-
  Contracts of isMultiple up to 4096 and of checkNumber for any complex number; the quotient by 4.
-/
import Derived.Test.YtfpagmalblmnkaaGreatDoorEWy
namespace Go.Proofs.YtfpagmalblmnkaaGreatDoor
open Go.RowKit
open Ieee (Format single double Datum signed)
set_option linter.unusedVariables false
set_option linter.unusedSimpArgs false

theorem max65536 : IsNum double 4679240012837945344 false (65536 * 2 ^ 1074) := by
  have e : double.read 4679240012837945344 = .number false (2 ^ 52) (-36) := by decide +kernel
  refine ⟨2 ^ 52, -36, e, by decide, by decide, ?_⟩
  have e2 : ((-36 : Int) - double.leastPlace).toNat = 1038 := by decide
  rw [e2]
  generalize hv : (1074 : Nat) = v
  generalize hu : (1038 : Nat) = u
  have e3 : (1 : Nat) * 2 ^ 52 * 2 ^ u = 1 * 2 ^ (52 + u) := mul_pow_join 1 52 u _ rfl
  have e4 : (1 : Nat) * 2 ^ 16 * 2 ^ v = 1 * 2 ^ (16 + v) := mul_pow_join 1 16 v _ rfl
  rw [Nat.one_mul, Nat.one_mul] at e3 e4
  rw [e3, show (65536 : Nat) = 2 ^ 16 from rfl, e4]; congr 1; omega
theorem large_iff4 (v : Nat) : v * 2 ^ 925 * 2 ^ 4 ≤ 65536 * 2 ^ 1074 ↔ v ≤ 4096 * 2 ^ 149 := by
  generalize hu : (925 : Nat) = u
  generalize hw : (1074 : Nat) = w
  rw [mul_pow_join v u 4 (u + 4) rfl]
  have e : 65536 * (2 : Nat) ^ w = 4096 * 2 ^ 149 * 2 ^ (u + 4) := by
    rw [show (4096 : Nat) = 2 ^ 12 from rfl, show (65536 : Nat) = 2 ^ 16 from rfl, ← Nat.pow_add, ← Nat.pow_add, ← Nat.pow_add]
    congr 1; omega
  rw [e]
  exact Nat.mul_le_mul_right_iff (Nat.two_pow_pos _)

theorem multiple_words4 {x : Nat} {s : Bool} {v : Nat} (h : IsNum single x s v) (hv : v ≤ 16777215 * 2 ^ 253) :
    ∃ d n t, floatToFloatBits .f32 x .f64 = some d ∧ IsNum double d s (v * 2 ^ 925) ∧ floatBits .mul .f64 d 4625196817309499392 = some n ∧
      (FloatKind.f64.decode n).integral .zero = .number s (v * 2 ^ 925 * 2 ^ 4 / 2 ^ 1074) 0 ∧ FloatKind.f64.encode (.number s (v * 2 ^ 925 * 2 ^ 4 / 2 ^ 1074) 0) = t ∧
      (double.order n t == some .eq) = decide (v % 2 ^ 145 = 0) ∧
      (double.order (n % 9223372036854775808) 4679240012837945344 == some .lt || double.order (n % 9223372036854775808) 4679240012837945344 == some .eq) = decide (v ≤ 4096 * 2 ^ 149) := by
  have hv2 : v < 2 ^ 277 := Nat.lt_of_le_of_lt hv (by decide +kernel)
  obtain ⟨d, h1, h2⟩ := toF64 277 h hv2 (by omega)
  have hb : v * 2 ^ 925 < 2 ^ (277 + 925) := by
    generalize hu : (925 : Nat) = u
    exact pow_split hv2
  obtain ⟨n, n1, n2⟩ := mul16_64 (277 + 925) h2 hb (by omega)
  have hb2 : v * 2 ^ 925 * 2 ^ 4 < 2 ^ 2097 := by
    generalize hu : (925 : Nat) = u at *
    generalize hw : (2097 : Nat) = w
    exact pow_split_lt hb (by omega)
  obtain ⟨t, t1, t2, t3⟩ := trunc_num n2 hb2
  refine ⟨d, n, t, h1, h2, n1, t1, t2, ?_, ?_⟩
  · rw [n2.eq_decide t3]
    exact decide_eq_decide.2 (fine_iff v)
  · rw [n2.abs64.le_decide max65536]
    exact decide_eq_decide.2 (large_iff4 v)

set_option maxRecDepth 100000 in
set_option maxHeartbeats 3200000 in
theorem isMultiple_num4 {x : Nat} {s : Bool} {v : Nat} (h : IsNum Ieee.single x s v) (hv : v ≤ 16777215 * 2 ^ 253) (w : World) :
    Calls Tryz.prog 114 #[.float .f32 x, .float .f64 4661225614328463360] w fun e w' => e = .returned (.bool (decide (v ≤ 4096 * 2 ^ 149 ∧ v % 2 ^ 145 = 0))) ∧ w' = w := by
  obtain ⟨d, n, t, h1, h2, n1, t1, t2, q1, q2⟩ := multiple_words4 h hv
  have hn := floatBits_lt n1
  have c1 := run_to64 h1
  have c2 := run_mul 191 n1
  have c3 := run_trunc t1 t2
  have hm : floatBits .mul .f64 4661225614328463360 4625196817309499392 = some 4679240012837945344 := by decide +kernel
  have c5 := run_mul 191 hm
  have K1 := Lib.hid (trunc_any n t c3)
  have K2 := Lib.hid (abs_any n hn)
  clear h h1 h2 n1 t1 t2 hm hn c3 hv
  by_cases f1 : v % 2 ^ 145 = 0
  · rw [decide_eq_true f1] at q1
    by_cases f2 : v ≤ 4096 * 2 ^ 149
    · rw [decide_eq_true f2] at q2
      rw [decide_eq_true (show v ≤ 4096 * 2 ^ 149 ∧ v % 2 ^ 145 = 0 from ⟨f2, f1⟩)]
      have c4 : (FloatKind.f64.format.order n t == some .eq) = true := q1
      have c6 : (FloatKind.f64.format.order (n % 9223372036854775808) 4679240012837945344 == some .lt || FloatKind.f64.format.order (n % 9223372036854775808) 4679240012837945344 == some .eq) = true := q2
      clear f1 f2 q1 q2
      go_enter Tryz.func114, Tryz.ntmps114
      go_wp2_with (first | (go_at_call 155; refine (K1.out _).mono ?_; rintro e w' ⟨rfl, rfl⟩) | (go_at_call 156; refine (K2.out _).mono ?_; rintro e w' ⟨rfl, rfl⟩))
      go_ret
      exact ⟨rfl, rfl⟩
    · rw [decide_eq_false f2] at q2
      rw [decide_eq_false (show ¬ (v ≤ 4096 * 2 ^ 149 ∧ v % 2 ^ 145 = 0) from fun hh => f2 hh.1)]
      have c4 : (FloatKind.f64.format.order n t == some .eq) = true := q1
      have c6 : (FloatKind.f64.format.order (n % 9223372036854775808) 4679240012837945344 == some .lt || FloatKind.f64.format.order (n % 9223372036854775808) 4679240012837945344 == some .eq) = false := q2
      clear f1 f2 q1 q2
      go_enter Tryz.func114, Tryz.ntmps114
      go_wp2_with (first | (go_at_call 155; refine (K1.out _).mono ?_; rintro e w' ⟨rfl, rfl⟩) | (go_at_call 156; refine (K2.out _).mono ?_; rintro e w' ⟨rfl, rfl⟩))
      go_ret
      exact ⟨rfl, rfl⟩
  · rw [decide_eq_false f1] at q1
    rw [decide_eq_false (show ¬ (v ≤ 4096 * 2 ^ 149 ∧ v % 2 ^ 145 = 0) from fun hh => f1 hh.2)]
    have c4 : (FloatKind.f64.format.order n t == some .eq) = false := q1
    clear f1 q1 q2
    go_enter Tryz.func114, Tryz.ntmps114
    go_wp2_with (first | (go_at_call 155; refine (K1.out _).mono ?_; rintro e w' ⟨rfl, rfl⟩) | (go_at_call 156; refine (K2.out _).mono ?_; rintro e w' ⟨rfl, rfl⟩))
    go_ret
    exact ⟨rfl, rfl⟩


/-- The error of a part of a complex number, up to 4096. -/
def finB (x : Nat) : Bool := match single.read x with
  | .number _ _ _ => true
  | _ => false
def mulB (x : Nat) : Bool := match single.read x with
  | .number _ m e => decide (m * 2 ^ (e - single.leastPlace).toNat ≤ 4096 * 2 ^ 149 ∧ m * 2 ^ (e - single.leastPlace).toNat % 2 ^ 145 = 0)
  | _ => false
def numErr (x y : Nat) : Int := if finB x = true ∧ finB y = true then if mulB x = true ∧ mulB y = true then 0 else 3 else 1
theorem finB_num {x : Nat} {s : Bool} {v : Nat} (h : IsNum single x s v) : finB x = true := by
  obtain ⟨m, e, h1, _⟩ := h
  unfold finB; rw [h1]
theorem mulB_num {x : Nat} {s : Bool} {v : Nat} (h : IsNum single x s v) : mulB x = decide (v ≤ 4096 * 2 ^ 149 ∧ v % 2 ^ 145 = 0) := by
  obtain ⟨m, e, h1, _, _, rfl⟩ := h
  unfold mulB; rw [h1]
theorem isFinite_all (x : Nat) (hx : x < 2 ^ 32) (w : World) :
    Calls Tryz.prog 113 #[.float .f32 x] w fun e w' => e = .returned (.bool (finB x)) ∧ Below w.heap.size w w' := by
  rcases smp_class x with ⟨a, b, hd⟩ | ⟨s, hd⟩ | ⟨s, v, hn, hv⟩
  · have e : finB x = false := by unfold finB; rw [hd]
    rw [e]
    exact (isFinite_nan hd w).mono fun e w' ⟨h1, h2⟩ => ⟨h1, by rw [h2]; exact (Below.refl _ w).drew⟩
  · have e : finB x = false := by unfold finB; rw [hd]
    rw [e]
    exact (isFinite_inf hd w).mono fun e w' ⟨h1, h2⟩ => ⟨h1, by rw [h2]; exact Below.refl _ w⟩
  · rw [finB_num hn]
    exact (isFinite_num hx hn hv w).mono fun e w' ⟨h1, h2⟩ => ⟨h1, by rw [h2]; exact Below.refl _ w⟩
theorem isMultiple_all (x : Nat) (hf : finB x = true) (w : World) :
    Calls Tryz.prog 114 #[.float .f32 x, .float .f64 4661225614328463360] w fun e w' => e = .returned (.bool (mulB x)) ∧ Below w.heap.size w w' := by
  rcases smp_class x with ⟨a, b, hd⟩ | ⟨s, hd⟩ | ⟨s, v, hn, hv⟩
  · unfold finB at hf; rw [hd] at hf; cases hf
  · unfold finB at hf; rw [hd] at hf; cases hf
  · rw [mulB_num hn]
    exact (isMultiple_num4 hn hv w).mono fun e w' ⟨h1, h2⟩ => ⟨h1, by rw [h2]; exact Below.refl _ w⟩

set_option maxRecDepth 100000 in
set_option maxHeartbeats 3200000 in
theorem checkNumber_all (x y : Nat) (hx : x < 2 ^ 32) (hy : y < 2 ^ 32) (w : World) :
    Calls Tryz.prog 46 #[.complex .f32 x y] w fun e w' => e = .returned (.int .i64 (numErr x y)) ∧ Below w.heap.size w w' := by
  have KX := Lib.hid (fun w1 => isFinite_all x hx w1)
  have KY := Lib.hid (fun w1 => isFinite_all y hy w1)
  cases hfx : finB x with
  | false =>
    have e : numErr x y = 1 := by unfold numErr; rw [if_neg (by simp [hfx])]
    rw [e]
    rw [hfx] at KX
    clear hfx e
    go_enter Tryz.func46, Tryz.ntmps46
    go_wp2_with (go_at_call_of 113 (Value.float .f32 x); refine (KX.out _).mono ?_; rintro e w1 ⟨rfl, hb1⟩)
    go_ret
    exact ⟨rfl, hb1⟩
  | true =>
    cases hfy : finB y with
    | false =>
      have e : numErr x y = 1 := by unfold numErr; rw [if_neg (by simp [hfy])]
      rw [e]
      rw [hfx] at KX
      rw [hfy] at KY
      clear hfx hfy e
      go_enter Tryz.func46, Tryz.ntmps46
      go_wp2_with (first
        | (go_at_call_of 113 (Value.float .f32 x); refine (KX.out _).mono ?_; rintro e w1 ⟨rfl, hb1⟩)
        | (go_at_call_of 113 (Value.float .f32 y); refine (KY.out _).mono ?_; rintro e w2 ⟨rfl, hb2⟩))
      go_ret
      first | exact ⟨rfl, hb1.trans (hb2.mono hb1.size)⟩ | exact ⟨rfl, hb2⟩ | exact ⟨rfl, hb1⟩
    | true =>
      have MX := Lib.hid (fun w1 => isMultiple_all x hfx w1)
      have MY := Lib.hid (fun w1 => isMultiple_all y hfy w1)
      have en : numErr x y = if mulB x = true ∧ mulB y = true then 0 else 3 := by unfold numErr; rw [if_pos ⟨hfx, hfy⟩]
      rw [hfx] at KX
      rw [hfy] at KY
      clear hfx hfy
      cases hmx : mulB x with
      | false =>
        rw [en, if_neg (by simp [hmx])]
        rw [hmx] at MX
        clear hmx en
        go_enter Tryz.func46, Tryz.ntmps46
        go_wp2_with (first
          | (go_at_call_of 113 (Value.float .f32 x); refine (KX.out _).mono ?_; rintro e w1 ⟨rfl, hb1⟩)
          | (go_at_call_of 113 (Value.float .f32 y); refine (KY.out _).mono ?_; rintro e w2 ⟨rfl, hb2⟩)
          | (go_at_call 114; refine (MX.out _).mono ?_; rintro e w3 ⟨rfl, hb3⟩))
        go_ret
        first | exact ⟨rfl, (hb1.trans (hb2.mono hb1.size)).trans (hb3.mono (hb1.trans (hb2.mono hb1.size)).size)⟩ | exact ⟨rfl, hb2.trans (hb3.mono hb2.size)⟩
      | true =>
        cases hmy : mulB y with
        | false =>
          rw [en, if_neg (by simp [hmy])]
          rw [hmx] at MX
          rw [hmy] at MY
          clear hmx hmy en
          go_enter Tryz.func46, Tryz.ntmps46
          go_wp2_with (first
            | (go_at_call_of 113 (Value.float .f32 x); refine (KX.out _).mono ?_; rintro e w1 ⟨rfl, hb1⟩)
            | (go_at_call_of 113 (Value.float .f32 y); refine (KY.out _).mono ?_; rintro e w2 ⟨rfl, hb2⟩)
            | (go_at_call_of 114 (Value.float .f32 x); refine (MX.out _).mono ?_; rintro e w3 ⟨rfl, hb3⟩)
            | (go_at_call_of 114 (Value.float .f32 y); refine (MY.out _).mono ?_; rintro e w4 ⟨rfl, hb4⟩))
          go_ret
          have hA := hb1.trans (hb2.mono hb1.size)
          have hB := hA.trans (hb3.mono hA.size)
          exact ⟨rfl, hB.trans (hb4.mono hB.size)⟩
        | true =>
          rw [en, if_pos ⟨hmx, hmy⟩]
          rw [hmx] at MX
          rw [hmy] at MY
          clear hmx hmy en
          go_enter Tryz.func46, Tryz.ntmps46
          go_wp2_with (first
            | (go_at_call_of 113 (Value.float .f32 x); refine (KX.out _).mono ?_; rintro e w1 ⟨rfl, hb1⟩)
            | (go_at_call_of 113 (Value.float .f32 y); refine (KY.out _).mono ?_; rintro e w2 ⟨rfl, hb2⟩)
            | (go_at_call_of 114 (Value.float .f32 x); refine (MX.out _).mono ?_; rintro e w3 ⟨rfl, hb3⟩)
            | (go_at_call_of 114 (Value.float .f32 y); refine (MY.out _).mono ?_; rintro e w4 ⟨rfl, hb4⟩))
          go_ret
          have hA := hb1.trans (hb2.mono hb1.size)
          have hB := hA.trans (hb3.mono hA.size)
          exact ⟨rfl, hB.trans (hb4.mono hB.size)⟩
end Go.Proofs.YtfpagmalblmnkaaGreatDoor

/-
  Contracts of CheckMap, of the program and of the reference, for every map (the reference's up to 4097 samples): both answer mapErr.
-/
namespace Go.Proofs.YtfpagmalblmnkaaGreatDoor
open Go.RowKit
set_option linter.unusedVariables false

/-- The error of a map: of its sides, of its shape, of its first sample with one. -/
def mapErr (W H : Int) (n : Nat) (xs : List Nat) : Int :=
  if firstNZ [rangeErr W 1 64, rangeErr H 1 64] = 0 then if W * H = n then firstNZ (xs.map smpErr) else 2 else firstNZ [rangeErr W 1 64, rangeErr H 1 64]

theorem firstNZ_all {l : List Int} (h : firstNZ l = 0) : ∀ x ∈ l, x = 0 := by
  induction l with
  | nil => intro x hx; cases hx
  | cons y r ih =>
    unfold firstNZ at h
    split at h
    · rename_i hy; exact absurd h hy
    · rename_i hy
      intro x hx
      rcases List.mem_cons.1 hx with rfl | hx
      · omega
      · exact ih h x hx

theorem mapErr_zero {W H : Int} {n : Nat} {xs : List Nat} (hx : xs.length = n) (h : mapErr W H n xs = 0) : RightSays W H n xs := by
  unfold mapErr at h
  split at h
  · rename_i h0
    obtain ⟨eW, eH⟩ := firstNZ_two h0
    have hW := rangeErr_zero eW
    have hH := rangeErr_zero eH
    split at h
    · rename_i hA
      refine ⟨hW.1, hW.2, hH.1, hH.2, hA, fun j hj => smpErr_zero (firstNZ_all h _ ?_)⟩
      refine List.mem_map.2 ⟨xs[j]?.getD 0, ?_, rfl⟩
      rw [List.getElem?_eq_getElem (by omega)]
      exact List.getElem_mem _
    · cases h
  · rename_i h0; exact absurd h h0

theorem errs_at (xs : List Nat) {j : Nat} (hj : j < xs.length) : (xs.map smpErr)[j]?.getD 0 = smpErr (xs[j]?.getD 0) := by
  simp [hj]

set_option maxHeartbeats 1600000 in
theorem checkSamples_all (b o n c : Nat) (xs : List Nat) (hx : xs.length = n) (hm : n ≤ 4611686018427387904) (w : World)
    (hc : ∀ j, j < n → w.cell? ⟨b, o + j, none⟩ = some (.float .f32 (xs[j]?.getD 0))) :
    Calls Tryz.prog 10 #[.slice (some ⟨b, o, none⟩) n c] w fun e w' => e = .returned (.int .i64 (firstNZ (xs.map smpErr))) ∧ w = w' := by
  have Hx := Lib.hid hx
  have Hc := Lib.hid hc
  clear hc hx
  go_enter Tryz.func10, Tryz.ntmps10
  go_wp2
  go_loop [3] (fun i => ∃ k : Nat, k ≤ n ∧ i = .int .i64 k ∧ Hid (∀ j, j < k → (xs.map smpErr).getD j 0 = 0)) (fun i => n - (intOf i).toNat)
  case atStart => exact ⟨0, Nat.zero_le _, rfl, fun j hj => absurd hj (by omega)⟩
  case round =>
    obtain ⟨k, hk, rfl, hh⟩ := hrel
    by_cases hlt : k < n
    · have hcell := Hc.out k hlt
      have hat : (xs.map smpErr).getD k 0 = smpErr (xs[k]?.getD 0) := by rw [List.getD_eq_getElem?_getD]; exact errs_at xs (by rw [Hx.out]; exact hlt)
      have Hat := Lib.hid hat
      clear hat
      by_cases h0 : smpErr (xs[k]?.getD 0) = 0
      · have e0 : (smpErr (xs[k]?.getD 0) != 0) = false := by simp [h0]
        have H0 := Lib.hid h0
        clear h0
        go_wp2_with (go_at_call 47; refine (refCheckSample_all _ _).mono ?_; rintro e w' ⟨rfl, rfl⟩)
        go_round
        case rel => exact ⟨k + 1, by omega, by go_num, fun j hj => by
          by_cases hjk : j < k
          · exact hh.out j hjk
          · obtain rfl : j = k := by omega
            rw [Hat.out]; exact H0.out⟩
        case measure => simp [intOf]; omega
      · have e0 : (smpErr (xs[k]?.getD 0) != 0) = true := by simp [h0]
        have H0 := Lib.hid h0
        clear h0
        go_wp2_with (go_at_call 47; refine (refCheckSample_all _ _).mono ?_; rintro e w' ⟨rfl, rfl⟩)
        go_ret
        exact ⟨ret_int (by rw [firstNZ_at (by rw [List.length_map, Hx.out]; exact hlt) hh.out (by rw [Hat.out]; exact H0.out), Hat.out]), rfl⟩
    · go_wp2
      go_ret
      exact ⟨ret_int (firstNZ_end fun j hj => hh.out j (by rw [List.length_map] at hj; have := Hx.out; omega)).symm, rfl⟩

set_option maxHeartbeats 2000000 in
set_option maxRecDepth 100000 in
theorem mapped_all {w : World} (b o n c : Nat) (xs : List Nat) (hx : xs.length = n) (hn : n ≤ 4096) (hb : b < w.heap.size)
    (hc : ∀ j, j < n → w.cell? ⟨b, o + j, none⟩ = some (.float .f32 (xs[j]?.getD 0))) (hs : ∀ j, j < n → xs[j]?.getD 0 < 2 ^ 32) :
    Calls Tryz.prog 42 #[.slice (some ⟨b, o, none⟩) n c, .func (.func 43) #[] #[]] w fun e w' =>
      e = .returned (.slice (some ⟨w.heap.size, 0, none⟩) n n) ∧ w'.ownsRow w.heap.size 27 1 (.slice (some ⟨w.heap.size, 0, none⟩) n n) n (xs.map (fun x => Value.int .i64 (smpErr x))) ∧ Below w.heap.size w w' := by
  obtain ⟨i0, hi, hz0, hz1, hz2⟩ := info_parts Tryz.info27_check
  have Hx := Lib.hid hx
  have Hc := Lib.hid hc
  have Hs := Lib.hid hs
  clear hx hc hs
  go_enter Tryz.func42, Tryz.ntmps42
  go_wp2_with (at_make; refine wpList_make_own _ rfl _ _ 102 rfl w.heap.size 27 i0 (.int .i64 0) 1 Tryz.underlying102 hi hz0 hz1 _ _ _ n rfl rfl (by omega) ?b2 ?b3 (Nat.le_refl _) ?_)
  case b2 => rw [hz2]; omega
  case b3 => unfold maxLen; omega
  intro w0 hown0 hgrow0
  go_wp2
  go_loopw [5, 13] (fun out i wr => ∃ k : Nat, k ≤ n ∧ i = .int .i64 k ∧ out = .slice (some ⟨w.heap.size, 0, none⟩) k n ∧
      wr.ownsRow w.heap.size 27 1 (.slice (some ⟨w.heap.size, 0, none⟩) k n) k ((xs.take k).map (fun x => Value.int .i64 (smpErr x))) ∧ Below w.heap.size w wr)
    (fun _ i _ => n - (intOf i).toNat)
  case atStart => exact ⟨0, Nat.zero_le _, rfl, rfl, hown0, (Below.refl _ _).grown hgrow0 (Nat.le_refl _) (fun k h => by cases h)⟩
  case round =>
    obtain ⟨k, hk, rfl, rfl, hown, hnx⟩ := hrel
    by_cases hlt : k < n
    · have hcell : wr.cell? ⟨b, o + k, none⟩ = some (.float .f32 (xs[k]?.getD 0)) := (hnx.cell (by exact hb)).trans (Hc.out k hlt)
      have K := Lib.hid (Hs.out k hlt)
      have hsz := hnx.size
      go_wp2_with (first
        | (go_at_call 43; refine (checkSample_all _ K.out _).mono ?_; rintro e w' ⟨rfl, rfl | rfl⟩)
        | (at_builtin; refine wpList_append_fits _ rfl (.tmp 17) (.tmp 21) 102 rfl w.heap.size 27 i0 1 Tryz.underlying102 hi hz1 w.heap.size k n _ rfl (hown.alloc _) ⟨wr.heap.size, 0, none⟩ 1 1 [.int .i64 (smpErr (xs[k]?.getD 0))] rfl rfl (cell_one_new _ _ _) (by intro u hu; simp at hu; subst hu; rfl) (by omega) ?_; intro w1 hown1 hgrow1)
        | (at_builtin; refine wpList_append_fits _ rfl (.tmp 17) (.tmp 21) 102 rfl w.heap.size 27 i0 1 Tryz.underlying102 hi hz1 w.heap.size k n _ rfl (hown.alloc _).drew ⟨wr.heap.size, 0, none⟩ 1 1 [.int .i64 (smpErr (xs[k]?.getD 0))] rfl rfl (cell_one_new _ _ _) (by intro u hu; simp at hu; subst hu; rfl) (by omega) ?_; intro w1 hown1 hgrow1))
      all_goals
        go_roundw
        case rel => first
          | exact ⟨k + 1, by omega, by go_num, rfl, by rw [take_map_succ (fun x => Value.int .i64 (smpErr x)) xs k (by have := Hx.out; omega) 0]; exact hown1, (hnx.alloc hnx.size _).grown hgrow1 (by simp; omega) (fun j hj => by cases hj; exact Nat.le_refl _)⟩
          | exact ⟨k + 1, by omega, by go_num, rfl, by rw [take_map_succ (fun x => Value.int .i64 (smpErr x)) xs k (by have := Hx.out; omega) 0]; exact hown1, (hnx.alloc hnx.size _).drew.grown hgrow1 (by simp; omega) (fun j hj => by cases hj; exact Nat.le_refl _)⟩
        case measure => simp [intOf]; omega
    · go_wp2
      go_ret
      obtain rfl : k = n := by omega
      rw [List.take_of_length_le (by have := Hx.out; omega)] at hown
      exact ⟨rfl, hown, hnx⟩


set_option maxRecDepth 100000 in
set_option maxHeartbeats 6400000 in
theorem refCheckMap_all (W H : Int) (a : Option Addr) (n c : Nat) (xs : List Nat) (hx : xs.length = n) (w : World)
    (hs : ∀ j, j < n → ∃ b o, a = some ⟨b, o, none⟩ ∧ b < w.heap.size ∧ ∀ j, j < n → w.cell? ⟨b, o + j, none⟩ = some (.float .f32 (xs[j]?.getD 0))) :
    Calls Tryz.prog 19 #[.agg #[.int .i64 W, .int .i64 H, .slice a n c]] w fun e w' => e = .returned (.int .i64 (mapErr W H n xs)) ∧ Below w.heap.size w w' := by
  have Hs := Lib.hid hs
  have Hx := Lib.hid hx
  clear hs hx
  unfold mapErr
  by_cases hne : firstNZ [rangeErr W 1 64, rangeErr H 1 64] = 0
  · rw [if_pos hne]
    obtain ⟨eW, eH⟩ := firstNZ_two hne
    have hW := rangeErr_zero eW
    have hH := rangeErr_zero eH
    have e0 : (firstNZ [rangeErr W 1 64, rangeErr H 1 64] != 0) = false := by simp [hne]
    have hmul0 : 1 ≤ W * H := by
      have := Int.mul_le_mul hW.1 hH.1 (by omega) (by omega)
      omega
    have hmul1 : W * H ≤ 4096 := by
      have := Int.mul_le_mul hW.2 hH.2 (by omega) (by omega)
      omega
    clear hne eW eH
    by_cases hA : W * H = n
    · rw [if_pos hA]
      have e1 : ((n : Int) != W * H) = false := by rw [hA]; simp
      obtain ⟨b, o, ha, hb, hc⟩ := Hs.out 0 (by omega)
      subst ha
      have HA := Lib.hid hA
      have Hc := Lib.hid hc
      have hsm : n ≤ 4096 := by omega
      clear hA hc Hs
      go_enter Tryz.func19, Tryz.ntmps19
      go_wp2_with fail
      go_region_held3 (fun w' => w'.cell? ⟨w.heap.size, 0, none⟩ = some (.int .i64 W) ∧ w'.cell? ⟨w.heap.size, 1, none⟩ = some (.int .i64 H))
        (go_keep)
        (first
          | ((go_at_call_of 79 (Value.int .i64 W); refine (refCheckSide_any _ _).mono ?_; rintro e w' ⟨rfl, rfl⟩))
          | ((go_at_call_of 79 (Value.int .i64 H); refine (refCheckSide_any _ _).mono ?_; rintro e w' ⟨rfl, rfl⟩))
          | ((go_at_call 78; refine (refFirst_any _ 0 2 2 [rangeErr W 1 64, rangeErr H 1 64] rfl (by omega) _ ?_).mono ?_; rotate_left 1; rintro e w' ⟨rfl, rfl⟩; rotate_left 1; (intro j hj; match j, hj with | 0, _ => simp [go_sem] | 1, _ => simp [go_sem]))))

      all_goals
        go_wp2_with ((go_at_call 10; refine (checkSamples_all b o n c xs Hx.out (by omega) _ (fun j hj => ?_)).mono ?_; rotate_left 1; rintro e w' ⟨rfl, rfl⟩; rotate_left 1; exact ((((Below.refl _ w).alloc (Nat.le_refl _) _).alloc (by simp) _).drew.cell (by exact hb)).trans (Hc.out j hj)))
        go_ret
        exact ⟨rfl, (((Below.refl _ w).alloc (Nat.le_refl _) _).alloc (by simp) _).drew⟩
    · rw [if_neg hA]
      have e1 : ((n : Int) != W * H) = true := by simp; omega
      clear hA
      go_enter Tryz.func19, Tryz.ntmps19
      go_wp2_with fail
      go_region_held3 (fun w' => w'.cell? ⟨w.heap.size, 0, none⟩ = some (.int .i64 W) ∧ w'.cell? ⟨w.heap.size, 1, none⟩ = some (.int .i64 H))
        (go_keep)
        (first
          | ((go_at_call_of 79 (Value.int .i64 W); refine (refCheckSide_any _ _).mono ?_; rintro e w' ⟨rfl, rfl⟩))
          | ((go_at_call_of 79 (Value.int .i64 H); refine (refCheckSide_any _ _).mono ?_; rintro e w' ⟨rfl, rfl⟩))
          | ((go_at_call 78; refine (refFirst_any _ 0 2 2 [rangeErr W 1 64, rangeErr H 1 64] rfl (by omega) _ ?_).mono ?_; rotate_left 1; rintro e w' ⟨rfl, rfl⟩; rotate_left 1; (intro j hj; match j, hj with | 0, _ => simp [go_sem] | 1, _ => simp [go_sem]))))

      all_goals
        go_wp2
        go_ret
        exact ⟨rfl, (((Below.refl _ w).alloc (Nat.le_refl _) _).alloc (by simp) _).drew⟩
  · rw [if_neg hne]
    have e0 : (firstNZ [rangeErr W 1 64, rangeErr H 1 64] != 0) = true := by simp [hne]
    clear hne Hs
    go_enter Tryz.func19, Tryz.ntmps19
    go_wp2_with fail
    go_region_held3 (fun w' => w'.cell? ⟨w.heap.size, 0, none⟩ = some (.int .i64 W) ∧ w'.cell? ⟨w.heap.size, 1, none⟩ = some (.int .i64 H))
      (go_keep)
      (first
        | ((go_at_call_of 79 (Value.int .i64 W); refine (refCheckSide_any _ _).mono ?_; rintro e w' ⟨rfl, rfl⟩))
        | ((go_at_call_of 79 (Value.int .i64 H); refine (refCheckSide_any _ _).mono ?_; rintro e w' ⟨rfl, rfl⟩))
        | ((go_at_call 78; refine (refFirst_any _ 0 2 2 [rangeErr W 1 64, rangeErr H 1 64] rfl (by omega) _ ?_).mono ?_; rotate_left 1; rintro e w' ⟨rfl, rfl⟩; rotate_left 1; (intro j hj; match j, hj with | 0, _ => simp [go_sem] | 1, _ => simp [go_sem]))))

    all_goals
      go_wp2
      go_ret
      exact ⟨rfl, (((Below.refl _ w).alloc (Nat.le_refl _) _).alloc (by simp) _).drew⟩

set_option maxRecDepth 100000 in
set_option maxHeartbeats 6400000 in
theorem checkMap_all (W H : Int) (a : Option Addr) (n c : Nat) (xs : List Nat) (hx : xs.length = n) (w : World)
    (hwd : ∀ j, j < n → xs[j]?.getD 0 < 2 ^ 32)
    (hs : ∀ j, j < n → ∃ b o, a = some ⟨b, o, none⟩ ∧ b < w.heap.size ∧ ∀ j, j < n → w.cell? ⟨b, o + j, none⟩ = some (.float .f32 (xs[j]?.getD 0))) :
    Calls Tryz.prog 65 #[.agg #[.int .i64 W, .int .i64 H, .slice a n c]] w fun e w' => e = .returned (.int .i64 (mapErr W H n xs)) ∧ Below w.heap.size w w' := by
  have Hs := Lib.hid hs
  have Hx := Lib.hid hx
  have Hwd := Lib.hid hwd
  clear hs hx hwd
  unfold mapErr
  by_cases hne : firstNZ [rangeErr W 1 64, rangeErr H 1 64] = 0
  · rw [if_pos hne]
    obtain ⟨eW, eH⟩ := firstNZ_two hne
    have hW := rangeErr_zero eW
    have hH := rangeErr_zero eH
    have e0 : (firstNZ [rangeErr W 1 64, rangeErr H 1 64] != 0) = false := by simp [hne]
    have hmul0 : 1 ≤ W * H := by
      have := Int.mul_le_mul hW.1 hH.1 (by omega) (by omega)
      omega
    have hmul1 : W * H ≤ 4096 := by
      have := Int.mul_le_mul hW.2 hH.2 (by omega) (by omega)
      omega
    clear hne eW eH
    by_cases hA : W * H = n
    · rw [if_pos hA]
      have e1 : ((n : Int) != W * H) = false := by rw [hA]; simp
      obtain ⟨b, o, ha, hb, hc⟩ := Hs.out 0 (by omega)
      subst ha
      have hsm : n ≤ 4096 := by omega
      have KM : ∀ w1 : World, Below w.heap.size w w1 → w1.heap.size = w.heap.size + 2 → Calls Tryz.prog 42 #[.slice (some ⟨b, o, none⟩) n c, .func (.func 43) #[] #[]] w1 fun e w' =>
          e = .returned (.slice (some ⟨w.heap.size + 2, 0, none⟩) n n) ∧ w'.ownsRow (w.heap.size + 2) 27 1 (.slice (some ⟨w.heap.size + 2, 0, none⟩) n n) n (xs.map (fun x => Value.int .i64 (smpErr x))) ∧ Below (w.heap.size + 2) w1 w' := by
        intro w1 h1 hs1
        rw [← hs1]
        exact mapped_all b o n c xs Hx.out hsm (by omega) (fun j hj => (h1.cell (by exact hb)).trans (hc j hj)) Hwd.out
      have HM := Lib.hid KM
      clear KM hA hc Hs
      go_enter Tryz.func65, Tryz.ntmps65
      go_wp2_with fail
      go_region_held3 (fun w' => w'.cell? ⟨w.heap.size, 0, none⟩ = some (.int .i64 W) ∧ w'.cell? ⟨w.heap.size, 1, none⟩ = some (.int .i64 H))
        (go_keep)
        (first
          | ((go_at_call_of 84 (Value.int .i64 W); refine (checkSide_any _ _).mono ?_; rintro e w' ⟨rfl, rfl⟩))
          | ((go_at_call_of 84 (Value.int .i64 H); refine (checkSide_any _ _).mono ?_; rintro e w' ⟨rfl, rfl⟩))
          | ((go_at_call 41; refine (first_any _ 0 2 2 [rangeErr W 1 64, rangeErr H 1 64] rfl (by omega) _ ?_).mono ?_; rotate_left 1; rintro e w' ⟨rfl, rfl⟩; rotate_left 1; (intro j hj; match j, hj with | 0, _ => simp [go_sem] | 1, _ => simp [go_sem]))))

      all_goals
        go_wp2_with (first
          | (go_at_call 42; refine (HM.out _ ?_ ?_).mono ?_; rotate_left 2; rintro e w' ⟨rfl, hown, hb1⟩; rotate_left 1; exact (((Below.refl _ w).alloc (Nat.le_refl _) _).alloc (by simp) _).drew; simp)
          | (go_at_call 41; refine (first_any _ 0 n n (xs.map smpErr) (by rw [List.length_map]; exact Hx.out) (by omega) _ (fun j hj => by rw [Nat.zero_add]; exact owns_cell hown (by have := Hx.out; simp [this, hj]))).mono ?_; rintro e w' ⟨rfl, rfl⟩))
        go_ret
        exact ⟨rfl, (((Below.refl _ w).alloc (Nat.le_refl _) _).alloc (by simp) _).drew.trans (hb1.mono (by omega))⟩
    · rw [if_neg hA]
      have e1 : ((n : Int) != W * H) = true := by simp; omega
      clear hA
      go_enter Tryz.func65, Tryz.ntmps65
      go_wp2_with fail
      go_region_held3 (fun w' => w'.cell? ⟨w.heap.size, 0, none⟩ = some (.int .i64 W) ∧ w'.cell? ⟨w.heap.size, 1, none⟩ = some (.int .i64 H))
        (go_keep)
        (first
          | ((go_at_call_of 84 (Value.int .i64 W); refine (checkSide_any _ _).mono ?_; rintro e w' ⟨rfl, rfl⟩))
          | ((go_at_call_of 84 (Value.int .i64 H); refine (checkSide_any _ _).mono ?_; rintro e w' ⟨rfl, rfl⟩))
          | ((go_at_call 41; refine (first_any _ 0 2 2 [rangeErr W 1 64, rangeErr H 1 64] rfl (by omega) _ ?_).mono ?_; rotate_left 1; rintro e w' ⟨rfl, rfl⟩; rotate_left 1; (intro j hj; match j, hj with | 0, _ => simp [go_sem] | 1, _ => simp [go_sem]))))

      all_goals
        go_wp2
        go_ret
        exact ⟨rfl, (((Below.refl _ w).alloc (Nat.le_refl _) _).alloc (by simp) _).drew⟩
  · rw [if_neg hne]
    have e0 : (firstNZ [rangeErr W 1 64, rangeErr H 1 64] != 0) = true := by simp [hne]
    clear hne Hs
    go_enter Tryz.func65, Tryz.ntmps65
    go_wp2_with fail
    go_region_held3 (fun w' => w'.cell? ⟨w.heap.size, 0, none⟩ = some (.int .i64 W) ∧ w'.cell? ⟨w.heap.size, 1, none⟩ = some (.int .i64 H))
      (go_keep)
      (first
        | ((go_at_call_of 84 (Value.int .i64 W); refine (checkSide_any _ _).mono ?_; rintro e w' ⟨rfl, rfl⟩))
        | ((go_at_call_of 84 (Value.int .i64 H); refine (checkSide_any _ _).mono ?_; rintro e w' ⟨rfl, rfl⟩))
        | ((go_at_call 41; refine (first_any _ 0 2 2 [rangeErr W 1 64, rangeErr H 1 64] rfl (by omega) _ ?_).mono ?_; rotate_left 1; rintro e w' ⟨rfl, rfl⟩; rotate_left 1; (intro j hj; match j, hj with | 0, _ => simp [go_sem] | 1, _ => simp [go_sem]))))

    all_goals
      go_wp2
      go_ret
      exact ⟨rfl, (((Below.refl _ w).alloc (Nat.le_refl _) _).alloc (by simp) _).drew⟩

end Go.Proofs.YtfpagmalblmnkaaGreatDoor
