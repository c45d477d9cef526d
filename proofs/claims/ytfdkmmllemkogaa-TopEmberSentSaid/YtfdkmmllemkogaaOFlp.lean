/-
  Plain facts on samples: a sample's word stands for an integer over 16; what Go's conversions, comparisons, products and quotients make of it.
  Condition: the hypotheses written at each theorem (sizes of the integers).
-/
import Derived.Test.YtfdkmmllemkogaaOWa
import Derived.Laws.BitsAllLaws
namespace Go.Proofs.Ytfdkmmllemkogaa
open Ieee

theorem two32 : Two single := .inl rfl
theorem two64 : Two double := .inr rfl

/-- x is a word of float32 that stands for k/16 (0 has two words). -/
def Smp (x : Nat) (k : Int) : Prop := ∃ s, IsNum single x s (k.natAbs * 2 ^ 145) ∧ (k < 0 → s = true) ∧ (0 < k → s = false)

theorem sgn_smp {s : Bool} {k : Int} (c : Nat) (h1 : k < 0 → s = true) (h2 : 0 < k → s = false) : sgn s (k.natAbs * c) = k * c := by
  rw [sgn_mul]
  congr 1
  unfold sgn
  cases s
  · simp only [Bool.false_eq_true, if_false]
    have : ¬ k < 0 := fun h => by have := h1 h; cases this
    omega
  · simp only [if_true]
    have : ¬ 0 < k := fun h => by have := h2 h; cases this
    omega

theorem Smp.order {x y : Nat} {k l : Int} (hx : Smp x k) (hy : Smp y l) : single.order x y = some (compare k l) := by
  obtain ⟨s, h, h1, h2⟩ := hx
  obtain ⟨t, g, g1, g2⟩ := hy
  rw [h.order g, sgn_smp _ h1 h2, sgn_smp _ g1 g2, compare_mul_pos _ _ _ (Nat.two_pow_pos _)]

theorem pow_split {v a b : Nat} (h : v < 2 ^ a) : v * 2 ^ b < 2 ^ (a + b) := by
  rw [Nat.pow_add]; exact (Nat.mul_lt_mul_right (Nat.two_pow_pos _)).2 h

/-- int(x * 16), the factor on either side. -/
theorem Smp.int16 {x : Nat} {k : Int} (hx : Smp x k) (hk : k.natAbs < 2 ^ 40) :
    ∃ r, floatBits .mul .f32 x 1098907648 = some r ∧ floatBits .mul .f32 1098907648 x = some r ∧ floatToIntVal .f32 r .i64 = some k := by
  obtain ⟨s, h, h1, h2⟩ := hx
  have hc : single.read 1098907648 = .number false (2 ^ single.fractionBits) (((4 : Nat) : Int) - single.fractionBits) := by decide +kernel
  obtain ⟨r, m1, m2, m3⟩ := h.mul_pow two32 hc (by
    have e : k.natAbs * 2 ^ 145 * 2 ^ 4 = k.natAbs * 2 ^ 149 := by rw [Nat.mul_assoc]
    rw [e]
    exact Nat.lt_trans (pow_split hk) (by decide +kernel))
  refine ⟨r, m1, m2, ?_⟩
  have ht := m3.toInt (by decide)
  have e : k.natAbs * 2 ^ 145 * 2 ^ 4 / 2 ^ (-single.leastPlace).toNat = k.natAbs * 1 := by
    have e1 : k.natAbs * 2 ^ 145 * 2 ^ 4 = k.natAbs * 2 ^ 149 := by rw [Nat.mul_assoc]
    have e2 : (-single.leastPlace).toNat = 149 := by decide
    rw [e1, e2, Nat.mul_div_cancel _ (Nat.two_pow_pos _), Nat.mul_one]
  rw [e, sgn_smp 1 h1 h2] at ht
  have ht' : (FloatKind.f32.decode r).toInt .zero = some k := by rw [show ((1 : Nat) : Int) = 1 from rfl, Int.mul_one] at ht; exact ht
  unfold floatToIntVal
  rw [ht']
  have h40 : k.natAbs < 1099511627776 := hk
  have : IntKind.i64.min ≤ k ∧ k ≤ IntKind.i64.max := by
    have e1 : IntKind.i64.min = -9223372036854775808 := by decide
    have e2 : IntKind.i64.max = 9223372036854775807 := by decide
    rw [e1, e2]; omega
  simp only [this, and_self, if_true]

/-- float32(n). -/
theorem isNum_ofInt (n : Int) (hn : n.natAbs < 2 ^ 24) : IsNum single (floatOfInt .f32 n) (decide (n < 0)) (n.natAbs * 2 ^ 149) := by
  have h := isNum_nearest two32 (decide (n < 0)) n.natAbs 0 0 hn (by decide) (by
    have e : ((0 : Int) - single.leastPlace).toNat = 149 := by decide
    rw [e]; exact Nat.lt_trans (pow_split hn) (by decide +kernel))
  have e : ((0 : Int) - single.leastPlace).toNat = 149 := by decide
  rw [e] at h
  simpa [floatOfInt, FloatKind.nearest, FloatKind.encode, Format.write, FloatKind.format] using h

/-- float32(n) / 16. -/
theorem div16 (n : Int) (hn : n.natAbs < 2 ^ 24) : ∃ r, floatBits .quo .f32 (floatOfInt .f32 n) 1098907648 = some r ∧ Smp r n := by
  obtain ⟨m, e, h1, h2, h3, h4⟩ := isNum_ofInt n hn
  have hL : single.leastPlace = -149 := by decide
  have hc : single.read 1098907648 = .number false (2 ^ 23) (-19) := by decide +kernel
  have h3' : m < 2 ^ 24 := h3
  rw [hL] at h2 h4
  have hlog : (2 ^ 23 : Nat).log2 = 23 := by decide +kernel
  by_cases h0 : n = 0
  · subst h0
    have hm : m = 0 := by
      have : m * 2 ^ (e - -149).toNat = 0 := by rw [h4]; simp
      rcases Nat.mul_eq_zero.1 this with h | h
      · exact h
      · exact absurd h (by have := Nat.two_pow_pos (e - -149).toNat; omega)
    subst hm
    refine ⟨single.word false 0, ?_, ?_⟩
    · show single.div _ _ = _
      unfold Format.div
      rw [h1, hc]
      simp [Datum.quotient, Format.write, nearest_zero]
    · refine ⟨false, ⟨0, single.leastPlace, by decide +kernel, Int.le_refl _, by decide, by simp⟩, by omega, by omega⟩
  · have hm0 : m ≠ 0 := by
      rintro rfl
      rw [Nat.zero_mul] at h4
      rcases Nat.mul_eq_zero.1 h4.symm with h | h
      · omega
      · exact absurd h (by have := Nat.two_pow_pos 149; omega)
    have hml : m.log2 ≤ 23 := log2_le_of_lt hm0 h3
    have he : -145 ≤ e := by
      refine Classical.byContradiction fun hh => ?_
      have k1 : m * 2 ^ (e - -149).toNat < 2 ^ (24 + 4) := by
        refine Nat.lt_of_lt_of_le (pow_split h3') (Nat.pow_le_pow_right (by omega) (by omega))
      rw [h4] at k1
      have k2 : 2 ^ 149 ≤ n.natAbs * 2 ^ 149 := Nat.le_mul_of_pos_left _ (by omega)
      have k3 : (2 : Nat) ^ 149 < 2 ^ (24 + 4) := Nat.lt_of_le_of_lt k2 k1
      have := (Nat.pow_lt_pow_iff_right (show 1 < 2 by omega)).1 k3
      omega
    have hmax : m * 2 ^ (e - 4 - single.leastPlace).toNat < 2 ^ (single.fractionBits + 2 ^ single.exponentBits - 2) := by
      refine Nat.lt_of_le_of_lt (Nat.mul_le_mul_left _ (Nat.pow_le_pow_right (by omega) (show (e - 4 - single.leastPlace).toNat ≤ (e - -149).toNat by omega))) ?_
      rw [h4]
      exact Nat.lt_trans (pow_split hn) (by decide +kernel)
    have hk := isNum_nearest two32 (decide (n < 0)) m (25 + 23 - m.log2 - 22) (e - 4) h3 (by omega) hmax
    refine ⟨single.nearest (decide (n < 0)) (m * 2 ^ (25 + 23 - m.log2 - 22)) (e - 4 - ((25 + 23 - m.log2 - 22 : Nat) : Int)), ?_, decide (n < 0), ?_, by simp, by simp; omega⟩
    rotate_left
    · have ev : m * 2 ^ (e - 4 - single.leastPlace).toNat = n.natAbs * 2 ^ 145 := by
        have e1 : (e - -149).toNat = (e - 4 - single.leastPlace).toNat + 4 := by omega
        rw [e1, Nat.pow_add, ← Nat.mul_assoc] at h4
        have e2 : n.natAbs * 2 ^ 149 = n.natAbs * 2 ^ 145 * 2 ^ 4 := by rw [Nat.mul_assoc]
        rw [e2] at h4
        exact Nat.eq_of_mul_eq_mul_right (by decide) h4
      rw [ev] at hk
      exact hk
    · show single.div _ _ = _
      unfold Format.div
      rw [h1, hc]
      have hsplit : m <<< (25 + 23 - m.log2) = m * 2 ^ (25 + 23 - m.log2 - 23) * 2 ^ 23 := by
        rw [Nat.shiftLeft_eq, Nat.mul_assoc, ← Nat.pow_add]; congr 2; omega
      have hd : m <<< (25 + 23 - m.log2) / 2 ^ 23 = m * 2 ^ (25 + 23 - m.log2 - 23) := by rw [hsplit]; exact Nat.mul_div_cancel _ (by decide)
      have hr : m <<< (25 + 23 - m.log2) % 2 ^ 23 = 0 := by rw [hsplit]; exact Nat.mul_mod_left _ _
      have hne : ¬ (2 ^ 23 : Nat) = 0 := by decide
      simp only [Datum.quotient, hne, if_false, Option.map_some, Format.write, Bool.xor_false, hlog, show single.fractionBits + 2 = 25 from rfl, hd, hr]
      congr 2
      · have : (25 + 23 - m.log2 - 22 : Nat) = (25 + 23 - m.log2 - 23) + 1 := by omega
        rw [this, Nat.pow_succ]
        simp [Nat.mul_comm, Nat.mul_left_comm]
      · omega

/-- The word that 'float32(n) / 16' gives. -/
def smpOf (n : Int) : Nat := (floatBits .quo .f32 (floatOfInt .f32 n) 1098907648).getD 0
theorem smpOf_run (n : Int) (hn : n.natAbs < 2 ^ 24) : floatBits .quo .f32 (floatOfInt .f32 n) 1098907648 = some (smpOf n) := by
  obtain ⟨r, h, _⟩ := div16 n hn
  unfold smpOf; rw [h]; rfl
theorem smpOf_smp (n : Int) (hn : n.natAbs < 2 ^ 24) : Smp (smpOf n) n := by
  obtain ⟨r, h, hs⟩ := div16 n hn
  unfold smpOf; rw [h]; exact hs
end Go.Proofs.Ytfdkmmllemkogaa

/-
  Plain facts on float64: what the words of Go's conversion from float32, of a product with 16, of a number cut towards zero and of an absolute value stand for.
  Condition: the hypotheses written at each theorem (sizes of the numbers).
-/
namespace Go.Proofs.Ytfdkmmllemkogaa
open Ieee

theorem mul_pow_join (m a b c : Nat) (h : a + b = c) : m * 2 ^ a * 2 ^ b = m * 2 ^ c := by
  subst h; rw [Nat.mul_assoc, ← Nat.pow_add]
theorem pow_split_lt {v a b c : Nat} (h : v < 2 ^ a) (hc : a + b < c) : v * 2 ^ b < 2 ^ c :=
  Nat.lt_trans (pow_split h) ((Nat.pow_lt_pow_iff_right (by omega)).2 hc)

theorem sgn_le {a b c : Nat} (h : a ≤ b) : sgn false (a * c) ≤ sgn false (b * c) := by
  unfold sgn; simp only [Bool.false_eq_true, if_false]; exact Int.ofNat_le.2 (Nat.mul_le_mul_right _ h)
theorem sgn_le' {a b : Nat} (h : a ≤ b) : sgn false a ≤ sgn false b := by
  unfold sgn; simp only [Bool.false_eq_true, if_false]; exact Int.ofNat_le.2 h

theorem toF64 {x : Nat} {s : Bool} {v : Nat} (a : Nat) (h : IsNum single x s v) (hv : v < 2 ^ a) (ha : a ≤ 277) : ∃ d, floatToFloatBits .f32 x .f64 = some d ∧ IsNum double d s (v * 2 ^ 925) := by
  generalize hu : (925 : Nat) = u
  obtain ⟨m, e, h1, h2, h3, rfl⟩ := h
  have hL : single.leastPlace = -149 := by decide
  have hD : double.leastPlace = -1074 := by decide
  have ev : m * 2 ^ (e - single.leastPlace).toNat * 2 ^ u = m * 2 ^ (e - double.leastPlace).toNat := by
    exact mul_pow_join m _ u _ (by omega)
  have h3' : m < 2 ^ (double.fractionBits + 1) := Nat.lt_of_lt_of_le h3 (by decide +kernel)
  have hk := isNum_nearest two64 s m 0 e h3' (by omega) (by
    rw [← ev]
    exact pow_split_lt hv (by subst hu; show a + 925 < 2098; omega))
  have e0 : e - ((0 : Nat) : Int) = e := by omega
  rw [Nat.pow_zero, Nat.mul_one, e0] at hk
  refine ⟨double.nearest s m e, ?_, by rw [ev]; exact hk⟩
  obtain ⟨m', e', k1, _⟩ := hk
  unfold floatToFloatBits
  have hne : ¬ FloatKind.f32 = FloatKind.f64 := by decide
  have hdec : FloatKind.f32.decode x = .number s m e := h1
  have henc : FloatKind.f64.encode (.number s m e) = double.nearest s m e := rfl
  have hdec2 : FloatKind.f64.decode (double.nearest s m e) = .number s m' e' := k1
  simp only [hne, if_false, hdec, henc, hdec2, Datum.isInfinity]
  simp

theorem IsNum.self {f : Format} {x : Nat} {s : Bool} {v : Nat} (h : IsNum f x s v) : f.order x x = some .eq := by
  rw [h.order h]
  congr 1
  show compareOfLessAndEq _ _ = _
  unfold compareOfLessAndEq; simp

theorem IsNum.gt_false {f : Format} {x y : Nat} {s t : Bool} {v u : Nat} (h : IsNum f x s v) (g : IsNum f y t u) (hle : sgn s v ≤ sgn t u) : (f.order x y == some .gt) = false := by
  rw [h.order g]
  have : compare (sgn s v) (sgn t u) ≠ .gt := by
    show compareOfLessAndEq _ _ ≠ _
    unfold compareOfLessAndEq
    split
    · simp
    · split
      · simp
      · omega
  cases hc : compare (sgn s v) (sgn t u) <;> simp_all

theorem IsNum.le_true {f : Format} {x y : Nat} {s t : Bool} {v u : Nat} (h : IsNum f x s v) (g : IsNum f y t u) (hle : sgn s v ≤ sgn t u) : (f.order x y == some .lt || f.order x y == some .eq) = true := by
  rw [h.order g]
  have : compare (sgn s v) (sgn t u) ≠ .gt := by
    show compareOfLessAndEq _ _ ≠ _
    unfold compareOfLessAndEq
    split
    · simp
    · split
      · simp
      · omega
  cases hc : compare (sgn s v) (sgn t u) <;> simp_all

theorem IsNum.eq_true {f : Format} {x y : Nat} {s : Bool} {v : Nat} (h : IsNum f x s v) (g : IsNum f y s v) : (f.order x y == some .eq) = true := by
  rw [h.order g]
  have : compare (sgn s v) (sgn s v) = .eq := by
    show compareOfLessAndEq _ _ = _
    unfold compareOfLessAndEq; simp
  rw [this]; rfl

/-- d without its sign. -/
theorem IsNum.abs64 {d : Nat} {s : Bool} {v : Nat} (h : IsNum double d s v) : IsNum double (d % 9223372036854775808) false v := by
  obtain ⟨m, e, h1, h2, h3, h4⟩ := h
  refine ⟨m, e, ?_, h2, h3, h4⟩
  have hs : double.signWeight = 9223372036854775808 := by decide +kernel
  unfold Format.read at h1 ⊢
  simp only [hs] at h1 ⊢
  have e1 : d % 9223372036854775808 / 9223372036854775808 = 0 := Nat.div_eq_of_lt (Nat.mod_lt _ (by omega))
  have e2 : d % 9223372036854775808 % 9223372036854775808 = d % 9223372036854775808 := Nat.mod_mod _ _
  rw [e1, e2]
  split at h1
  · rename_i hlt
    simp only [Datum.number.injEq] at h1
    rw [if_pos hlt, h1.2.1, h1.2.2]; rfl
  · rename_i hlt
    split at h1
    · rename_i hlt2
      simp only [Datum.number.injEq] at h1
      rw [if_neg hlt, if_pos hlt2, h1.2.1, h1.2.2]; rfl
    · split at h1 <;> cases h1

theorem andNot_top (d : Nat) (hd : d < 18446744073709551616) : bits BinOp.andNot IntKind.u64 (d : Int) 9223372036854775808 = ((d % 9223372036854775808 : Nat) : Int) := by
  rw [show (9223372036854775808 : Int) = ((9223372036854775808 : Nat) : Int) from rfl, u64_andNot_nat d 9223372036854775808 hd (by omega)]
  congr 1
  have e : (18446744073709551615 - 9223372036854775808 : Nat) = 2 ^ 63 - 1 := by decide
  rw [e, Nat.and_two_pow_sub_one_eq_mod]

/-- math.Trunc of an integer. -/
theorem trunc_int {d : Nat} {s : Bool} {k : Nat} (h : IsNum double d s (k * 2 ^ 1074)) (hk : k < 2 ^ 53) :
    ∃ t, (FloatKind.f64.decode d).integral .zero = .number s k 0 ∧ FloatKind.f64.encode (.number s k 0) = t ∧ IsNum double t s (k * 2 ^ 1074) := by
  generalize hu : (1074 : Nat) = u at *
  have e : ((0 : Int) - double.leastPlace).toNat = u := by subst hu; decide
  have hg := isNum_nearest two64 s k 0 0 hk (by decide) (by
    rw [e]; exact pow_split_lt hk (by subst hu; decide))
  rw [e, Nat.pow_zero, Nat.mul_one] at hg
  refine ⟨_, ?_, rfl, hg⟩
  have hD : double.leastPlace = -1074 := by decide
  obtain ⟨m, i, h1, h2, _, h4⟩ := h
  rw [hD] at h2 h4
  have h1' : FloatKind.f64.decode d = .number s m i := h1
  rw [h1']
  simp only [Datum.integral, cut_zero]
  congr 1
  rw [Nat.shiftLeft_eq]
  by_cases hi : 0 ≤ i
  · have e1 : (-i).toNat = 0 := by omega
    rw [e1, Nat.pow_zero, Nat.div_one]
    have e2 : m * 2 ^ i.toNat * 2 ^ u = m * 2 ^ (i - -1074).toNat := mul_pow_join m _ u _ (by omega)
    rw [← e2] at h4
    exact Nat.eq_of_mul_eq_mul_right (Nat.two_pow_pos u) h4
  · have e1 : i.toNat = 0 := by omega
    rw [e1, Nat.pow_zero, Nat.mul_one]
    have e2 : (1074 : Nat) = (i - -1074).toNat + (-i).toNat := by omega
    have e3 : k * 2 ^ u = k * 2 ^ (-i).toNat * 2 ^ (i - -1074).toNat := (mul_pow_join k _ _ u (by omega)).symm
    rw [e3] at h4
    have h5 := Nat.eq_of_mul_eq_mul_right (Nat.two_pow_pos _) h4
    rw [h5, Nat.mul_div_cancel _ (Nat.two_pow_pos _)]

theorem mul16_64 {d : Nat} {s : Bool} {v : Nat} (a : Nat) (h : IsNum double d s v) (hv : v < 2 ^ a) (ha : a ≤ 2000) : ∃ r, floatBits .mul .f64 d 4625196817309499392 = some r ∧ IsNum double r s (v * 2 ^ 4) := by
  have hc : double.read 4625196817309499392 = .number false (2 ^ double.fractionBits) (((4 : Nat) : Int) - double.fractionBits) := by decide +kernel
  obtain ⟨r, m1, _, m3⟩ := h.mul_pow two64 hc (pow_split_lt hv (show a + 4 < 2098 by omega))
  exact ⟨r, m1, m3⟩

theorem max16384 : IsNum double 4670232813583204352 false (16384 * 2 ^ 1074) := by
  have e : double.read 4670232813583204352 = .number false (2 ^ 52) (-38) := by decide +kernel
  refine ⟨2 ^ 52, -38, e, by decide, by decide, ?_⟩
  have e2 : ((-38 : Int) - double.leastPlace).toNat = 1036 := by decide
  rw [e2]
  generalize hv : (1074 : Nat) = v
  generalize hu : (1036 : Nat) = u
  have e3 : (1 : Nat) * 2 ^ 52 * 2 ^ u = 1 * 2 ^ (52 + u) := mul_pow_join 1 52 u _ rfl
  have e4 : (1 : Nat) * 2 ^ 14 * 2 ^ v = 1 * 2 ^ (14 + v) := mul_pow_join 1 14 v _ rfl
  rw [Nat.one_mul, Nat.one_mul] at e3 e4
  rw [e3, show (16384 : Nat) = 2 ^ 14 from rfl, e4]; congr 1; omega
theorem le_max16384 {n a : Nat} {s : Bool} (h : IsNum double n s (a * 2 ^ 1074)) (ha : a ≤ 16384) : (double.order (n % 9223372036854775808) 4670232813583204352 == some .lt || double.order (n % 9223372036854775808) 4670232813583204352 == some .eq) = true := by
  have hm := max16384
  generalize hv : (1074 : Nat) = v at h hm
  exact h.abs64.le_true hm (sgn_le ha)
theorem max64 : IsNum double 9218868437227405311 false ((2 ^ 53 - 1) * 2 ^ 2045) := ⟨2 ^ 53 - 1, 971, by decide +kernel, by decide, by decide +kernel, by decide +kernel⟩
theorem max64_ge {v a : Nat} (h : v < 2 ^ a) (ha : a ≤ 2097) : v ≤ (2 ^ 53 - 1) * 2 ^ 2045 := by
  generalize hu : (2045 : Nat) = u
  have e : (2 : Nat) ^ a ≤ 2 ^ 52 * 2 ^ u := by rw [← Nat.pow_add]; exact Nat.pow_le_pow_right (by omega) (by omega)
  exact Nat.le_trans (Nat.le_of_lt h) (Nat.le_trans e (Nat.mul_le_mul_right _ (by decide)))
end Go.Proofs.Ytfdkmmllemkogaa
