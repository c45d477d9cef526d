/-
  Plain mathematics of spreading: what each cell has behind all rounds; sums over a grid.
-/
import Derived.Test.YtfdkmmllemkogaaGreatDoorOXi
import Derived.Test.YtfdkmmllemkogaaGreatDoorOWa
import Derived.Test.YtfdkmmllemkogaaGreatDoorOWf
import Derived.Laws.ComplexArith
import Derived.Test.YtfdkmmllemkogaaGreatDoorOZd
import Derived.Test.YtfdkmmllemkogaaGreatDoorOVk
namespace Go.Proofs.YtfdkmmllemkogaaGreatDoor
open Go.RowKit
set_option linter.unusedVariables false

/-! ### Sums -/
def sumTo : Nat → (Nat → Int) → Int
  | 0, _ => 0
  | n + 1, f => sumTo n f + f n
theorem sumTo_congr {n : Nat} {f g : Nat → Int} (h : ∀ i, i < n → f i = g i) : sumTo n f = sumTo n g := by
  induction n with
  | zero => rfl
  | succ n ih => simp only [sumTo]; rw [ih fun i hi => h i (by omega), h n (by omega)]
theorem sumTo_add (n : Nat) (f g : Nat → Int) : sumTo n (fun i => f i + g i) = sumTo n f + sumTo n g := by
  induction n with
  | zero => rfl
  | succ n ih => simp only [sumTo]; rw [ih]; omega
theorem sumTo_zero (n : Nat) : sumTo n (fun _ => 0) = 0 := by
  induction n with
  | zero => rfl
  | succ n ih => simp only [sumTo]; rw [ih]; rfl
theorem sumTo_comm (n m : Nat) (f : Nat → Nat → Int) : sumTo n (fun i => sumTo m (fun j => f i j)) = sumTo m (fun j => sumTo n (fun i => f i j)) := by
  induction n with
  | zero => simp only [sumTo]; rw [sumTo_zero]
  | succ n ih => simp only [sumTo]; rw [ih, ← sumTo_add]
theorem sumTo_split (n m : Nat) (f : Nat → Int) : sumTo (n + m) f = sumTo n f + sumTo m (fun i => f (n + i)) := by
  induction m with
  | zero => simp [sumTo]
  | succ m ih => rw [← Nat.add_assoc]; simp only [sumTo]; rw [ih]; omega
theorem sumTo_grid (H W : Nat) (f : Nat → Int) : sumTo (H * W) f = sumTo H (fun y => sumTo W (fun x => f (y * W + x))) := by
  induction H with
  | zero => simp [sumTo]
  | succ H ih => rw [Nat.succ_mul, sumTo_split, ih]; simp only [sumTo]
theorem sum_range (n : Nat) (f : Nat → Int) : ((List.range n).map f).sum = sumTo n f := by
  induction n with
  | zero => rfl
  | succ n ih => rw [List.range_succ, List.map_append, List.sum_append, ih]; simp [sumTo]
theorem sum_get (ks : List Int) : ks.sum = sumTo ks.length (fun j => ks[j]?.getD 0) := by
  have h : (List.range ks.length).map (fun j => ks[j]?.getD 0) = ks := by
    refine List.ext_getElem (by simp) fun i h1 h2 => ?_
    simp [h2]
  rw [← sum_range, h]

end Go.Proofs.YtfdkmmllemkogaaGreatDoor

/-
  Plain mathematics of maps: spreading in closed form; flips, turns and spreading commute, and keep sums.
-/

namespace Go.Proofs.YtfdkmmllemkogaaGreatDoor
open Go.RowKit
set_option linter.unusedVariables false

def sum2 (W H : Nat) (f : Nat → Nat → Int) : Int := sumTo H (fun y => sumTo W (fun x => f x y))
theorem sum2_congr {W H : Nat} {f g : Nat → Nat → Int} (h : ∀ x y, x < W → y < H → f x y = g x y) : sum2 W H f = sum2 W H g :=
  sumTo_congr fun y hy => sumTo_congr fun x hx => h x y hx hy
end Go.Proofs.YtfdkmmllemkogaaGreatDoor

/-
  Exact sums, products by 1, -1 and 0, and conversions of floats that stand for integers of one unit.
-/

namespace Go.Proofs.YtfdkmmllemkogaaGreatDoor
open Go.RowKit
open Ieee (Format single double Datum signed)
set_option linter.unusedVariables false
set_option linter.unusedSimpArgs false

/-- The word stands for the integer z in units of 2 ^ U least places. -/
def Val (f : Format) (x : Nat) (z : Int) (U : Nat) : Prop := ∃ s, IsNum f x s (z.natAbs * 2 ^ U) ∧ (z < 0 → s = true) ∧ (0 < z → s = false)
theorem Val.smp {x : Nat} {k : Int} (h : Smp x k) : Val single x k 145 := h
theorem Val.zero {f : Format} {x : Nat} {U : Nat} {s : Bool} (h : IsNum f x s 0) : Val f x 0 U := ⟨s, by simpa using h, by omega, by omega⟩
theorem sgn_val {s : Bool} {z : Int} (c : Nat) (h1 : z < 0 → s = true) (h2 : 0 < z → s = false) : sgn s (z.natAbs * c) = z * c := sgn_smp c h1 h2

theorem signed_val {f : Format} {s : Bool} {m : Nat} {i base : Int} (h1 : f.leastPlace ≤ base) (h2 : base ≤ i) :
    signed s m (i - base).toNat * ((2 ^ (base - f.leastPlace).toNat : Nat) : Int) = sgn s (m * 2 ^ (i - f.leastPlace).toNat) := by
  rw [signed_eq, ← sgn_mul, Nat.mul_assoc, ← Nat.pow_add]
  congr 3
  omega

/-- A sum that needs no more digits than there are is exact. -/
theorem num_sum {f : Format} (hf : Two f) (s t : Bool) (m n : Nat) (i j : Int) (hi : f.leastPlace ≤ i) (hj : f.leastPlace ≤ j) (z : Int) (U : Nat)
    (hz : sgn s (m * 2 ^ (i - f.leastPlace).toNat) + sgn t (n * 2 ^ (j - f.leastPlace).toNat) = z * ((2 ^ U : Nat) : Int)) (ha : z.natAbs < 2 ^ (f.fractionBits + 1)) (hU : f.fractionBits + 1 + U ≤ f.fractionBits + 2 ^ f.exponentBits - 2) :
    ∃ r, ((Datum.number s m i).sum (.number t n j)).map f.write = some r ∧ Val f r z U := by
  obtain ⟨base, hb⟩ : ∃ base, min i j = base := ⟨_, rfl⟩
  have hb1 : f.leastPlace ≤ base := by omega
  have hb2 : base ≤ i := by omega
  have hb3 : base ≤ j := by omega
  obtain ⟨T, hT⟩ : ∃ T, signed s m (i - base).toNat + signed t n (j - base).toNat = T := ⟨_, rfl⟩
  obtain ⟨B, hB⟩ : ∃ B, (base - f.leastPlace).toNat = B := ⟨_, rfl⟩
  have e : T * ((2 ^ B : Nat) : Int) = z * ((2 ^ U : Nat) : Int) := by
    rw [← hz, ← hT, Int.add_mul, ← hB, signed_val hb1 hb2, signed_val hb1 hb3]
  have pB : (0 : Int) < ((2 ^ B : Nat) : Int) := by have := Nat.two_pow_pos B; omega
  have pU : (0 : Int) < ((2 ^ U : Nat) : Int) := by have := Nat.two_pow_pos U; omega
  have en : T.natAbs * 2 ^ B = z.natAbs * 2 ^ U := by
    have := congrArg Int.natAbs e
    rwa [Int.natAbs_mul, Int.natAbs_mul, Int.natAbs_natCast, Int.natAbs_natCast] at this
  have hmax : z.natAbs * 2 ^ U < 2 ^ (f.fractionBits + 2 ^ f.exponentBits - 2) := Nat.lt_of_lt_of_le (pow_split ha) (Nat.pow_le_pow_right (by omega) hU)
  refine ⟨f.nearest (if T = 0 then s && t else decide (T < 0)) T.natAbs base, ?_, ?_⟩
  · simp only [Datum.sum, hb, Option.map_some, Format.write, hT]
  · have hs1 : T = 0 ↔ z = 0 := by
      constructor
      · intro h; rw [h, Int.zero_mul] at e
        rcases Int.mul_eq_zero.1 e.symm with h | h
        · exact h
        · omega
      · intro h; rw [h, Int.zero_mul] at e
        rcases Int.mul_eq_zero.1 e with h | h
        · exact h
        · omega
    have hs2 : T < 0 ↔ z < 0 := by
      constructor
      · intro h
        have := Int.mul_neg_of_neg_of_pos h pB
        rw [e] at this
        exact Int.not_le.1 fun h0 => by have := Int.mul_nonneg h0 (Int.le_of_lt pU); omega
      · intro h
        have := Int.mul_neg_of_neg_of_pos h pU
        rw [← e] at this
        exact Int.not_le.1 fun h0 => by have := Int.mul_nonneg h0 (Int.le_of_lt pB); omega
    obtain ⟨σ, hσ⟩ : ∃ σ, (if T = 0 then s && t else decide (T < 0)) = σ := ⟨_, rfl⟩
    have hσ1 : z < 0 → σ = true := fun h => by
      have h1 : ¬ T = 0 := fun h0 => by have := hs1.1 h0; omega
      rw [← hσ, if_neg h1]; exact decide_eq_true (hs2.2 h)
    have hσ2 : 0 < z → σ = false := fun h => by
      have h1 : ¬ T = 0 := fun h0 => by have := hs1.1 h0; omega
      rw [← hσ, if_neg h1]; exact decide_eq_false (fun h2 => by have := hs2.1 h2; omega)
    refine ⟨σ, ?_, hσ1, hσ2⟩
    rw [hσ]
    by_cases hBU : B ≤ U
    · have eT : T.natAbs = z.natAbs * 2 ^ (U - B) := by
        have h1 : z.natAbs * 2 ^ U = z.natAbs * 2 ^ (U - B) * 2 ^ B := by rw [Nat.mul_assoc, ← Nat.pow_add]; congr 2; omega
        rw [h1] at en
        exact Nat.eq_of_mul_eq_mul_right (Nat.two_pow_pos _) en
      have k := isNum_nearest hf σ z.natAbs (U - B) (base + ((U - B : Nat) : Int)) ha (by omega) (by
        rw [show (base + ((U - B : Nat) : Int) - f.leastPlace).toNat = U by omega]; exact hmax)
      rw [show (base + ((U - B : Nat) : Int) - f.leastPlace).toNat = U by omega, show base + ((U - B : Nat) : Int) - ((U - B : Nat) : Int) = base by omega, ← eT] at k
      exact k
    · have eT : T.natAbs * 2 ^ (B - U) = z.natAbs := by
        have h1 : T.natAbs * 2 ^ B = T.natAbs * 2 ^ (B - U) * 2 ^ U := by rw [Nat.mul_assoc, ← Nat.pow_add]; congr 2; omega
        rw [h1] at en
        exact Nat.eq_of_mul_eq_mul_right (Nat.two_pow_pos _) en
      have hle : T.natAbs ≤ z.natAbs := by rw [← eT]; exact Nat.le_mul_of_pos_right _ (Nat.two_pow_pos _)
      have k := isNum_nearest hf σ T.natAbs 0 base (by omega) hb1 (by rw [hB, en]; exact hmax)
      rw [hB, en, Nat.pow_zero, Nat.mul_one, show base - ((0 : Nat) : Int) = base by omega] at k
      exact k
theorem Val.add {f : Format} (hf : Two f) {x y : Nat} {k l : Int} {U : Nat} (hx : Val f x k U) (hy : Val f y l U) (ha : (k + l).natAbs < 2 ^ (f.fractionBits + 1)) (hU : f.fractionBits + 1 + U ≤ f.fractionBits + 2 ^ f.exponentBits - 2) :
    ∃ r, f.add x y = some r ∧ Val f r (k + l) U := by
  obtain ⟨s, ⟨m, i, h1, h2, h3, h4⟩, hs1, hs2⟩ := hx
  obtain ⟨t, ⟨n, j, g1, g2, g3, g4⟩, gs1, gs2⟩ := hy
  unfold Format.add
  rw [h1, g1]
  refine num_sum hf s t m n i j h2 g2 (k + l) U ?_ ha hU
  rw [h4, g4, sgn_val _ hs1 hs2, sgn_val _ gs1 gs2, Int.add_mul]
theorem Val.sub {f : Format} (hf : Two f) {x y : Nat} {k l : Int} {U : Nat} (hx : Val f x k U) (hy : Val f y l U) (ha : (k - l).natAbs < 2 ^ (f.fractionBits + 1)) (hU : f.fractionBits + 1 + U ≤ f.fractionBits + 2 ^ f.exponentBits - 2) :
    ∃ r, f.sub x y = some r ∧ Val f r (k - l) U := by
  obtain ⟨s, ⟨m, i, h1, h2, h3, h4⟩, hs1, hs2⟩ := hx
  obtain ⟨t, ⟨n, j, g1, g2, g3, g4⟩, gs1, gs2⟩ := hy
  unfold Format.sub
  rw [h1, g1]
  refine num_sum hf s (!t) m n i j h2 g2 (k - l) U ?_ ha hU
  have e : sgn (!t) (n * 2 ^ (j - f.leastPlace).toNat) = -(l * ((2 ^ U : Nat) : Int)) := by
    rw [g4, ← sgn_val _ gs1 gs2]
    unfold sgn
    cases t <;> simp
  rw [e, h4, sgn_val _ hs1 hs2, Int.sub_mul]
  omega

/-- Times 1, -1 or 0. -/
def UnitW (f : Format) (c : Nat) (q : Int) : Prop := (∃ t, f.read c = .number t (2 ^ f.fractionBits) (-(f.fractionBits : Int)) ∧ q = if t then -1 else 1) ∨ (∃ t e, f.read c = .number t 0 e ∧ q = 0)
theorem Val.mulU {f : Format} (hf : Two f) {x c : Nat} {k q : Int} {U : Nat} (hx : Val f x k U) (hc : UnitW f c q) (ha : k.natAbs < 2 ^ (f.fractionBits + 1)) (hU : f.fractionBits + 1 + U ≤ f.fractionBits + 2 ^ f.exponentBits - 2) :
    ∃ r, f.mul x c = some r ∧ Val f r (k * q) U := by
  obtain ⟨s, ⟨m, i, h1, h2, h3, h4⟩, hs1, hs2⟩ := hx
  rcases hc with ⟨t, hc, rfl⟩ | ⟨t, e, hc, rfl⟩
  · have hmax : m * 2 ^ (i - f.leastPlace).toNat < 2 ^ (f.fractionBits + 2 ^ f.exponentBits - 2) := by
      rw [h4]; exact Nat.lt_of_lt_of_le (pow_split ha) (Nat.pow_le_pow_right (by omega) hU)
    have h := isNum_nearest hf (s ^^ t) m f.fractionBits i h3 h2 hmax
    rw [h4] at h
    refine ⟨f.nearest (s ^^ t) (m * 2 ^ f.fractionBits) (i - (f.fractionBits : Int)), ?_, s ^^ t, ?_, ?_, ?_⟩
    · unfold Format.mul
      rw [h1, hc]
      simp only [Datum.product, Option.map_some, Format.write]
      rw [show i + -(f.fractionBits : Int) = i - (f.fractionBits : Int) by omega]
    · have e : (k * if t then -1 else 1).natAbs = k.natAbs := by cases t <;> simp
      rw [e]; exact h
    · cases t
      · simp; exact hs1
      · simp; intro hk; exact hs2 hk
    · cases t
      · simp; exact hs2
      · simp; intro hk; exact hs1 hk
  · refine ⟨f.word (s ^^ t) 0, ?_, ?_⟩
    · unfold Format.mul
      rw [h1, hc]
      simp only [Datum.product, Option.map_some, Format.write, Nat.mul_zero, nearest_zero]
    · rw [Int.mul_zero]
      have h := isNum_nearest hf (s ^^ t) 0 0 f.leastPlace (Nat.two_pow_pos _) (Int.le_refl _) (by rw [Nat.zero_mul]; exact Nat.two_pow_pos _)
      rw [Nat.zero_mul, nearest_zero, Nat.zero_mul] at h
      exact Val.zero h

/-- From float32 to float64 and back. -/
theorem Val.to64 {x : Nat} {k : Int} (h : Smp x k) (hk : k.natAbs < 2 ^ 24) : ∃ d, floatToFloatBits .f32 x .f64 = some d ∧ Val double d k 1070 := by
  obtain ⟨s, h1, h2, h3⟩ := h
  obtain ⟨d, hd, hn⟩ := toF64 (24 + 145) h1 (pow_split hk) (by decide)
  refine ⟨d, hd, s, ?_, h2, h3⟩
  have e : k.natAbs * 2 ^ 145 * 2 ^ 925 = k.natAbs * 2 ^ 1070 := mul_pow_join _ 145 925 1070 rfl
  rw [e] at hn
  exact hn
theorem Val.to32 {d : Nat} {k : Int} (h : Val double d k 1070) (hk : k.natAbs < 2 ^ 24) : ∃ x, floatToFloatBits .f64 d .f32 = some x ∧ Smp x k := by
  obtain ⟨s, ⟨m, e, h1, h2, h3, h4⟩, hs1, hs2⟩ := h
  have hD : double.leastPlace = -1074 := by decide
  have hS : single.leastPlace = -149 := by decide
  have hpos : 0 < 2 ^ (e - double.leastPlace).toNat := Nat.two_pow_pos _
  -- the number as k sixteenths: written at the place -4
  have hmax : k.natAbs * 2 ^ ((-4 : Int) - single.leastPlace).toNat < 2 ^ (single.fractionBits + 2 ^ single.exponentBits - 2) := by
    rw [hS]; exact Nat.lt_of_lt_of_le (pow_split hk) (Nat.pow_le_pow_right (by omega) (by decide))
  obtain ⟨E, hE⟩ : ∃ E, (e - double.leastPlace).toNat = E := ⟨_, rfl⟩
  rw [hE] at h4
  by_cases hEU : E ≤ 1070
  · have em : m = k.natAbs * 2 ^ (1070 - E) := by
      have h5 := fun (U : Nat) (hU : E ≤ U) => (mul_pow_join k.natAbs (U - E) E U (by omega)).symm
      rw [h5 1070 hEU] at h4
      exact Nat.eq_of_mul_eq_mul_right (Nat.two_pow_pos _) h4
    have q := isNum_nearest two32 s k.natAbs (1070 - E) (-4) hk (by omega) hmax
    rw [show ((-4 : Int) - ((1070 - E : Nat) : Int)) = e by omega, ← em, show ((-4 : Int) - single.leastPlace).toNat = 145 by rw [hS]; rfl] at q
    refine ⟨single.nearest s m e, ?_, s, q, hs1, hs2⟩
    obtain ⟨m', e', k1, _⟩ := q
    unfold floatToFloatBits
    have hne : ¬ FloatKind.f64 = FloatKind.f32 := by decide
    have hdec : FloatKind.f64.decode d = .number s m e := h1
    have henc : FloatKind.f32.encode (.number s m e) = single.nearest s m e := rfl
    have hdec2 : FloatKind.f32.decode (single.nearest s m e) = .number s m' e' := k1
    simp only [hne, if_false, hdec, henc, hdec2, Datum.isInfinity]
    simp
  · have em : m * 2 ^ (E - 1070) = k.natAbs := by
      have h5 := fun (U : Nat) (hU : U ≤ E) => (mul_pow_join m (E - U) U E (by omega)).symm
      rw [h5 1070 (by omega)] at h4
      exact Nat.eq_of_mul_eq_mul_right (Nat.two_pow_pos _) h4
    have hm : m < 2 ^ 24 := Nat.lt_of_le_of_lt (by rw [← em]; exact Nat.le_mul_of_pos_right _ (Nat.two_pow_pos _)) hk
    have ev : m * 2 ^ (e - single.leastPlace).toNat = k.natAbs * 2 ^ 145 := by
      rw [← em]
      exact (mul_pow_join m _ _ _ (by rw [hS]; rw [hD] at hE; omega)).symm
    have q := isNum_nearest two32 s m 0 e hm (by rw [hS]; rw [hD] at hE; omega) (by
      rw [ev]; exact Nat.lt_of_lt_of_le (pow_split hk) (Nat.pow_le_pow_right (by omega) (by decide)))
    rw [Nat.pow_zero, Nat.mul_one, show e - ((0 : Nat) : Int) = e by omega, ev] at q
    refine ⟨single.nearest s m e, ?_, s, q, hs1, hs2⟩
    obtain ⟨m', e', k1, _⟩ := q
    unfold floatToFloatBits
    have hne : ¬ FloatKind.f64 = FloatKind.f32 := by decide
    have hdec : FloatKind.f64.decode d = .number s m e := h1
    have henc : FloatKind.f32.encode (.number s m e) = single.nearest s m e := rfl
    have hdec2 : FloatKind.f32.decode (single.nearest s m e) = .number s m' e' := k1
    simp only [hne, if_false, hdec, henc, hdec2, Datum.isInfinity]
    simp
end Go.Proofs.YtfdkmmllemkogaaGreatDoor

/-
  Sums of complex numbers, and their products with the powers of -i, where the parts are multiples of 1/16: exact.
-/
namespace Go.Proofs.YtfdkmmllemkogaaGreatDoor
open Go.RowKit
open Ieee (Format single double Datum signed)
set_option linter.unusedVariables false
set_option linter.unusedSimpArgs false

theorem run_conv {P : Program} (w : World) {src dst : FloatKind} {x d : Nat} (hne : ¬ src = dst) (h : floatToFloatBits src x dst = some d) : (Op.Complex.conv src x dst).run P w = .ok d w := by
  unfold floatToFloatBits at h
  rw [if_neg hne] at h
  unfold Op.Complex.conv
  rw [if_neg hne]
  unfold Conv.floatToFloat
  rw [if_neg hne]
  split at h
  · cases h
  · rename_i s hs
    cases h
    simp [hs]
  · rename_i s m e hs
    split at h
    · cases h
    · rename_i hi
      cases h
      simp [hs, hi]

/-- What -i to the power of n is. -/
def powRe (n : Nat) : Int := match n with | 0 => 1 | 1 => 0 | 2 => -1 | _ => 0
def powIm (n : Nat) : Int := match n with | 0 => 0 | 1 => -1 | 2 => 0 | _ => 1
/-- The words of the powers of -i. -/
def powWR (n : Nat) : Nat := match n with | 0 => 1065353216 | 1 => 0 | 2 => 3212836864 | _ => 0
def powWI (n : Nat) : Nat := match n with | 0 => 0 | 1 => 3212836864 | 2 => 0 | _ => 1065353216
theorem powL_words {n : Nat} (hn : n < 4) : powL[n]? = some (.complex .f32 (powWR n) (powWI n)) := by
  match n, hn with
  | 0, _ => rfl
  | 1, _ => rfl
  | 2, _ => rfl
  | 3, _ => rfl
theorem unit_one : UnitW double 4607182418800017408 1 := .inl ⟨false, by decide +kernel, rfl⟩
theorem unit_neg : UnitW double 13830554455654793216 (-1) := .inl ⟨true, by decide +kernel, rfl⟩
theorem unit_zero : UnitW double 0 0 := .inr ⟨false, -1074, by decide +kernel, rfl⟩
theorem conv_one : floatToFloatBits .f32 1065353216 .f64 = some 4607182418800017408 := by decide +kernel
theorem conv_neg : floatToFloatBits .f32 3212836864 .f64 = some 13830554455654793216 := by decide +kernel
theorem conv_zero : floatToFloatBits .f32 0 .f64 = some 0 := by decide +kernel
theorem pow_conv {n : Nat} (hn : n < 4) : ∃ c d, floatToFloatBits .f32 (powWR n) .f64 = some c ∧ floatToFloatBits .f32 (powWI n) .f64 = some d ∧ UnitW double c (powRe n) ∧ UnitW double d (powIm n) := by
  match n, hn with
  | 0, _ => exact ⟨_, _, conv_one, conv_zero, unit_one, unit_zero⟩
  | 1, _ => exact ⟨_, _, conv_zero, conv_neg, unit_zero, unit_neg⟩
  | 2, _ => exact ⟨_, _, conv_neg, conv_zero, unit_neg, unit_zero⟩
  | 3, _ => exact ⟨_, _, conv_zero, conv_one, unit_zero, unit_one⟩
theorem pow_small {n : Nat} (hn : n < 4) : (powRe n = 0 ∨ powRe n = 1 ∨ powRe n = -1) ∧ (powIm n = 0 ∨ powIm n = 1 ∨ powIm n = -1) := by
  match n, hn with
  | 0, _ => decide
  | 1, _ => decide
  | 2, _ => decide
  | 3, _ => decide
theorem mul_small {k q : Int} {M : Nat} (hk : k.natAbs ≤ M) (hq : q = 0 ∨ q = 1 ∨ q = -1) : (k * q).natAbs ≤ M := by
  rcases hq with rfl | rfl | rfl
  · simp
  · simpa using hk
  · simpa using hk

/-- The product with a power of -i. -/
theorem cmul_pow (P : Program) (t : TypeId) {x y : Nat} {k l : Int} (hx : Smp x k) (hy : Smp y l) (hk : k.natAbs ≤ 4194304) (hl : l.natAbs ≤ 4194304) {n : Nat} (hn : n < 4) :
    ∃ e f, (∀ w : World, (binOp .mul t (.complex .f32 x y) (.complex .f32 (powWR n) (powWI n))).run P w = .ok (.complex .f32 e f) w) ∧ Smp e (k * powRe n - l * powIm n) ∧ Smp f (k * powIm n + l * powRe n) := by
  obtain ⟨c, d, hc, hd, uc, ud⟩ := pow_conv hn
  obtain ⟨p1, p2⟩ := pow_small hn
  have hw : (4194304 : Nat) < 2 ^ 24 := by decide
  obtain ⟨a, ha, va⟩ := Val.to64 hx (Nat.lt_of_le_of_lt hk hw)
  obtain ⟨b, hb, vb⟩ := Val.to64 hy (Nat.lt_of_le_of_lt hl hw)
  have hU : double.fractionBits + 1 + 1070 ≤ double.fractionBits + 2 ^ double.exponentBits - 2 := by decide
  have h53 : (8388608 : Nat) < 2 ^ (double.fractionBits + 1) := by decide
  have q1 := mul_small hk p1
  have q2 := mul_small hl p2
  have q3 := mul_small hk p2
  have q4 := mul_small hl p1
  obtain ⟨ac, h1, v1⟩ := va.mulU two64 uc (Nat.lt_of_le_of_lt hk (by omega)) hU
  obtain ⟨bd, h2, v2⟩ := vb.mulU two64 ud (Nat.lt_of_le_of_lt hl (by omega)) hU
  obtain ⟨re, h3, v3⟩ := Val.sub two64 v1 v2 (Nat.lt_of_le_of_lt (show _ ≤ 8388608 by omega) h53) hU
  obtain ⟨ad, h4, v4⟩ := va.mulU two64 ud (Nat.lt_of_le_of_lt hk (by omega)) hU
  obtain ⟨bc, h5, v5⟩ := vb.mulU two64 uc (Nat.lt_of_le_of_lt hl (by omega)) hU
  obtain ⟨im, h6, v6⟩ := Val.add two64 v4 v5 (Nat.lt_of_le_of_lt (show _ ≤ 8388608 by omega) h53) hU
  obtain ⟨e, h7, v7⟩ := Val.to32 v3 (Nat.lt_of_le_of_lt (show _ ≤ 8388608 by omega) (by decide))
  obtain ⟨f, h8, v8⟩ := Val.to32 v6 (Nat.lt_of_le_of_lt (show _ ≤ 8388608 by omega) (by decide))
  have g1 : floatBits .mul .f64 a c = some ac := h1
  have g2 : floatBits .mul .f64 b d = some bd := h2
  have g3 : floatBits .sub .f64 ac bd = some re := h3
  have g4 : floatBits .mul .f64 a d = some ad := h4
  have g5 : floatBits .mul .f64 b c = some bc := h5
  have g6 : floatBits .add .f64 ad bc = some im := h6
  have n1 : ¬ FloatKind.f32 = FloatKind.f64 := by decide
  have n2 : ¬ FloatKind.f64 = FloatKind.f32 := by decide
  refine ⟨e, f, fun w => ?_, v7, v8⟩
  simp [binOp, Op.complexOp, Op.Complex.product, Op.Complex.mul, Op.Complex.sub, Op.Complex.add, run_carith w g1, run_carith w g2, run_carith w g3, run_carith w g4, run_carith w g5, run_carith w g6, run_conv w n1 ha, run_conv w n1 hb, run_conv w n1 hc, run_conv w n1 hd, run_conv w n2 h7, run_conv w n2 h8]
/-- The sum. -/
theorem cadd_smp (P : Program) (t : TypeId) {x y x' y' : Nat} {k l k' l' : Int} (hx : Smp x k) (hy : Smp y l) (hx' : Smp x' k') (hy' : Smp y' l') (h1 : (k + k').natAbs < 2 ^ 24) (h2 : (l + l').natAbs < 2 ^ 24) :
    ∃ e f, (∀ w : World, (binOp .add t (.complex .f32 x y) (.complex .f32 x' y')).run P w = .ok (.complex .f32 e f) w) ∧ Smp e (k + k') ∧ Smp f (l + l') ∧ e < 2 ^ 32 ∧ f < 2 ^ 32 := by
  have hU : single.fractionBits + 1 + 145 ≤ single.fractionBits + 2 ^ single.exponentBits - 2 := by decide
  obtain ⟨e, g1, v1⟩ := Val.add two32 (Val.smp hx) (Val.smp hx') h1 hU
  obtain ⟨f, g2, v2⟩ := Val.add two32 (Val.smp hy) (Val.smp hy') h2 hU
  refine ⟨e, f, fun w => run_complex_sum w .add (.inl rfl) t .f32 x y x' y' e f ?_, v1, v2, by simpa [Lit.wf] using floatBits_wf (show floatBits .add .f32 x x' = some e from g1), by simpa [Lit.wf] using floatBits_wf (show floatBits .add .f32 y y' = some f from g2)⟩
  have k1 : floatBits .add .f32 x x' = some e := g1
  have k2 : floatBits .add .f32 y y' = some f := g2
  simp [cSumBits, k1, k2]
end Go.Proofs.YtfdkmmllemkogaaGreatDoor

/-
  Contracts of the program's IsFinite and IsMultiple at float64 and of checkNumber for any complex number.
-/

namespace Go.Proofs.YtfdkmmllemkogaaGreatDoor
open Go.RowKit
open Ieee (Format single double Datum signed)
set_option linter.unusedVariables false
set_option linter.unusedSimpArgs false

theorem max65536 : IsNum double 4679240012837945344 false (65536 * 2 ^ 1074) := by
  have e : double.read 4679240012837945344 = .number false (2 ^ 52) (-36) := by decide +kernel
  refine ⟨2 ^ 52, -36, e, by decide, by decide, ?_⟩
  have e2 : ((-36 : Int) - double.leastPlace).toNat = 1038 := by decide
  rw [e2]
  generalize hv : (1074 : Nat) = v
  generalize hu : (1038 : Nat) = u
  have e3 : (1 : Nat) * 2 ^ 52 * 2 ^ u = 1 * 2 ^ (52 + u) := mul_pow_join 1 52 u _ rfl
  have e4 : (1 : Nat) * 2 ^ 16 * 2 ^ v = 1 * 2 ^ (16 + v) := mul_pow_join 1 16 v _ rfl
  rw [Nat.one_mul, Nat.one_mul] at e3 e4
  rw [e3, show (65536 : Nat) = 2 ^ 16 from rfl, e4]; congr 1; omega
theorem large_iff4 (v : Nat) : v * 2 ^ 925 * 2 ^ 4 ≤ 65536 * 2 ^ 1074 ↔ v ≤ 4096 * 2 ^ 149 := by
  generalize hu : (925 : Nat) = u
  generalize hw : (1074 : Nat) = w
  rw [mul_pow_join v u 4 (u + 4) rfl]
  have e : 65536 * (2 : Nat) ^ w = 4096 * 2 ^ 149 * 2 ^ (u + 4) := by
    rw [show (4096 : Nat) = 2 ^ 12 from rfl, show (65536 : Nat) = 2 ^ 16 from rfl, ← Nat.pow_add, ← Nat.pow_add, ← Nat.pow_add]
    congr 1; omega
  rw [e]
  exact Nat.mul_le_mul_right_iff (Nat.two_pow_pos _)

theorem multiple_words4 {x : Nat} {s : Bool} {v : Nat} (h : IsNum single x s v) (hv : v ≤ 16777215 * 2 ^ 253) :
    ∃ d n t, floatToFloatBits .f32 x .f64 = some d ∧ IsNum double d s (v * 2 ^ 925) ∧ floatBits .mul .f64 d 4625196817309499392 = some n ∧
      (FloatKind.f64.decode n).integral .zero = .number s (v * 2 ^ 925 * 2 ^ 4 / 2 ^ 1074) 0 ∧ FloatKind.f64.encode (.number s (v * 2 ^ 925 * 2 ^ 4 / 2 ^ 1074) 0) = t ∧
      (double.order n t == some .eq) = decide (v % 2 ^ 145 = 0) ∧
      (double.order (n % 9223372036854775808) 4679240012837945344 == some .lt || double.order (n % 9223372036854775808) 4679240012837945344 == some .eq) = decide (v ≤ 4096 * 2 ^ 149) := by
  have hv2 : v < 2 ^ 277 := Nat.lt_of_le_of_lt hv (by decide +kernel)
  obtain ⟨d, h1, h2⟩ := toF64 277 h hv2 (by omega)
  have hb : v * 2 ^ 925 < 2 ^ (277 + 925) := by
    generalize hu : (925 : Nat) = u
    exact pow_split hv2
  obtain ⟨n, n1, n2⟩ := mul16_64 (277 + 925) h2 hb (by omega)
  have hb2 : v * 2 ^ 925 * 2 ^ 4 < 2 ^ 2097 := by
    generalize hu : (925 : Nat) = u at *
    generalize hw : (2097 : Nat) = w
    exact pow_split_lt hb (by omega)
  obtain ⟨t, t1, t2, t3⟩ := trunc_num n2 hb2
  refine ⟨d, n, t, h1, h2, n1, t1, t2, ?_, ?_⟩
  · rw [n2.eq_decide t3]
    exact decide_eq_decide.2 (fine_iff v)
  · rw [n2.abs64.le_decide max65536]
    exact decide_eq_decide.2 (large_iff4 v)

/-! ### The program's checks at float64 -/

theorem order_nan {d : Nat} (t : Nat) (h : ∃ a b, Ieee.double.read d = .nan a b) : FloatKind.f64.format.order d t = none := by
  obtain ⟨a, b, h⟩ := h
  show (Ieee.double.read d).order (Ieee.double.read t) = none
  rw [h]
  cases Ieee.double.read t <;> rfl
theorem nan_cut (t : Nat) : ∃ a b, Ieee.double.read ((t % 2) * 2 ^ 63 + 0x7ff0000000000000 + 1 + (t / 2) % (2 ^ 52 - 1)) = .nan a b := by
  have e1 : Ieee.double.signWeight = 9223372036854775808 := by decide +kernel
  have e2 : Ieee.double.infRung = 9218868437227405312 := by decide +kernel
  unfold Ieee.Format.read
  have e3 : Ieee.double.binade = 4503599627370496 := by decide +kernel
  simp only [e1, e2, e3]
  have h1 := Nat.mod_lt (t / 2) (show 0 < 2 ^ 52 - 1 by decide)
  have h2 := Nat.mod_lt t (show 0 < 2 by decide)
  generalize t / 2 % (2 ^ 52 - 1) = p at h1
  generalize t % 2 = q at h2
  have h3 : (q * 2 ^ 63 + 9218868437227405312 + 1 + p) % 9223372036854775808 = 9218868437227405312 + 1 + p := by omega
  rw [h3, if_neg (by omega), if_neg (by omega), if_neg (by omega)]
  exact ⟨_, _, rfl⟩
/-- What is no number stays none when it is multiplied. -/
theorem run_mul_nan {d : Nat} (h : ∃ a b, Ieee.double.read d = .nan a b) (y : Nat) (w : World) :
    ∃ n, (binOp .mul 183 (.float .f64 d) (.float .f64 y)).run Tryz.prog w = .ok (.float .f64 n) w.drew ∧ ∃ a b, Ieee.double.read n = .nan a b := by
  obtain ⟨a, b, h⟩ := h
  have hm : FloatKind.f64.format.mul d y = none := by
    show ((Ieee.double.read d).product (Ieee.double.read y)).map _ = none
    rw [h]
    cases Ieee.double.read y <;> rfl
  refine ⟨(Question.nanBits .f64 d y).cut (w.tape w.drawn (.nanBits .f64 d y)), ?_, nan_cut _⟩
  simp [binOp, Op.floatArith, hm, Question.forced]
theorem run_trunc_nan {n : Nat} (h : ∃ a b, Ieee.double.read n = .nan a b) (w : World) :
    ∃ t w', (callFunc 226 #[.float .f64 n]).run Tryz.prog w = .ok (.value (.float .f64 t)) w' ∧ (w = w' ∨ w.drew = w') := by
  obtain ⟨a, b, h⟩ := h
  have hd : FloatKind.f64.decode n = .nan a b := h
  rw [run_callFunc_extern Tryz.func226 (by kernel_rfl) (by kernel_rfl) (by kernel_rfl) (e := Extern.MathFloor.toIntegral "math.archTrunc" .zero) (by kernel_rfl)]
  have key : ∀ D : Ieee.Datum, FloatKind.f64.decode n = D → D = .nan a b → ∃ t w', (Extern.MathFloor.toIntegral "math.archTrunc" .zero #[.float .f64 n]).run Tryz.prog w = .ok (.float .f64 t) w' ∧ (w = w' ∨ w.drew = w') := by
    intro D hD hI
    subst hI
    by_cases hq : FloatKind.f64.format.quiet b = b
    · refine ⟨n, w, ?_, .inl rfl⟩
      show Sem.run Tryz.prog (Extern.MathFloor.toIntegral.match_1 (fun _ => Sem Value) (FloatKind.f64.decode n) _ _) w = _
      rw [hD]
      show Sem.run Tryz.prog (if FloatKind.f64.format.quiet b = b then _ else _) w = _
      rw [if_pos hq]; rfl
    · refine ⟨if (Question.extern "math.Floor,Ceil,Trunc,RoundToEven.signallingNaN kept" 2).cut (w.tape w.drawn (.extern "math.Floor,Ceil,Trunc,RoundToEven.signallingNaN kept" 2)) == 1 then n else FloatKind.f64.encode (.nan a (FloatKind.f64.format.quiet b)), w.drew, ?_, .inr rfl⟩
      show Sem.run Tryz.prog (Extern.MathFloor.toIntegral.match_1 (fun _ => Sem Value) (FloatKind.f64.decode n) _ _) w = _
      rw [hD]
      show Sem.run Tryz.prog (if FloatKind.f64.format.quiet b = b then _ else _) w = _
      rw [if_neg hq]
      simp [Question.forced]
  obtain ⟨t, w', h1, h2⟩ := key _ rfl hd
  exact ⟨t, w', by rw [h1]; rfl, h2⟩
/-- The error of a part of a complex number, up to 4096. -/
def finB (x : Nat) : Bool := match single.read x with
  | .number _ _ _ => true
  | _ => false
def mulB (x : Nat) : Bool := match single.read x with
  | .number _ m e => decide (m * 2 ^ (e - single.leastPlace).toNat ≤ 4096 * 2 ^ 149 ∧ m * 2 ^ (e - single.leastPlace).toNat % 2 ^ 145 = 0)
  | _ => false
def numErr (x y : Nat) : Int := if finB x = true ∧ finB y = true then if mulB x = true ∧ mulB y = true then 0 else 3 else 1
theorem finB_num {x : Nat} {s : Bool} {v : Nat} (h : IsNum single x s v) : finB x = true := by
  obtain ⟨m, e, h1, _⟩ := h
  unfold finB; rw [h1]
theorem mulB_num {x : Nat} {s : Bool} {v : Nat} (h : IsNum single x s v) : mulB x = decide (v ≤ 4096 * 2 ^ 149 ∧ v % 2 ^ 145 = 0) := by
  obtain ⟨m, e, h1, _, _, rfl⟩ := h
  unfold mulB; rw [h1]

/-- A number of float32, as it is converted to float64: which one it is. -/
def Wide (x d : Nat) : Prop :=
  (finB x = false ∧ mulB x = false ∧ ∃ a b, Ieee.double.read d = .nan a b) ∨
  (finB x = false ∧ mulB x = false ∧ (d = 9218868437227405312 ∨ d = 18442240474082181120)) ∨
  (∃ s v, IsNum single x s v ∧ v ≤ 16777215 * 2 ^ 253 ∧ floatToFloatBits .f32 x .f64 = some d ∧ x < 2 ^ 32)
theorem run_wide (x : Nat) (hx : x < 2 ^ 32) (w : World) :
    ∃ d w', (Conv.floatToFloat .f32 x .f64).run Tryz.prog w = .ok (.float .f64 d) w' ∧ Below w.heap.size w w' ∧ Wide x d := by
  have hne : ¬ FloatKind.f32 = FloatKind.f64 := by decide
  rcases smp_class x with ⟨a, b, hd⟩ | ⟨s, hd⟩ | ⟨s, v, hn, hv⟩
  · have hx' : FloatKind.f32.decode x = .nan a b := hd
    refine ⟨(Question.nanConv .f64 x).cut (w.tape w.drawn (.nanConv .f64 x)), w.drew, ?_, (Below.refl _ w).drew, .inl ⟨?_, ?_, nan_cut _⟩⟩
    · simp [Conv.floatToFloat, hx', Question.forced]
    · unfold finB; rw [hd]
    · unfold mulB; rw [hd]
  · have hx' : FloatKind.f32.decode x = .infinity s := hd
    refine ⟨FloatKind.f64.encode (.infinity s), w, ?_, Below.refl _ w, .inr (.inl ⟨?_, ?_, ?_⟩)⟩
    · simp [Conv.floatToFloat, hx']
    · unfold finB; rw [hd]
    · unfold mulB; rw [hd]
    · cases s
      · exact .inl (by decide +kernel)
      · exact .inr (by decide +kernel)
  · have hv2 : v < 2 ^ 277 := Nat.lt_of_le_of_lt hv (by decide +kernel)
    obtain ⟨d, h1, h2⟩ := toF64 277 hn hv2 (by omega)
    refine ⟨d, w, ?_, Below.refl _ w, .inr (.inr ⟨s, v, hn, hv, h1, hx⟩)⟩
    have h3 := h1
    unfold floatToFloatBits at h3
    rw [if_neg hne] at h3
    unfold Conv.floatToFloat
    rw [if_neg hne]
    split at h3
    · cases h3
    · rename_i s' hs
      cases h3
      simp [hs]
    · rename_i s' m e hs
      split at h3
      · cases h3
      · rename_i hi
        cases h3
        simp [hs, hi]
theorem run_wide2 (x y : Nat) (hx : x < 2 ^ 32) (hy : y < 2 ^ 32) (w : World) :
    ∃ d e w', (convert 94 269 (.complex .f32 x y)).run Tryz.prog w = .ok (.complex .f64 d e) w' ∧ Below w.heap.size w w' ∧ Wide x d ∧ Wide y e := by
  obtain ⟨d, w1, h1, hb1, hd⟩ := run_wide x hx w
  obtain ⟨e, w2, h2, hb2, he⟩ := run_wide y hy w1
  refine ⟨d, e, w2, ?_, hb1.trans (hb2.mono hb1.size), hd, he⟩
  have hs : Tryz.prog.underlying 94 = some (.complex .f32) := Tryz.underlying94
  have ht : Tryz.prog.underlying 269 = some (.complex .f64) := Tryz.underlying269
  simp [convert, run_underlying hs, run_underlying ht, Conv.complexToComplex, h1, h2]

set_option maxRecDepth 100000 in
set_option maxHeartbeats 1000000 in
theorem trunc_nan {n : Nat} (h : ∃ a b, Ieee.double.read n = .nan a b) (w : World) :
    Calls Tryz.prog 196 #[.float .f64 n] w fun e w' => (∃ t, e = .returned (.float .f64 t)) ∧ (w = w' ∨ w.drew = w') := by
  obtain ⟨t, w', c1, h1⟩ := run_trunc_nan h w
  have H1 := Lib.hid h1
  clear h h1
  go_enter Tryz.func196, Tryz.ntmps196
  go_wp2
  go_ret
  exact ⟨⟨t, rfl⟩, H1.out⟩

set_option maxRecDepth 100000 in
set_option maxHeartbeats 3200000 in
theorem wide_finite {x d : Nat} (h : Wide x d) (w : World) :
    Calls Tryz.prog 230 #[.float .f64 d] w fun e w' => e = .returned (.bool (finB x)) ∧ w = w' := by
  rcases h with ⟨h1, _, h2⟩ | ⟨h1, _, h2⟩ | ⟨s, v, hn, hv, h2, hx⟩
  · rw [h1]
    have K1 := Lib.hid (isNaN_nan d h2)
    clear h1 h2
    go_enter Tryz.func230, Tryz.ntmps230
    go_wp2_with (go_at_call 194; refine (K1.out _).mono ?_; rintro e w' ⟨rfl, rfl⟩)
    go_ret
    exact ⟨rfl, rfl⟩
  · rw [h1]
    have q1 : Ieee.double.order d d = some .eq := by rcases h2 with rfl | rfl <;> decide +kernel
    have q2 : (Ieee.double.order (d % 9223372036854775808) 9218868437227405311 == some .gt) = true := by rcases h2 with rfl | rfl <;> decide +kernel
    have K1 := Lib.hid (isNaN_no d q1)
    have K2 := Lib.hid (isInf_yes d (by rcases h2 with rfl | rfl <;> decide) q2)
    clear h1 h2 q1 q2
    go_enter Tryz.func230, Tryz.ntmps230
    go_wp2_with (first | (go_at_call 194; refine (K1.out _).mono ?_; rintro e w' ⟨rfl, rfl⟩) | (go_at_call 195; refine (K2.out _).mono ?_; rintro e w' ⟨rfl, rfl⟩))
    go_ret
    exact ⟨rfl, rfl⟩
  · rw [finB_num hn]
    have hv2 : v < 2 ^ 277 := Nat.lt_of_le_of_lt hv (by decide +kernel)
    obtain ⟨d', h3, h4⟩ := toF64 277 hn hv2 (by omega)
    rw [h2] at h3
    obtain rfl := Option.some.inj h3
    have hd := isNum_lt (s := s) (v := 0) h2 hx
    have hb : v * 2 ^ 925 ≤ (2 ^ 53 - 1) * 2 ^ 2045 := by
      generalize hu : (925 : Nat) = u
      exact max64_ge (pow_split hv2) (by omega)
    have K1 := Lib.hid (isNaN_any d s _ h4)
    have K2 := Lib.hid (isInf_any d s _ h4 hd hb)
    clear h2 h3 h4 hd hv hx hb hv2 hn
    go_enter Tryz.func230, Tryz.ntmps230
    go_wp2_with (first | (go_at_call 194; refine (K1.out _).mono ?_; rintro e w' ⟨rfl, rfl⟩) | (go_at_call 195; refine (K2.out _).mono ?_; rintro e w' ⟨rfl, rfl⟩))
    go_ret
    exact ⟨rfl, rfl⟩

set_option maxRecDepth 100000 in
set_option maxHeartbeats 3200000 in
theorem wide_multiple {x d : Nat} (h : Wide x d) (w : World) :
    Calls Tryz.prog 231 #[.float .f64 d, .float .f64 4661225614328463360] w fun e w' => e = .returned (.bool (mulB x)) ∧ Below w.heap.size w w' := by
  have hm : floatBits .mul .f64 4661225614328463360 4625196817309499392 = some 4679240012837945344 := by decide +kernel
  have c5 := run_mul 183 hm
  rcases h with ⟨_, h1, h2⟩ | ⟨_, h1, h2⟩ | ⟨s, v, hn, hv, h2, hx⟩
  · rw [h1]
    obtain ⟨n, c2, hn⟩ := run_mul_nan h2 4625196817309499392 w
    have K1 := Lib.hid (trunc_nan hn)
    have HO := Lib.hid (fun t => order_nan t hn)
    clear h1 h2 hn hm
    go_enter Tryz.func231, Tryz.ntmps231
    go_wp2_with (go_at_call 196; refine (K1.out _).mono ?_; rintro e w1 ⟨⟨t, rfl⟩, hw1⟩; have c4 : (FloatKind.f64.format.order n t == some .eq) = false := (by rw [HO.out t]; rfl))
    go_ret
    refine ⟨rfl, ?_⟩
    rcases hw1 with rfl | rfl
    · exact (Below.refl _ w).drew
    · exact (Below.refl _ w).drew.drew
  · rw [h1]
    have q0 : floatBits .mul .f64 d 4625196817309499392 = some d := by rcases h2 with rfl | rfl <;> decide +kernel
    have c2 := run_mul 183 q0
    have c3 : ∀ w : World, (callFunc 226 #[.float .f64 d]).run Tryz.prog w = .ok (.value (.float .f64 d)) w := fun w => by
      rcases h2 with rfl | rfl <;> kernel_rfl
    have c4 : (FloatKind.f64.format.order d d == some .eq) = true := by rcases h2 with rfl | rfl <;> decide +kernel
    have c6 : (FloatKind.f64.format.order (d % 9223372036854775808) 4679240012837945344 == some .lt || FloatKind.f64.format.order (d % 9223372036854775808) 4679240012837945344 == some .eq) = false := by rcases h2 with rfl | rfl <;> decide +kernel
    have K1 := Lib.hid (trunc_any d d c3)
    have K2 := Lib.hid (abs_any d (by rcases h2 with rfl | rfl <;> decide))
    clear h1 h2 q0 hm c3
    go_enter Tryz.func231, Tryz.ntmps231
    go_wp2_with (first | (go_at_call 196; refine (K1.out _).mono ?_; rintro e w' ⟨rfl, rfl⟩) | (go_at_call 197; refine (K2.out _).mono ?_; rintro e w' ⟨rfl, rfl⟩))
    go_ret
    exact ⟨rfl, Below.refl _ _⟩
  · rw [mulB_num hn]
    obtain ⟨d', n, t, h3, h4, n1, t1, t2, q1, q2⟩ := multiple_words4 hn hv
    rw [h2] at h3
    obtain rfl := Option.some.inj h3
    have hlt := floatBits_lt n1
    have c2 := run_mul 183 n1
    have c3 := run_trunc t1 t2
    have K1 := Lib.hid (trunc_any n t c3)
    have K2 := Lib.hid (abs_any n hlt)
    clear h2 h3 h4 n1 t1 t2 hm hn c3 hv hlt hx
    by_cases f1 : v % 2 ^ 145 = 0
    · rw [decide_eq_true f1] at q1
      by_cases f2 : v ≤ 4096 * 2 ^ 149
      · rw [decide_eq_true f2] at q2
        rw [decide_eq_true (show v ≤ 4096 * 2 ^ 149 ∧ v % 2 ^ 145 = 0 from ⟨f2, f1⟩)]
        have c4 : (FloatKind.f64.format.order n t == some .eq) = true := q1
        have c6 : (FloatKind.f64.format.order (n % 9223372036854775808) 4679240012837945344 == some .lt || FloatKind.f64.format.order (n % 9223372036854775808) 4679240012837945344 == some .eq) = true := q2
        clear f1 f2 q1 q2
        go_enter Tryz.func231, Tryz.ntmps231
        go_wp2_with (first | (go_at_call 196; refine (K1.out _).mono ?_; rintro e w' ⟨rfl, rfl⟩) | (go_at_call 197; refine (K2.out _).mono ?_; rintro e w' ⟨rfl, rfl⟩))
        go_ret
        exact ⟨rfl, Below.refl _ _⟩
      · rw [decide_eq_false f2] at q2
        rw [decide_eq_false (show ¬ (v ≤ 4096 * 2 ^ 149 ∧ v % 2 ^ 145 = 0) from fun hh => f2 hh.1)]
        have c4 : (FloatKind.f64.format.order n t == some .eq) = true := q1
        have c6 : (FloatKind.f64.format.order (n % 9223372036854775808) 4679240012837945344 == some .lt || FloatKind.f64.format.order (n % 9223372036854775808) 4679240012837945344 == some .eq) = false := q2
        clear f1 f2 q1 q2
        go_enter Tryz.func231, Tryz.ntmps231
        go_wp2_with (first | (go_at_call 196; refine (K1.out _).mono ?_; rintro e w' ⟨rfl, rfl⟩) | (go_at_call 197; refine (K2.out _).mono ?_; rintro e w' ⟨rfl, rfl⟩))
        go_ret
        exact ⟨rfl, Below.refl _ _⟩
    · rw [decide_eq_false f1] at q1
      rw [decide_eq_false (show ¬ (v ≤ 4096 * 2 ^ 149 ∧ v % 2 ^ 145 = 0) from fun hh => f1 hh.2)]
      have c4 : (FloatKind.f64.format.order n t == some .eq) = false := q1
      clear f1 q1 q2
      go_enter Tryz.func231, Tryz.ntmps231
      go_wp2_with (first | (go_at_call 196; refine (K1.out _).mono ?_; rintro e w' ⟨rfl, rfl⟩) | (go_at_call 197; refine (K2.out _).mono ?_; rintro e w' ⟨rfl, rfl⟩))
      go_ret
      exact ⟨rfl, Below.refl _ _⟩

set_option maxRecDepth 100000 in
set_option maxHeartbeats 3200000 in
theorem checkNumberC_all {x y d d2 : Nat} (hX : Wide x d) (hY : Wide y d2) (w : World) :
    Calls Tryz.prog 205 #[.complex .f64 d d2, .float .f64 4661225614328463360] w fun e w' => e = .returned (.int .i64 (numErr x y)) ∧ Below w.heap.size w w' := by
  have FX := Lib.hid (fun w1 => wide_finite hX w1)
  have FY := Lib.hid (fun w1 => wide_finite hY w1)
  have MX : Hid (∀ w1 : World, Below w.heap.size w w1 → Calls Tryz.prog 231 #[.float .f64 d, .float .f64 4661225614328463360] w1 fun e w' => e = .returned (.bool (mulB x)) ∧ Hid (Below w.heap.size w w')) :=
    Lib.hid fun w1 h => (wide_multiple hX w1).mono fun e w' ⟨h1, h2⟩ => ⟨h1, Lib.hid (h.trans (h2.mono h.size))⟩
  have MY : Hid (∀ w1 : World, Below w.heap.size w w1 → Calls Tryz.prog 231 #[.float .f64 d2, .float .f64 4661225614328463360] w1 fun e w' => e = .returned (.bool (mulB y)) ∧ Hid (Below w.heap.size w w')) :=
    Lib.hid fun w1 h => (wide_multiple hY w1).mono fun e w' ⟨h1, h2⟩ => ⟨h1, Lib.hid (h.trans (h2.mono h.size))⟩
  have HB : Hid (Below w.heap.size w w) := Lib.hid (Below.refl _ w)
  clear hX hY
  cases hfx : finB x with
  | false =>
    cases hmx : mulB x with
    | false =>
      have e : numErr x y = firstNZ [1, 3] := by unfold numErr; simp [hfx, hmx, firstNZ]
      rw [e]
      rw [hfx] at FX
      rw [hmx] at MX
      clear hfx hmx e
      go_enter Tryz.func205, Tryz.ntmps205
      go_wp2_with (first
          | (go_at_call_of 230 (Value.float .f64 d); refine (FX.out _).mono ?_; rintro e w' ⟨rfl, rfl⟩)
          | (go_at_call_of 230 (Value.float .f64 d2); refine (FY.out _).mono ?_; rintro e w' ⟨rfl, rfl⟩)
          | (go_at_call_of 231 (Value.float .f64 d); refine (MX.out _ HB.out).mono ?_; rintro e w1 ⟨rfl, HB⟩)
          | (go_at_call_of 231 (Value.float .f64 d2); refine (MY.out _ HB.out).mono ?_; rintro e w2 ⟨rfl, HB⟩)
          | (go_at_call 114; refine (cwhen_any _ _ _).mono ?_; rintro e w8 ⟨rfl, rfl⟩)
          | (go_at_call 109; refine (first_any _ 0 2 2 [1, 3] rfl (by omega) _ ?_).mono ?_; rotate_left 1; rintro e w' ⟨rfl, rfl⟩; rotate_left 1; (intro j hj; match j, hj with | 0, _ => simp [go_sem] | 1, _ => simp [go_sem])))
      go_ret
      first | exact ⟨rfl, HB.out⟩ | exact ⟨rfl, HB.out.alloc (Nat.le_refl _) _⟩ | (refine ⟨rfl, ?_⟩; exact HB.out.alloc (by have := HB.out.size; omega) _)
    | true =>
      cases hmy : mulB y with
      | false =>
        have e : numErr x y = firstNZ [1, 3] := by unfold numErr; simp [hfx, hmx, hmy, firstNZ]
        rw [e]
        rw [hfx] at FX
        rw [hmx] at MX
        rw [hmy] at MY
        clear hfx hmx e
        go_enter Tryz.func205, Tryz.ntmps205
        go_wp2_with (first
            | (go_at_call_of 230 (Value.float .f64 d); refine (FX.out _).mono ?_; rintro e w' ⟨rfl, rfl⟩)
            | (go_at_call_of 230 (Value.float .f64 d2); refine (FY.out _).mono ?_; rintro e w' ⟨rfl, rfl⟩)
            | (go_at_call_of 231 (Value.float .f64 d); refine (MX.out _ HB.out).mono ?_; rintro e w1 ⟨rfl, HB⟩)
            | (go_at_call_of 231 (Value.float .f64 d2); refine (MY.out _ HB.out).mono ?_; rintro e w2 ⟨rfl, HB⟩)
            | (go_at_call 114; refine (cwhen_any _ _ _).mono ?_; rintro e w8 ⟨rfl, rfl⟩)
            | (go_at_call 109; refine (first_any _ 0 2 2 [1, 3] rfl (by omega) _ ?_).mono ?_; rotate_left 1; rintro e w' ⟨rfl, rfl⟩; rotate_left 1; (intro j hj; match j, hj with | 0, _ => simp [go_sem] | 1, _ => simp [go_sem])))
        go_ret
        first | exact ⟨rfl, HB.out⟩ | exact ⟨rfl, HB.out.alloc (Nat.le_refl _) _⟩ | (refine ⟨rfl, ?_⟩; exact HB.out.alloc (by have := HB.out.size; omega) _)
      | true =>
        have e : numErr x y = firstNZ [1, 0] := by unfold numErr; simp [hfx, hmx, hmy, firstNZ]
        rw [e]
        rw [hfx] at FX
        rw [hmx] at MX
        rw [hmy] at MY
        clear hfx hmx e
        go_enter Tryz.func205, Tryz.ntmps205
        go_wp2_with (first
            | (go_at_call_of 230 (Value.float .f64 d); refine (FX.out _).mono ?_; rintro e w' ⟨rfl, rfl⟩)
            | (go_at_call_of 230 (Value.float .f64 d2); refine (FY.out _).mono ?_; rintro e w' ⟨rfl, rfl⟩)
            | (go_at_call_of 231 (Value.float .f64 d); refine (MX.out _ HB.out).mono ?_; rintro e w1 ⟨rfl, HB⟩)
            | (go_at_call_of 231 (Value.float .f64 d2); refine (MY.out _ HB.out).mono ?_; rintro e w2 ⟨rfl, HB⟩)
            | (go_at_call 114; refine (cwhen_any _ _ _).mono ?_; rintro e w8 ⟨rfl, rfl⟩)
            | (go_at_call 109; refine (first_any _ 0 2 2 [1, 0] rfl (by omega) _ ?_).mono ?_; rotate_left 1; rintro e w' ⟨rfl, rfl⟩; rotate_left 1; (intro j hj; match j, hj with | 0, _ => simp [go_sem] | 1, _ => simp [go_sem])))
        go_ret
        first | exact ⟨rfl, HB.out⟩ | exact ⟨rfl, HB.out.alloc (Nat.le_refl _) _⟩ | (refine ⟨rfl, ?_⟩; exact HB.out.alloc (by have := HB.out.size; omega) _)
  | true =>
    cases hfy : finB y with
    | false =>
      cases hmx : mulB x with
      | false =>
        have e : numErr x y = firstNZ [1, 3] := by unfold numErr; simp [hfx, hfy, hmx, firstNZ]
        rw [e]
        rw [hfx] at FX
        rw [hfy] at FY
        rw [hmx] at MX
        clear hfx hmx e
        go_enter Tryz.func205, Tryz.ntmps205
        go_wp2_with (first
            | (go_at_call_of 230 (Value.float .f64 d); refine (FX.out _).mono ?_; rintro e w' ⟨rfl, rfl⟩)
            | (go_at_call_of 230 (Value.float .f64 d2); refine (FY.out _).mono ?_; rintro e w' ⟨rfl, rfl⟩)
            | (go_at_call_of 231 (Value.float .f64 d); refine (MX.out _ HB.out).mono ?_; rintro e w1 ⟨rfl, HB⟩)
            | (go_at_call_of 231 (Value.float .f64 d2); refine (MY.out _ HB.out).mono ?_; rintro e w2 ⟨rfl, HB⟩)
            | (go_at_call 114; refine (cwhen_any _ _ _).mono ?_; rintro e w8 ⟨rfl, rfl⟩)
            | (go_at_call 109; refine (first_any _ 0 2 2 [1, 3] rfl (by omega) _ ?_).mono ?_; rotate_left 1; rintro e w' ⟨rfl, rfl⟩; rotate_left 1; (intro j hj; match j, hj with | 0, _ => simp [go_sem] | 1, _ => simp [go_sem])))
        go_ret
        first | exact ⟨rfl, HB.out⟩ | exact ⟨rfl, HB.out.alloc (Nat.le_refl _) _⟩ | (refine ⟨rfl, ?_⟩; exact HB.out.alloc (by have := HB.out.size; omega) _)
      | true =>
        cases hmy : mulB y with
        | false =>
          have e : numErr x y = firstNZ [1, 3] := by unfold numErr; simp [hfx, hfy, hmx, hmy, firstNZ]
          rw [e]
          rw [hfx] at FX
          rw [hfy] at FY
          rw [hmx] at MX
          rw [hmy] at MY
          clear hfx hmx e
          go_enter Tryz.func205, Tryz.ntmps205
          go_wp2_with (first
              | (go_at_call_of 230 (Value.float .f64 d); refine (FX.out _).mono ?_; rintro e w' ⟨rfl, rfl⟩)
              | (go_at_call_of 230 (Value.float .f64 d2); refine (FY.out _).mono ?_; rintro e w' ⟨rfl, rfl⟩)
              | (go_at_call_of 231 (Value.float .f64 d); refine (MX.out _ HB.out).mono ?_; rintro e w1 ⟨rfl, HB⟩)
              | (go_at_call_of 231 (Value.float .f64 d2); refine (MY.out _ HB.out).mono ?_; rintro e w2 ⟨rfl, HB⟩)
              | (go_at_call 114; refine (cwhen_any _ _ _).mono ?_; rintro e w8 ⟨rfl, rfl⟩)
              | (go_at_call 109; refine (first_any _ 0 2 2 [1, 3] rfl (by omega) _ ?_).mono ?_; rotate_left 1; rintro e w' ⟨rfl, rfl⟩; rotate_left 1; (intro j hj; match j, hj with | 0, _ => simp [go_sem] | 1, _ => simp [go_sem])))
          go_ret
          first | exact ⟨rfl, HB.out⟩ | exact ⟨rfl, HB.out.alloc (Nat.le_refl _) _⟩ | (refine ⟨rfl, ?_⟩; exact HB.out.alloc (by have := HB.out.size; omega) _)
        | true =>
          have e : numErr x y = firstNZ [1, 0] := by unfold numErr; simp [hfx, hfy, hmx, hmy, firstNZ]
          rw [e]
          rw [hfx] at FX
          rw [hfy] at FY
          rw [hmx] at MX
          rw [hmy] at MY
          clear hfx hmx e
          go_enter Tryz.func205, Tryz.ntmps205
          go_wp2_with (first
              | (go_at_call_of 230 (Value.float .f64 d); refine (FX.out _).mono ?_; rintro e w' ⟨rfl, rfl⟩)
              | (go_at_call_of 230 (Value.float .f64 d2); refine (FY.out _).mono ?_; rintro e w' ⟨rfl, rfl⟩)
              | (go_at_call_of 231 (Value.float .f64 d); refine (MX.out _ HB.out).mono ?_; rintro e w1 ⟨rfl, HB⟩)
              | (go_at_call_of 231 (Value.float .f64 d2); refine (MY.out _ HB.out).mono ?_; rintro e w2 ⟨rfl, HB⟩)
              | (go_at_call 114; refine (cwhen_any _ _ _).mono ?_; rintro e w8 ⟨rfl, rfl⟩)
              | (go_at_call 109; refine (first_any _ 0 2 2 [1, 0] rfl (by omega) _ ?_).mono ?_; rotate_left 1; rintro e w' ⟨rfl, rfl⟩; rotate_left 1; (intro j hj; match j, hj with | 0, _ => simp [go_sem] | 1, _ => simp [go_sem])))
          go_ret
          first | exact ⟨rfl, HB.out⟩ | exact ⟨rfl, HB.out.alloc (Nat.le_refl _) _⟩ | (refine ⟨rfl, ?_⟩; exact HB.out.alloc (by have := HB.out.size; omega) _)
    | true =>
      cases hmx : mulB x with
      | false =>
        have e : numErr x y = firstNZ [0, 3] := by unfold numErr; simp [hfx, hfy, hmx, firstNZ]
        rw [e]
        rw [hfx] at FX
        rw [hfy] at FY
        rw [hmx] at MX
        clear hfx hmx e
        go_enter Tryz.func205, Tryz.ntmps205
        go_wp2_with (first
            | (go_at_call_of 230 (Value.float .f64 d); refine (FX.out _).mono ?_; rintro e w' ⟨rfl, rfl⟩)
            | (go_at_call_of 230 (Value.float .f64 d2); refine (FY.out _).mono ?_; rintro e w' ⟨rfl, rfl⟩)
            | (go_at_call_of 231 (Value.float .f64 d); refine (MX.out _ HB.out).mono ?_; rintro e w1 ⟨rfl, HB⟩)
            | (go_at_call_of 231 (Value.float .f64 d2); refine (MY.out _ HB.out).mono ?_; rintro e w2 ⟨rfl, HB⟩)
            | (go_at_call 114; refine (cwhen_any _ _ _).mono ?_; rintro e w8 ⟨rfl, rfl⟩)
            | (go_at_call 109; refine (first_any _ 0 2 2 [0, 3] rfl (by omega) _ ?_).mono ?_; rotate_left 1; rintro e w' ⟨rfl, rfl⟩; rotate_left 1; (intro j hj; match j, hj with | 0, _ => simp [go_sem] | 1, _ => simp [go_sem])))
        go_ret
        first | exact ⟨rfl, HB.out⟩ | exact ⟨rfl, HB.out.alloc (Nat.le_refl _) _⟩ | (refine ⟨rfl, ?_⟩; exact HB.out.alloc (by have := HB.out.size; omega) _)
      | true =>
        cases hmy : mulB y with
        | false =>
          have e : numErr x y = firstNZ [0, 3] := by unfold numErr; simp [hfx, hfy, hmx, hmy, firstNZ]
          rw [e]
          rw [hfx] at FX
          rw [hfy] at FY
          rw [hmx] at MX
          rw [hmy] at MY
          clear hfx hmx e
          go_enter Tryz.func205, Tryz.ntmps205
          go_wp2_with (first
              | (go_at_call_of 230 (Value.float .f64 d); refine (FX.out _).mono ?_; rintro e w' ⟨rfl, rfl⟩)
              | (go_at_call_of 230 (Value.float .f64 d2); refine (FY.out _).mono ?_; rintro e w' ⟨rfl, rfl⟩)
              | (go_at_call_of 231 (Value.float .f64 d); refine (MX.out _ HB.out).mono ?_; rintro e w1 ⟨rfl, HB⟩)
              | (go_at_call_of 231 (Value.float .f64 d2); refine (MY.out _ HB.out).mono ?_; rintro e w2 ⟨rfl, HB⟩)
              | (go_at_call 114; refine (cwhen_any _ _ _).mono ?_; rintro e w8 ⟨rfl, rfl⟩)
              | (go_at_call 109; refine (first_any _ 0 2 2 [0, 3] rfl (by omega) _ ?_).mono ?_; rotate_left 1; rintro e w' ⟨rfl, rfl⟩; rotate_left 1; (intro j hj; match j, hj with | 0, _ => simp [go_sem] | 1, _ => simp [go_sem])))
          go_ret
          first | exact ⟨rfl, HB.out⟩ | exact ⟨rfl, HB.out.alloc (Nat.le_refl _) _⟩ | (refine ⟨rfl, ?_⟩; exact HB.out.alloc (by have := HB.out.size; omega) _)
        | true =>
          have e : numErr x y = firstNZ [0, 0] := by unfold numErr; simp [hfx, hfy, hmx, hmy, firstNZ]
          rw [e]
          rw [hfx] at FX
          rw [hfy] at FY
          rw [hmx] at MX
          rw [hmy] at MY
          clear hfx hmx e
          go_enter Tryz.func205, Tryz.ntmps205
          go_wp2_with (first
              | (go_at_call_of 230 (Value.float .f64 d); refine (FX.out _).mono ?_; rintro e w' ⟨rfl, rfl⟩)
              | (go_at_call_of 230 (Value.float .f64 d2); refine (FY.out _).mono ?_; rintro e w' ⟨rfl, rfl⟩)
              | (go_at_call_of 231 (Value.float .f64 d); refine (MX.out _ HB.out).mono ?_; rintro e w1 ⟨rfl, HB⟩)
              | (go_at_call_of 231 (Value.float .f64 d2); refine (MY.out _ HB.out).mono ?_; rintro e w2 ⟨rfl, HB⟩)
              | (go_at_call 114; refine (cwhen_any _ _ _).mono ?_; rintro e w8 ⟨rfl, rfl⟩)
              | (go_at_call 109; refine (first_any _ 0 2 2 [0, 0] rfl (by omega) _ ?_).mono ?_; rotate_left 1; rintro e w' ⟨rfl, rfl⟩; rotate_left 1; (intro j hj; match j, hj with | 0, _ => simp [go_sem] | 1, _ => simp [go_sem])))
          go_ret
          first | exact ⟨rfl, HB.out⟩ | exact ⟨rfl, HB.out.alloc (Nat.le_refl _) _⟩ | (refine ⟨rfl, ?_⟩; exact HB.out.alloc (by have := HB.out.size; omega) _)
set_option maxRecDepth 100000 in
set_option maxHeartbeats 3200000 in
theorem checkNumber_all (x y : Nat) (hx : x < 2 ^ 32) (hy : y < 2 ^ 32) (w : World) :
    Calls Tryz.prog 158 #[.complex .f32 x y] w fun e w' => e = .returned (.int .i64 (numErr x y)) ∧ Below w.heap.size w w' := by
  obtain ⟨d, d2, w', c1, hb, hX, hY⟩ := run_wide2 x y hx hy w
  have K := Lib.hid (checkNumberC_all hX hY w')
  have HB := Lib.hid hb
  clear hX hY hb hx hy
  go_enter Tryz.func158, Tryz.ntmps158
  go_wp2_with (go_at_call 205; refine K.out.mono ?_; rintro e w2 ⟨rfl, hb2⟩)
  go_ret
  exact ⟨rfl, HB.out.trans (hb2.mono HB.out.size)⟩
end Go.Proofs.YtfdkmmllemkogaaGreatDoor

/-
  The errors of a list of complex numbers; the quotient by 4.
-/

namespace Go.Proofs.YtfdkmmllemkogaaGreatDoor
open Go.RowKit
open Ieee (Format single double Datum signed)
set_option linter.unusedVariables false
set_option linter.unusedSimpArgs false

set_option maxHeartbeats 2000000 in
set_option maxRecDepth 100000 in
theorem mapped_num {w : World} (b o n c : Nat) (zs : List (Nat × Nat)) (hx : zs.length = n) (hn : n ≤ 4096) (hb : b < w.heap.size)
    (hc : ∀ j, j < n → w.cell? ⟨b, o + j, none⟩ = some (.complex .f32 (zs[j]?.getD (0, 0)).1 (zs[j]?.getD (0, 0)).2)) (hs : ∀ j, j < n → (zs[j]?.getD (0, 0)).1 < 2 ^ 32 ∧ (zs[j]?.getD (0, 0)).2 < 2 ^ 32) :
    Calls Tryz.prog 157 #[.slice (some ⟨b, o, none⟩) n c, .func (.func 158) #[] #[]] w fun e w' =>
      e = .returned (.slice (some ⟨w.heap.size, 0, none⟩) n n) ∧ w'.ownsRow w.heap.size 26 1 (.slice (some ⟨w.heap.size, 0, none⟩) n n) n (zs.map (fun z => Value.int .i64 (numErr z.1 z.2))) ∧ Below w.heap.size w w' := by
  obtain ⟨i0, hi, hz0, hz1, hz2⟩ := info_parts Tryz.info26_check
  have Hx := Lib.hid hx
  have Hc := Lib.hid hc
  have Hs := Lib.hid hs
  clear hx hc hs
  go_enter Tryz.func157, Tryz.ntmps157
  go_wp2_with (at_make; refine wpList_make_own _ rfl _ _ 196 rfl w.heap.size 26 i0 (.int .i64 0) 1 Tryz.underlying196 hi hz0 hz1 _ _ _ n rfl rfl (by omega) ?b2 ?b3 (Nat.le_refl _) ?_)
  case b2 => rw [hz2]; omega
  case b3 => unfold maxLen; omega
  intro w0 hown0 hgrow0
  go_wp2
  go_loopw [5, 13] (fun out i wr => ∃ k : Nat, k ≤ n ∧ i = .int .i64 k ∧ out = .slice (some ⟨w.heap.size, 0, none⟩) k n ∧
      wr.ownsRow w.heap.size 26 1 (.slice (some ⟨w.heap.size, 0, none⟩) k n) k ((zs.take k).map (fun z => Value.int .i64 (numErr z.1 z.2))) ∧ Below w.heap.size w wr)
    (fun _ i _ => n - (intOf i).toNat)
  case atStart => exact ⟨0, Nat.zero_le _, rfl, rfl, hown0, (Below.refl _ _).grown hgrow0 (Nat.le_refl _) (fun k h => by cases h)⟩
  case round =>
    obtain ⟨k, hk, rfl, rfl, hown, hnx⟩ := hrel
    by_cases hlt : k < n
    · have hcell := (hnx.cell (p := ⟨b, o + k, none⟩) (by exact hb)).trans (Hc.out k hlt)
      have hh := Hs.out k hlt
      have hT := take_map_succ (fun z : Nat × Nat => Value.int .i64 (numErr z.1 z.2)) zs k (by have := Hx.out; omega) (0, 0)
      obtain ⟨zx, hzx⟩ : ∃ zx, (zs[k]?.getD (0, 0)).1 = zx := ⟨_, rfl⟩
      obtain ⟨zy, hzy⟩ : ∃ zy, (zs[k]?.getD (0, 0)).2 = zy := ⟨_, rfl⟩
      try dsimp only at hT
      rw [hzx, hzy] at hcell hh hT
      have K := Lib.hid hh
      have HT := Lib.hid hT
      have hsz := hnx.size
      clear hh hT hzx hzy
      go_wp2_with (first
        | (go_at_call 158; refine (checkNumber_all _ _ K.out.1 K.out.2 _).mono ?_; rintro e w2 ⟨rfl, hb2⟩; have hown2 := owns_kept hown hb2 (Nat.le_refl _); have hs2 := hb2.size)
        | (at_builtin; refine wpList_append_fits _ rfl (.tmp 17) (.tmp 21) 196 rfl w.heap.size 26 i0 1 Tryz.underlying196 hi hz1 w.heap.size k n _ rfl (hown2.alloc _) ⟨w2.heap.size, 0, none⟩ 1 1 [.int .i64 (numErr zx zy)] rfl rfl (cell_one_new _ _ _) (by intro u hu; simp at hu; subst hu; rfl) (by omega) ?_; intro w1 hown1 hgrow1))
      go_roundw
      case rel => exact ⟨k + 1, by omega, by go_num, rfl, by rw [HT.out]; exact hown1, ((hnx.trans (hb2.mono hnx.size)).alloc (Nat.le_trans hsz hs2) _).grown hgrow1 (by simp; omega) (fun j hj => by cases hj; exact Nat.le_refl _)⟩
      case measure => simp [intOf]; omega
    · go_wp2
      go_ret
      obtain rfl : k = n := by omega
      rw [List.take_of_length_le (by have := Hx.out; omega)] at hown
      exact ⟨rfl, hown, hnx⟩

/-- A quotient by 4 is exact. -/
theorem quo4 {x : Nat} {s : Bool} {K : Nat} (hK : K < 2 ^ 24) (h : IsNum single x s (K * 2 ^ 145)) : ∃ r, floatBits .quo .f32 x 1082130432 = some r ∧ IsNum single r s (K * 2 ^ 143) := by
  obtain ⟨m, e, h1, h2, h3, h4⟩ := h
  have hL : single.leastPlace = -149 := by decide
  have hc : single.read 1082130432 = .number false (2 ^ 23) (-21) := by decide +kernel
  have h3' : m < 2 ^ 24 := h3
  rw [hL] at h2 h4
  have hlog : (2 ^ 23 : Nat).log2 = 23 := by decide +kernel
  by_cases h0 : K = 0
  · subst h0
    have hm : m = 0 := by
      have : m * 2 ^ (e - -149).toNat = 0 := h4.trans (Nat.zero_mul _)
      rcases Nat.mul_eq_zero.1 this with h | h
      · exact h
      · exact absurd h (by have := Nat.two_pow_pos (e - -149).toNat; omega)
    subst hm
    refine ⟨single.word s 0, ?_, ?_⟩
    · show single.div _ _ = _
      unfold Format.div
      rw [h1, hc]
      simp [Datum.quotient, Format.write, nearest_zero]
    · have h := isNum_nearest two32 s 0 0 single.leastPlace (Nat.two_pow_pos _) (Int.le_refl _) (by rw [Nat.zero_mul]; exact Nat.two_pow_pos _)
      rw [Nat.zero_mul, nearest_zero, Nat.zero_mul] at h
      rw [Nat.zero_mul]
      exact h
  · have hm0 : m ≠ 0 := by
      rintro rfl
      rw [Nat.zero_mul] at h4
      rcases Nat.mul_eq_zero.1 h4.symm with h | h
      · omega
      · exact absurd h (by have := Nat.two_pow_pos 145; omega)
    have hml : m.log2 ≤ 23 := log2_le_of_lt hm0 h3
    have he : -147 ≤ e := by
      refine Classical.byContradiction fun hh => ?_
      have k1 : m * 2 ^ (e - -149).toNat < 2 ^ (24 + 2) := by
        refine Nat.lt_of_lt_of_le (pow_split h3') (Nat.pow_le_pow_right (by omega) (by omega))
      rw [h4] at k1
      have k2 : 2 ^ 145 ≤ K * 2 ^ 145 := Nat.le_mul_of_pos_left _ (by omega)
      have k3 : (2 : Nat) ^ 145 < 2 ^ (24 + 2) := Nat.lt_of_le_of_lt k2 k1
      have := (Nat.pow_lt_pow_iff_right (show 1 < 2 by omega)).1 k3
      omega
    have hmax : m * 2 ^ (e - 2 - single.leastPlace).toNat < 2 ^ (single.fractionBits + 2 ^ single.exponentBits - 2) := by
      refine Nat.lt_of_le_of_lt (Nat.mul_le_mul_left _ (Nat.pow_le_pow_right (by omega) (show (e - 2 - single.leastPlace).toNat ≤ (e - -149).toNat by omega))) ?_
      rw [h4]
      exact Nat.lt_trans (pow_split hK) (by decide +kernel)
    have hk := isNum_nearest two32 s m (25 + 23 - m.log2 - 22) (e - 2) h3 (by omega) hmax
    refine ⟨single.nearest s (m * 2 ^ (25 + 23 - m.log2 - 22)) (e - 2 - ((25 + 23 - m.log2 - 22 : Nat) : Int)), ?_, ?_⟩
    rotate_left
    · have ev : m * 2 ^ (e - 2 - single.leastPlace).toNat = K * 2 ^ 143 := by
        have e1 : (e - -149).toNat = (e - 2 - single.leastPlace).toNat + 2 := by omega
        rw [e1, Nat.pow_add, ← Nat.mul_assoc] at h4
        have e2 : K * 2 ^ 145 = K * 2 ^ 143 * 2 ^ 2 := by rw [Nat.mul_assoc]
        rw [e2] at h4
        exact Nat.eq_of_mul_eq_mul_right (by decide) h4
      rw [ev] at hk
      exact hk
    · show single.div _ _ = _
      unfold Format.div
      rw [h1, hc]
      have hsplit : m <<< (25 + 23 - m.log2) = m * 2 ^ (25 + 23 - m.log2 - 23) * 2 ^ 23 := by
        rw [Nat.shiftLeft_eq, Nat.mul_assoc, ← Nat.pow_add]; congr 2; omega
      have hd : m <<< (25 + 23 - m.log2) / 2 ^ 23 = m * 2 ^ (25 + 23 - m.log2 - 23) := by rw [hsplit]; exact Nat.mul_div_cancel _ (by decide)
      have hr : m <<< (25 + 23 - m.log2) % 2 ^ 23 = 0 := by rw [hsplit]; exact Nat.mul_mod_left _ _
      have hne : ¬ (2 ^ 23 : Nat) = 0 := by decide
      simp only [Datum.quotient, hne, if_false, Option.map_some, Format.write, Bool.xor_false, hlog, show single.fractionBits + 2 = 25 from rfl, hd, hr]
      congr 2
      · have : (25 + 23 - m.log2 - 22 : Nat) = (25 + 23 - m.log2 - 23) + 1 := by omega
        rw [this, Nat.pow_succ]
        simp [Nat.mul_comm, Nat.mul_left_comm]
      · omega
/-- The quotient by 4 of an integer, and what the check of a sample says of it. -/
theorem quo4_smp {x : Nat} {k : Int} (hx : Smp x k) (hk : k.natAbs < 2 ^ 24) :
    ∃ r, floatBits .quo .f32 x 1082130432 = some r ∧ (smpErr r = 0 ↔ k % 4 = 0 ∧ (k / 4).natAbs ≤ 16384) ∧ (k % 4 = 0 → Smp r (k / 4)) := by
  obtain ⟨s, h1, h2, h3⟩ := hx
  obtain ⟨r, hr, hn⟩ := quo4 hk h1
  have hm : k.natAbs * 2 ^ 143 % 2 ^ 145 = 0 ↔ k % 4 = 0 := by
    have e : (2 : Nat) ^ 145 = 4 * 2 ^ 143 := by decide +kernel
    rw [e, Nat.mul_mod_mul_right]
    constructor
    · intro h
      rcases Nat.mul_eq_zero.1 h with h | h
      · omega
      · exact absurd h (by decide +kernel)
    · intro h
      have : k.natAbs % 4 = 0 := by omega
      rw [this, Nat.zero_mul]
  have hle : k.natAbs * 2 ^ 143 ≤ 1024 * 2 ^ 149 ↔ k.natAbs ≤ 65536 := by
    have e : 1024 * (2 : Nat) ^ 149 = 65536 * 2 ^ 143 := by decide +kernel
    rw [e]
    exact Nat.mul_le_mul_right_iff (Nat.two_pow_pos _)
  refine ⟨r, hr, ?_, fun h0 => ⟨s, ?_, fun h => h2 (by omega), fun h => h3 (by omega)⟩⟩
  · rw [smpErr_num hn]
    constructor
    · intro h
      split at h
      · rename_i hh
        have h4 := hm.1 hh.2
        have h5 := hle.1 hh.1
        exact ⟨h4, by omega⟩
      · cases h
    · rintro ⟨h4, h5⟩
      rw [if_pos ⟨hle.2 (by omega), hm.2 h4⟩]
  · have e : k.natAbs * 2 ^ 143 = (k / 4).natAbs * 2 ^ 145 := by
      have e1 : k.natAbs = (k / 4).natAbs * 4 := by omega
      rw [e1, Nat.mul_assoc]
    rw [e] at hn
    exact hn
end Go.Proofs.YtfdkmmllemkogaaGreatDoor
