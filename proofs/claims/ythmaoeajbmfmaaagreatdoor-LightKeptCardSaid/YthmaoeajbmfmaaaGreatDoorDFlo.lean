/-
  Plain facts on binary floating point: the nearest word of a number that the format has, and what that word reads as; no Go, no program.
  Condition: none beyond the hypotheses written at each theorem.
-/
import Derived.Laws.FloatArith
import Derived.Laws.BitsAllLaws
import Derived.Test.YthmaoeajbmfmaaaGreatDoorRows
import Derived.WalkKit
import Derived.WalkSpells
import Derived.WalkLawsBesides
import Derived.Lib.Hide
import Derived.BigQuiet
import Derived.Deep.QuietTactic
import Derived.Handy
import Derived.Deep.RegionHeld3
namespace Go.Proofs.YthmaoeajbmfmaaaGreatDoor
open Ieee

theorem log2_mul_pow (a d : Nat) (ha : a ≠ 0) : (a * 2 ^ d).log2 = a.log2 + d := by
  induction d with
  | zero => simp
  | succ d ih =>
    have hp : 0 < 2 ^ d := Nat.two_pow_pos d
    have h0 : a * 2 ^ d ≠ 0 := Nat.mul_ne_zero ha (by omega)
    have e : a * 2 ^ (d + 1) = 2 * (a * 2 ^ d) := by rw [Nat.pow_succ]; ac_rfl
    rw [e, Nat.log2_two_mul h0, ih]; omega

theorem cut_whole (neg : Bool) (n drop q : Nat) (h : n = q * 2 ^ drop) (hd : drop ≤ n.log2 + 2) : Toward.even.cut neg n drop = q := by
  have hp : 0 < 2 ^ drop := Nat.two_pow_pos drop
  have h1 : n / 2 ^ drop = q := by rw [h]; exact Nat.mul_div_cancel _ hp
  have h2 : n % 2 ^ drop = 0 := by rw [h]; exact Nat.mul_mod_left _ _
  unfold Toward.cut
  simp only [Nat.min_eq_left hd, Nat.one_shiftLeft, h1, h2]
  have h3 : decide (2 ^ drop < 2 * 0) = false := by simp
  have h4 : (2 ^ drop == 2 * 0) = false := by simp
  simp [h4]

/-- The place of the last digit that is kept. -/
def lastOf (f : Format) (a : Nat) (place : Int) : Int := max (place + a.log2 - f.fractionBits) f.leastPlace

theorem nearest_exact (f : Format) (neg : Bool) (a d : Nat) (place : Int) (ha : a ≠ 0) (hw : a.log2 ≤ f.fractionBits) (hp : f.leastPlace ≤ place) :
    f.nearest neg (a * 2 ^ d) (place - d) = f.word neg (min ((lastOf f a place - f.leastPlace).toNat * f.binade + a * 2 ^ (place - lastOf f a place).toNat) f.infRung) := by
  have hpd : 0 < 2 ^ d := Nat.two_pow_pos d
  have h0 : a * 2 ^ d ≠ 0 := Nat.mul_ne_zero ha (by omega)
  unfold Format.nearest
  rw [if_neg h0]
  have hl : max (place - (d : Int) + ((a * 2 ^ d).log2 : Nat) - f.fractionBits) f.leastPlace = lastOf f a place := by
    unfold lastOf; rw [log2_mul_pow a d ha]; congr 1; omega
  simp only [hl]
  have hlast : lastOf f a place ≤ place := by unfold lastOf; omega
  have hk : Toward.even.cut neg ((a * 2 ^ d) <<< (place - (d : Int) - lastOf f a place).toNat) (lastOf f a place - (place - (d : Int))).toNat = a * 2 ^ (place - lastOf f a place).toNat := by
    generalize hc : (place - lastOf f a place).toNat = c
    by_cases h : d ≤ c
    · have e1 : (place - (d : Int) - lastOf f a place).toNat = c - d := by omega
      have e2 : (lastOf f a place - (place - (d : Int))).toNat = 0 := by omega
      rw [e1, e2]
      refine cut_whole _ _ _ _ ?_ (by omega)
      rw [Nat.shiftLeft_eq, Nat.mul_assoc, ← Nat.pow_add, Nat.pow_zero, Nat.mul_one]
      congr 2; omega
    · have e1 : (place - (d : Int) - lastOf f a place).toNat = 0 := by omega
      have e2 : (lastOf f a place - (place - (d : Int))).toNat = d - c := by omega
      rw [e1, e2]
      refine cut_whole _ _ _ _ ?_ ?_
      · rw [Nat.shiftLeft_zero, Nat.mul_assoc, ← Nat.pow_add]; congr 2; omega
      · rw [Nat.shiftLeft_zero, log2_mul_pow a d ha]; omega
  rw [hk]

theorem nearest_zero (f : Format) (neg : Bool) (place : Int) : f.nearest neg 0 place = f.word neg 0 := by
  unfold Format.nearest; simp

theorem read_word (f : Format) (neg : Bool) (r : Nat) (h : r < f.infRung) :
    f.read (f.word neg r) = if r < f.binade then .number neg r f.leastPlace else .number neg (f.binade + r % f.binade) (f.leastPlace + (r / f.binade - 1 : Nat)) := by
  have hi := f.infRung_lt
  have hs : r < f.signWeight := by omega
  have hsp : 0 < f.signWeight := by omega
  have e1 : f.word neg r / f.signWeight % 2 = neg.toNat := by
    unfold Format.word
    cases neg
    · simp [Nat.div_eq_of_lt hs]
    · simp [Nat.add_div_left _ hsp, Nat.div_eq_of_lt hs]
  have e2 : f.word neg r % f.signWeight = r := by
    unfold Format.word
    cases neg
    · simp [Nat.mod_eq_of_lt hs]
    · simp [Nat.mod_eq_of_lt hs]
  unfold Format.read
  simp only [e1, e2]
  have e3 : (neg.toNat == 1) = neg := by cases neg <;> rfl
  rw [e3]
  simp only [h, if_true]

/-- The number that a word stands for, in units of the least place. -/
def unitsOf (f : Format) (m : Nat) (e : Int) : Nat := m * 2 ^ (e - f.leastPlace).toNat

theorem read_exact (f : Format) (neg : Bool) (a d : Nat) (place : Int) (ha : a ≠ 0) (hw : a.log2 ≤ f.fractionBits) (hp : f.leastPlace ≤ place)
    (hfin : (lastOf f a place - f.leastPlace).toNat * f.binade + a * 2 ^ (place - lastOf f a place).toNat < f.infRung) :
    ∃ m e, f.read (f.nearest neg (a * 2 ^ d) (place - d)) = .number neg m e ∧ f.leastPlace ≤ e ∧ unitsOf f m e = a * 2 ^ (place - f.leastPlace).toNat := by
  rw [nearest_exact f neg a d place ha hw hp, Nat.min_eq_left (by omega), read_word f neg _ hfin]
  have hlast : lastOf f a place ≤ place := by unfold lastOf; omega
  have hlast2 : f.leastPlace ≤ lastOf f a place := by unfold lastOf; omega
  have hbin : f.binade = 2 ^ f.fractionBits := rfl
  have ha2 : 2 ^ a.log2 ≤ a := Nat.log2_self_le ha
  have ha3 : a < 2 ^ (a.log2 + 1) := Nat.lt_log2_self
  generalize hL : lastOf f a place = last at *
  by_cases hs : last = f.leastPlace ∧ place + a.log2 - f.fractionBits < f.leastPlace
  · obtain ⟨hs, hlt⟩ := hs
    have e0 : (last - f.leastPlace).toNat = 0 := by omega
    have hk : a * 2 ^ (place - last).toNat < f.binade := by
      rw [hbin]
      refine Nat.lt_of_lt_of_le ((Nat.mul_lt_mul_right (Nat.two_pow_pos _)).2 ha3) ?_
      rw [← Nat.pow_add]
      exact Nat.pow_le_pow_right (by omega) (by omega)
    rw [e0, Nat.zero_mul, Nat.zero_add, if_pos hk]
    refine ⟨_, _, rfl, Int.le_refl _, ?_⟩
    unfold unitsOf
    rw [hs, Int.sub_self]; simp
  · have hl : last = place + a.log2 - f.fractionBits := by unfold lastOf at hL; omega
    have hc : (place - last).toNat = f.fractionBits - a.log2 := by omega
    have hk1 : f.binade ≤ a * 2 ^ (place - last).toNat := by
      rw [hbin, hc]
      refine Nat.le_trans ?_ (Nat.mul_le_mul_right _ ha2)
      rw [← Nat.pow_add]
      exact Nat.pow_le_pow_right (by omega) (by omega)
    have hk2 : a * 2 ^ (place - last).toNat < 2 * f.binade := by
      rw [hbin, hc]
      refine Nat.lt_of_lt_of_le ((Nat.mul_lt_mul_right (Nat.two_pow_pos _)).2 ha3) ?_
      rw [← Nat.pow_add, Nat.mul_comm, ← Nat.pow_succ]
      exact Nat.pow_le_pow_right (by omega) (by omega)
    have hbp : 0 < f.binade := Nat.two_pow_pos _
    generalize hkk : a * 2 ^ (place - last).toNat = kept at *
    have hge : ¬ (last - f.leastPlace).toNat * f.binade + kept < f.binade := by
      have : 0 ≤ (last - f.leastPlace).toNat * f.binade := Nat.zero_le _
      omega
    rw [if_neg hge]
    have hmod : ((last - f.leastPlace).toNat * f.binade + kept) % f.binade = kept - f.binade := by
      rw [Nat.add_comm, Nat.add_mul_mod_self_right, Nat.mod_eq_sub_mod hk1, Nat.mod_eq_of_lt (by omega)]
    have hdiv : ((last - f.leastPlace).toNat * f.binade + kept) / f.binade = (last - f.leastPlace).toNat + 1 := by
      rw [Nat.add_comm, Nat.add_mul_div_right _ _ hbp, show kept / f.binade = 1 from by
        apply Nat.div_eq_of_lt_le <;> omega]
      omega
    refine ⟨_, _, rfl, by omega, ?_⟩
    unfold unitsOf
    rw [hmod, hdiv, show f.binade + (kept - f.binade) = kept from by omega, ← hkk]
    rw [show (f.leastPlace + (((last - f.leastPlace).toNat + 1 - 1 : Nat) : Int) - f.leastPlace).toNat = (last - f.leastPlace).toNat from by omega]
    rw [Nat.mul_assoc, ← Nat.pow_add]
    congr 2; omega

/-! ### What a word stands for, in units of the format's least place -/

def sgn (s : Bool) (v : Nat) : Int := if s then -(v : Int) else (v : Int)

/-- x is the finite word with the sign s that stands for v units of the least place. -/
def IsNum (f : Format) (x : Nat) (s : Bool) (v : Nat) : Prop :=
  ∃ m e, f.read x = .number s m e ∧ f.leastPlace ≤ e ∧ m < 2 ^ (f.fractionBits + 1) ∧ m * 2 ^ (e - f.leastPlace).toNat = v

theorem log2_lt_of_mul_lt {m k B : Nat} (hm : m ≠ 0) (h : m * 2 ^ k < 2 ^ B) : m.log2 + k < B := by
  have h1 : 2 ^ (m.log2 + k) ≤ m * 2 ^ k := by rw [Nat.pow_add]; exact Nat.mul_le_mul_right _ (Nat.log2_self_le hm)
  have h2 : 2 ^ (m.log2 + k) < 2 ^ B := Nat.lt_of_le_of_lt h1 h
  exact (Nat.pow_lt_pow_iff_right (by omega)).1 h2

theorem log2_le_of_lt {a n : Nat} (ha : a ≠ 0) (h : a < 2 ^ (n + 1)) : a.log2 ≤ n := by
  have := (Nat.log2_lt ha).2 h; omega

/-- The formats that are used. -/
def Two (f : Format) : Prop := f = single ∨ f = double

theorem isNum_nearest {f : Format} (hf : Two f) (s : Bool) (a d : Nat) (place : Int) (ha : a < 2 ^ (f.fractionBits + 1)) (hp : f.leastPlace ≤ place)
    (hmax : a * 2 ^ (place - f.leastPlace).toNat < 2 ^ (f.fractionBits + 2 ^ f.exponentBits - 2)) :
    IsNum f (f.nearest s (a * 2 ^ d) (place - d)) s (a * 2 ^ (place - f.leastPlace).toNat) := by
  have heb : 4 ≤ 2 ^ f.exponentBits := by rcases hf with rfl | rfl <;> decide
  by_cases h0 : a = 0
  · subst h0
    rw [Nat.zero_mul, nearest_zero, Nat.zero_mul]
    have hinf : 0 < f.infRung := by rcases hf with rfl | rfl <;> decide
    have hb : 0 < f.binade := Nat.two_pow_pos _
    refine ⟨0, f.leastPlace, ?_, Int.le_refl _, Nat.two_pow_pos _, by simp⟩
    rw [read_word f s 0 hinf, if_pos hb]
  · have hw := log2_le_of_lt h0 ha
    have hlg := log2_lt_of_mul_lt h0 hmax
    have ha3 : a < 2 ^ (a.log2 + 1) := Nat.lt_log2_self
    have hbp : 0 < f.binade := Nat.two_pow_pos _
    have hkept : a * 2 ^ (place - lastOf f a place).toNat < 2 * f.binade := by
      refine Nat.lt_of_lt_of_le ((Nat.mul_lt_mul_right (Nat.two_pow_pos _)).2 ha3) ?_
      have : f.binade = 2 ^ f.fractionBits := rfl
      rw [this, ← Nat.pow_add, Nat.mul_comm, ← Nat.pow_succ]
      refine Nat.pow_le_pow_right (by omega) ?_
      unfold lastOf; omega
    have hlast : (lastOf f a place - f.leastPlace).toNat + 3 ≤ 2 ^ f.exponentBits := by
      unfold lastOf; omega
    have hfin : (lastOf f a place - f.leastPlace).toNat * f.binade + a * 2 ^ (place - lastOf f a place).toNat < f.infRung := by
      have e : f.infRung = (2 ^ f.exponentBits - 1) * f.binade := rfl
      have k : ((lastOf f a place - f.leastPlace).toNat + 2) * f.binade ≤ (2 ^ f.exponentBits - 1) * f.binade := Nat.mul_le_mul_right _ (by omega)
      rw [Nat.add_mul] at k
      rw [e]; omega
    obtain ⟨m, e, h1, h2, h3⟩ := read_exact f s a d place h0 hw hp hfin
    refine ⟨m, e, h1, h2, ?_, h3⟩
    have hrw : f.nearest s (a * 2 ^ d) (place - d) = f.word s ((lastOf f a place - f.leastPlace).toNat * f.binade + a * 2 ^ (place - lastOf f a place).toNat) := by
      rw [nearest_exact f s a d place h0 hw hp, Nat.min_eq_left (by omega)]
    rw [hrw, read_word f s _ hfin] at h1
    split at h1
    · rename_i hlt
      simp only [Datum.number.injEq] at h1
      have : f.binade = 2 ^ f.fractionBits := rfl
      have e2 : (2 : Nat) ^ (f.fractionBits + 1) = 2 * f.binade := by rw [this, Nat.pow_succ, Nat.mul_comm]
      omega
    · simp only [Datum.number.injEq] at h1
      have : f.binade = 2 ^ f.fractionBits := rfl
      have e2 : (2 : Nat) ^ (f.fractionBits + 1) = 2 * f.binade := by rw [this, Nat.pow_succ, Nat.mul_comm]
      have := Nat.mod_lt ((lastOf f a place - f.leastPlace).toNat * f.binade + a * 2 ^ (place - lastOf f a place).toNat) hbp
      omega

theorem signed_eq (s : Bool) (m u : Nat) : signed s m u = sgn s (m * 2 ^ u) := by
  unfold signed sgn; rw [Nat.shiftLeft_eq]
theorem sgn_mul (s : Bool) (v c : Nat) : sgn s (v * c) = sgn s v * c := by
  unfold sgn; cases s <;> simp [Int.neg_mul]

theorem compare_mul_pos (a b : Int) (c : Nat) (hc : 0 < c) : compare (a * c) (b * c) = compare a b := by
  have hc' : (0 : Int) < c := by omega
  have e1 : (a * c < b * c) ↔ a < b := Int.mul_lt_mul_right hc'
  have e2 : (a * c = b * c) ↔ a = b := Int.mul_eq_mul_right_iff (by omega)
  show compareOfLessAndEq (a * c) (b * c) = compareOfLessAndEq a b
  unfold compareOfLessAndEq
  simp only [e1, e2]

theorem IsNum.order {f : Format} {x y : Nat} {s t : Bool} {v u : Nat} (hx : IsNum f x s v) (hy : IsNum f y t u) : f.order x y = some (compare (sgn s v) (sgn t u)) := by
  obtain ⟨m, i, h1, h2, _, rfl⟩ := hx
  obtain ⟨n, j, k1, k2, _, rfl⟩ := hy
  unfold Format.order
  rw [h1, k1]
  simp only [Datum.order, signed_eq]
  have e1 : m * 2 ^ (i - f.leastPlace).toNat = m * 2 ^ (i - min i j).toNat * 2 ^ (min i j - f.leastPlace).toNat := by
    rw [Nat.mul_assoc, ← Nat.pow_add]; congr 2; omega
  have e2 : n * 2 ^ (j - f.leastPlace).toNat = n * 2 ^ (j - min i j).toNat * 2 ^ (min i j - f.leastPlace).toNat := by
    rw [Nat.mul_assoc, ← Nat.pow_add]; congr 2; omega
  rw [e1, e2, sgn_mul s (m * 2 ^ (i - min i j).toNat), sgn_mul t (n * 2 ^ (j - min i j).toNat), compare_mul_pos _ _ _ (Nat.two_pow_pos _)]

theorem cut_zero (neg : Bool) (n drop : Nat) : Toward.zero.cut neg n drop = n / 2 ^ drop := by
  unfold Toward.cut
  simp only [Nat.one_shiftLeft, Bool.toNat_false, Nat.add_zero]
  by_cases h : drop ≤ n.log2 + 2
  · rw [Nat.min_eq_left h]
  · rw [Nat.min_eq_right (by omega)]
    have h1 : n < 2 ^ (n.log2 + 2) := Nat.lt_of_lt_of_le Nat.lt_log2_self (Nat.pow_le_pow_right (by omega) (by omega))
    have h2 : n < 2 ^ drop := Nat.lt_of_lt_of_le h1 (Nat.pow_le_pow_right (by omega) (by omega))
    rw [Nat.div_eq_of_lt h1, Nat.div_eq_of_lt h2]

/-- Cut towards zero, an integer. -/
theorem IsNum.toInt {f : Format} {x : Nat} {s : Bool} {v : Nat} (hx : IsNum f x s v) (hL : f.leastPlace ≤ 0) : (f.read x).toInt .zero = some (sgn s (v / 2 ^ (-f.leastPlace).toNat)) := by
  obtain ⟨m, i, h1, h2, _, rfl⟩ := hx
  rw [h1]
  simp only [Datum.toInt, Datum.integral, signed_eq, cut_zero]
  congr 2
  rw [Nat.pow_zero, Nat.mul_one, Nat.shiftLeft_eq]
  by_cases h : 0 ≤ i
  · have e1 : (-i).toNat = 0 := by omega
    have e2 : (i - f.leastPlace).toNat = i.toNat + (-f.leastPlace).toNat := by omega
    rw [e1, e2, Nat.pow_zero, Nat.div_one, Nat.pow_add, ← Nat.mul_assoc, Nat.mul_div_cancel _ (Nat.two_pow_pos _)]
  · have e1 : i.toNat = 0 := by omega
    have e2 : (-f.leastPlace).toNat = (i - f.leastPlace).toNat + (-i).toNat := by omega
    rw [e1, e2, Nat.pow_zero, Nat.mul_one, Nat.pow_add, ← Nat.div_div_eq_div_mul, Nat.mul_div_cancel _ (Nat.two_pow_pos _)]

/-- Times a power of two, the power on either side. -/
theorem IsNum.mul_pow {f : Format} (hf : Two f) {x c : Nat} {s : Bool} {v j : Nat} (hx : IsNum f x s v) (hc : f.read c = .number false (2 ^ f.fractionBits) ((j : Int) - f.fractionBits))
    (hmax : v * 2 ^ j < 2 ^ (f.fractionBits + 2 ^ f.exponentBits - 2)) : ∃ r, f.mul x c = some r ∧ f.mul c x = some r ∧ IsNum f r s (v * 2 ^ j) := by
  obtain ⟨m, i, h1, h2, h3, rfl⟩ := hx
  have e : m * 2 ^ (i - f.leastPlace).toNat * 2 ^ j = m * 2 ^ (i + j - f.leastPlace).toNat := by
    rw [Nat.mul_assoc, ← Nat.pow_add]; congr 2; omega
  rw [e] at hmax ⊢
  have h := isNum_nearest hf s m f.fractionBits (i + j) h3 (by omega) hmax
  refine ⟨_, ?_, ?_, h⟩
  · unfold Format.mul
    rw [h1, hc]
    simp only [Datum.product, Option.map_some, Format.write, Bool.xor_false]
    congr 2
    omega
  · unfold Format.mul
    rw [h1, hc]
    simp only [Datum.product, Option.map_some, Format.write, Bool.false_xor]
    congr 2
    · exact Nat.mul_comm _ _
    · omega
end Go.Proofs.YthmaoeajbmfmaaaGreatDoor

/-
  Plain facts on samples: a sample's word stands for an integer over 16; what Go's conversions, comparisons, products and quotients make of it.
  Condition: the hypotheses written at each theorem (sizes of the integers).
-/
namespace Go.Proofs.YthmaoeajbmfmaaaGreatDoor
open Ieee

theorem two32 : Two single := .inl rfl
theorem two64 : Two double := .inr rfl

/-- x is a word of float32 that stands for k/16 (0 has two words). -/
def Smp (x : Nat) (k : Int) : Prop := ∃ s, IsNum single x s (k.natAbs * 2 ^ 145) ∧ (k < 0 → s = true) ∧ (0 < k → s = false)

theorem sgn_smp {s : Bool} {k : Int} (c : Nat) (h1 : k < 0 → s = true) (h2 : 0 < k → s = false) : sgn s (k.natAbs * c) = k * c := by
  rw [sgn_mul]
  congr 1
  unfold sgn
  cases s
  · simp only [Bool.false_eq_true, if_false]
    have : ¬ k < 0 := fun h => by have := h1 h; cases this
    omega
  · simp only [if_true]
    have : ¬ 0 < k := fun h => by have := h2 h; cases this
    omega

theorem Smp.order {x y : Nat} {k l : Int} (hx : Smp x k) (hy : Smp y l) : single.order x y = some (compare k l) := by
  obtain ⟨s, h, h1, h2⟩ := hx
  obtain ⟨t, g, g1, g2⟩ := hy
  rw [h.order g, sgn_smp _ h1 h2, sgn_smp _ g1 g2, compare_mul_pos _ _ _ (Nat.two_pow_pos _)]

theorem pow_split {v a b : Nat} (h : v < 2 ^ a) : v * 2 ^ b < 2 ^ (a + b) := by
  rw [Nat.pow_add]; exact (Nat.mul_lt_mul_right (Nat.two_pow_pos _)).2 h

/-- int(x * 16), the factor on either side. -/
theorem Smp.int16 {x : Nat} {k : Int} (hx : Smp x k) (hk : k.natAbs < 2 ^ 40) :
    ∃ r, floatBits .mul .f32 x 1098907648 = some r ∧ floatBits .mul .f32 1098907648 x = some r ∧ floatToIntVal .f32 r .i64 = some k := by
  obtain ⟨s, h, h1, h2⟩ := hx
  have hc : single.read 1098907648 = .number false (2 ^ single.fractionBits) (((4 : Nat) : Int) - single.fractionBits) := by decide +kernel
  obtain ⟨r, m1, m2, m3⟩ := h.mul_pow two32 hc (by
    have e : k.natAbs * 2 ^ 145 * 2 ^ 4 = k.natAbs * 2 ^ 149 := by rw [Nat.mul_assoc]
    rw [e]
    exact Nat.lt_trans (pow_split hk) (by decide +kernel))
  refine ⟨r, m1, m2, ?_⟩
  have ht := m3.toInt (by decide)
  have e : k.natAbs * 2 ^ 145 * 2 ^ 4 / 2 ^ (-single.leastPlace).toNat = k.natAbs * 1 := by
    have e1 : k.natAbs * 2 ^ 145 * 2 ^ 4 = k.natAbs * 2 ^ 149 := by rw [Nat.mul_assoc]
    have e2 : (-single.leastPlace).toNat = 149 := by decide
    rw [e1, e2, Nat.mul_div_cancel _ (Nat.two_pow_pos _), Nat.mul_one]
  rw [e, sgn_smp 1 h1 h2] at ht
  have ht' : (FloatKind.f32.decode r).toInt .zero = some k := by rw [show ((1 : Nat) : Int) = 1 from rfl, Int.mul_one] at ht; exact ht
  unfold floatToIntVal
  rw [ht']
  have h40 : k.natAbs < 1099511627776 := hk
  have : IntKind.i64.min ≤ k ∧ k ≤ IntKind.i64.max := by
    have e1 : IntKind.i64.min = -9223372036854775808 := by decide
    have e2 : IntKind.i64.max = 9223372036854775807 := by decide
    rw [e1, e2]; omega
  simp only [this, and_self, if_true]

/-- float32(n). -/
theorem isNum_ofInt (n : Int) (hn : n.natAbs < 2 ^ 24) : IsNum single (floatOfInt .f32 n) (decide (n < 0)) (n.natAbs * 2 ^ 149) := by
  have h := isNum_nearest two32 (decide (n < 0)) n.natAbs 0 0 hn (by decide) (by
    have e : ((0 : Int) - single.leastPlace).toNat = 149 := by decide
    rw [e]; exact Nat.lt_trans (pow_split hn) (by decide +kernel))
  have e : ((0 : Int) - single.leastPlace).toNat = 149 := by decide
  rw [e] at h
  simpa [floatOfInt, FloatKind.nearest, FloatKind.encode, Format.write, FloatKind.format] using h

/-- float32(n) / 16. -/
theorem div16 (n : Int) (hn : n.natAbs < 2 ^ 24) : ∃ r, floatBits .quo .f32 (floatOfInt .f32 n) 1098907648 = some r ∧ Smp r n := by
  obtain ⟨m, e, h1, h2, h3, h4⟩ := isNum_ofInt n hn
  have hL : single.leastPlace = -149 := by decide
  have hc : single.read 1098907648 = .number false (2 ^ 23) (-19) := by decide +kernel
  have h3' : m < 2 ^ 24 := h3
  rw [hL] at h2 h4
  have hlog : (2 ^ 23 : Nat).log2 = 23 := by decide +kernel
  by_cases h0 : n = 0
  · subst h0
    have hm : m = 0 := by
      have : m * 2 ^ (e - -149).toNat = 0 := by rw [h4]; simp
      rcases Nat.mul_eq_zero.1 this with h | h
      · exact h
      · exact absurd h (by have := Nat.two_pow_pos (e - -149).toNat; omega)
    subst hm
    refine ⟨single.word false 0, ?_, ?_⟩
    · show single.div _ _ = _
      unfold Format.div
      rw [h1, hc]
      simp [Datum.quotient, Format.write, nearest_zero]
    · refine ⟨false, ⟨0, single.leastPlace, by decide +kernel, Int.le_refl _, by decide, by simp⟩, by omega, by omega⟩
  · have hm0 : m ≠ 0 := by
      rintro rfl
      rw [Nat.zero_mul] at h4
      rcases Nat.mul_eq_zero.1 h4.symm with h | h
      · omega
      · exact absurd h (by have := Nat.two_pow_pos 149; omega)
    have hml : m.log2 ≤ 23 := log2_le_of_lt hm0 h3
    have he : -145 ≤ e := by
      refine Classical.byContradiction fun hh => ?_
      have k1 : m * 2 ^ (e - -149).toNat < 2 ^ (24 + 4) := by
        refine Nat.lt_of_lt_of_le (pow_split h3') (Nat.pow_le_pow_right (by omega) (by omega))
      rw [h4] at k1
      have k2 : 2 ^ 149 ≤ n.natAbs * 2 ^ 149 := Nat.le_mul_of_pos_left _ (by omega)
      have k3 : (2 : Nat) ^ 149 < 2 ^ (24 + 4) := Nat.lt_of_le_of_lt k2 k1
      have := (Nat.pow_lt_pow_iff_right (show 1 < 2 by omega)).1 k3
      omega
    have hmax : m * 2 ^ (e - 4 - single.leastPlace).toNat < 2 ^ (single.fractionBits + 2 ^ single.exponentBits - 2) := by
      refine Nat.lt_of_le_of_lt (Nat.mul_le_mul_left _ (Nat.pow_le_pow_right (by omega) (show (e - 4 - single.leastPlace).toNat ≤ (e - -149).toNat by omega))) ?_
      rw [h4]
      exact Nat.lt_trans (pow_split hn) (by decide +kernel)
    have hk := isNum_nearest two32 (decide (n < 0)) m (25 + 23 - m.log2 - 22) (e - 4) h3 (by omega) hmax
    refine ⟨single.nearest (decide (n < 0)) (m * 2 ^ (25 + 23 - m.log2 - 22)) (e - 4 - ((25 + 23 - m.log2 - 22 : Nat) : Int)), ?_, decide (n < 0), ?_, by simp, by simp; omega⟩
    rotate_left
    · have ev : m * 2 ^ (e - 4 - single.leastPlace).toNat = n.natAbs * 2 ^ 145 := by
        have e1 : (e - -149).toNat = (e - 4 - single.leastPlace).toNat + 4 := by omega
        rw [e1, Nat.pow_add, ← Nat.mul_assoc] at h4
        have e2 : n.natAbs * 2 ^ 149 = n.natAbs * 2 ^ 145 * 2 ^ 4 := by rw [Nat.mul_assoc]
        rw [e2] at h4
        exact Nat.eq_of_mul_eq_mul_right (by decide) h4
      rw [ev] at hk
      exact hk
    · show single.div _ _ = _
      unfold Format.div
      rw [h1, hc]
      have hsplit : m <<< (25 + 23 - m.log2) = m * 2 ^ (25 + 23 - m.log2 - 23) * 2 ^ 23 := by
        rw [Nat.shiftLeft_eq, Nat.mul_assoc, ← Nat.pow_add]; congr 2; omega
      have hd : m <<< (25 + 23 - m.log2) / 2 ^ 23 = m * 2 ^ (25 + 23 - m.log2 - 23) := by rw [hsplit]; exact Nat.mul_div_cancel _ (by decide)
      have hr : m <<< (25 + 23 - m.log2) % 2 ^ 23 = 0 := by rw [hsplit]; exact Nat.mul_mod_left _ _
      have hne : ¬ (2 ^ 23 : Nat) = 0 := by decide
      simp only [Datum.quotient, hne, if_false, Option.map_some, Format.write, Bool.xor_false, hlog, show single.fractionBits + 2 = 25 from rfl, hd, hr]
      congr 2
      · have : (25 + 23 - m.log2 - 22 : Nat) = (25 + 23 - m.log2 - 23) + 1 := by omega
        rw [this, Nat.pow_succ]
        simp [Nat.mul_comm, Nat.mul_left_comm]
      · omega

/-- The word that 'float32(n) / 16' gives. -/
def smpOf (n : Int) : Nat := (floatBits .quo .f32 (floatOfInt .f32 n) 1098907648).getD 0
theorem smpOf_run (n : Int) (hn : n.natAbs < 2 ^ 24) : floatBits .quo .f32 (floatOfInt .f32 n) 1098907648 = some (smpOf n) := by
  obtain ⟨r, h, _⟩ := div16 n hn
  unfold smpOf; rw [h]; rfl
theorem smpOf_smp (n : Int) (hn : n.natAbs < 2 ^ 24) : Smp (smpOf n) n := by
  obtain ⟨r, h, hs⟩ := div16 n hn
  unfold smpOf; rw [h]; exact hs
end Go.Proofs.YthmaoeajbmfmaaaGreatDoor

/-
  Plain facts on words of float32: a finite word is known by its sign and by the number that it stands for; the word of a sample with an integer other than 0 is the one that its integer gives.
-/
namespace Go.Proofs.YthmaoeajbmfmaaaGreatDoor
open Ieee
set_option linter.unusedVariables false

theorem read_number {x : Nat} {s : Bool} {m : Nat} {e : Int} (hx : x < 2 ^ 32) (h : single.read x = .number s m e) :
    ∃ r, r < 2 ^ 31 ∧ x = (if s then 2 ^ 31 else 0) + r ∧ ((r < 2 ^ 23 ∧ m = r ∧ e = -149) ∨ (2 ^ 23 ≤ r ∧ m = 2 ^ 23 + r % 2 ^ 23 ∧ e = -149 + (r / 2 ^ 23 - 1 : Nat))) := by
  have hw : single.signWeight = 2 ^ 31 := by decide
  have hb : single.binade = 2 ^ 23 := by decide
  have hL : single.leastPlace = -149 := by decide
  unfold Format.read at h
  rw [hw, hb, hL] at h
  have hd : x / 2 ^ 31 = 0 ∨ x / 2 ^ 31 = 1 := by omega
  refine ⟨x % 2 ^ 31, Nat.mod_lt _ (by decide), ?_⟩
  have hm := Nat.div_add_mod x (2 ^ 31)
  dsimp only at h
  split at h
  · rename_i h1
    simp only [Datum.number.injEq] at h
    obtain ⟨h2, h3, h4⟩ := h
    refine ⟨?_, .inl ⟨h1, h3.symm, h4.symm⟩⟩
    rcases hd with hd | hd <;> rw [hd] at h2 hm <;> subst h2 <;> simp <;> omega
  · rename_i h1
    split at h
    · rename_i h5
      simp only [Datum.number.injEq] at h
      obtain ⟨h2, h3, h4⟩ := h
      refine ⟨?_, .inr ⟨by omega, h3.symm, h4.symm⟩⟩
      rcases hd with hd | hd <;> rw [hd] at h2 hm <;> subst h2 <;> simp <;> omega
    · split at h <;> cases h

theorem log2_23 {a : Nat} (h0 : 2 ^ 23 ≤ a) (h1 : a < 2 ^ 24) : a.log2 = 23 := by
  have ha : a ≠ 0 := by omega
  have e1 := (Nat.log2_lt (k := 24) ha).2 h1
  have e2 : 23 ≤ a.log2 := (Nat.le_log2 ha).2 h0
  omega

theorem isNum_inj {x y : Nat} {s : Bool} {v : Nat} (hx : x < 2 ^ 32) (hy : y < 2 ^ 32) (h : IsNum single x s v) (g : IsNum single y s v) : x = y := by
  obtain ⟨m, i, h1, _, _, h4⟩ := h
  obtain ⟨n, j, g1, _, _, g4⟩ := g
  obtain ⟨r, hr, hxr, hc⟩ := read_number hx h1
  obtain ⟨q, hq, hyq, gc⟩ := read_number hy g1
  have hL : single.leastPlace = -149 := by decide
  rw [hL] at h4 g4
  suffices h : r = q by rw [hxr, hyq, h]
  rcases hc with ⟨hc1, rfl, rfl⟩ | ⟨hc1, hc2, rfl⟩ <;> rcases gc with ⟨gc1, rfl, rfl⟩ | ⟨gc1, gc2, rfl⟩
  · simp at h4 g4; omega
  · exfalso
    have e1 : m = v := by simpa using h4
    have e2 : 2 ^ 23 ≤ n := by omega
    have e3 : n ≤ v := by rw [← g4]; exact Nat.le_mul_of_pos_right _ (Nat.two_pow_pos _)
    omega
  · exfalso
    have e1 : n = v := by simpa using g4
    have e2 : 2 ^ 23 ≤ m := by omega
    have e3 : m ≤ v := by rw [← h4]; exact Nat.le_mul_of_pos_right _ (Nat.two_pow_pos _)
    omega
  · have e1 : (-149 + ((r / 2 ^ 23 - 1 : Nat) : Int) - -149).toNat = r / 2 ^ 23 - 1 := by omega
    have e2 : (-149 + ((q / 2 ^ 23 - 1 : Nat) : Int) - -149).toNat = q / 2 ^ 23 - 1 := by omega
    rw [e1] at h4
    rw [e2] at g4
    have k1 : m.log2 = 23 := log2_23 (by omega) (by omega)
    have k2 : n.log2 = 23 := log2_23 (by omega) (by omega)
    have l1 := log2_mul_pow m (r / 2 ^ 23 - 1) (by omega)
    have l2 := log2_mul_pow n (q / 2 ^ 23 - 1) (by omega)
    rw [h4, k1] at l1
    rw [g4, k2] at l2
    have e3 : r / 2 ^ 23 - 1 = q / 2 ^ 23 - 1 := by omega
    rw [e3, ← g4] at h4
    have e4 : m = n := Nat.eq_of_mul_eq_mul_right (Nat.two_pow_pos _) h4
    have := Nat.div_add_mod r (2 ^ 23)
    have := Nat.div_add_mod q (2 ^ 23)
    omega

/-- The word of a sample whose integer is not 0 is the one that the integer gives. -/
theorem smp_word {x : Nat} {k : Int} (hx : x < 2 ^ 32) (h : Smp x k) (hk : k ≠ 0) (hs : k.natAbs < 2 ^ 24) (hl : smpOf k < 2 ^ 32) : x = smpOf k := by
  obtain ⟨s, h1, h2, h3⟩ := h
  obtain ⟨t, g1, g2, g3⟩ := smpOf_smp k hs
  have e : s = t := by
    rcases Int.lt_or_gt_of_ne hk with h | h
    · rw [h2 h, g2 h]
    · rw [h3 h, g3 h]
  subst e
  exact isNum_inj hx hl h1 g1

theorem smpOf_zero : smpOf 0 = 0 := by decide +kernel
/-- The words that stand for 0. -/
theorem smp_zero {x : Nat} (hx : x < 2 ^ 32) (h : Smp x 0) : x = 0 ∨ x = 2147483648 := by
  obtain ⟨s, h1, _, _⟩ := h
  have e0 : IsNum single (single.word s 0) s 0 := by
    cases s
    · exact ⟨0, -149, by decide +kernel, by decide, by decide, by decide⟩
    · exact ⟨0, -149, by decide +kernel, by decide, by decide, by decide⟩
  have h1' : IsNum single x s 0 := by simpa using h1
  have e := isNum_inj hx (by cases s <;> decide) h1' e0
  cases s
  · exact .inl e
  · exact .inr e
end Go.Proofs.YthmaoeajbmfmaaaGreatDoor

/-
  Contracts of small functions of the program and of the reference (ranges, sides, sums of places): what each returns, for all arguments in the ranges that are written at each theorem.
-/
namespace Go.Proofs.YthmaoeajbmfmaaaGreatDoor
open Go.RowKit

def rangeErr (n lo hi : Int) : Int := if n < lo ∨ hi < n then 3 else 0
theorem rangeErr_in {n lo hi : Int} (h1 : lo ≤ n) (h2 : n ≤ hi) : rangeErr n lo hi = 0 := by unfold rangeErr; rw [if_neg (by omega)]
theorem rangeErr_out {n lo hi : Int} (h : n < lo ∨ hi < n) : rangeErr n lo hi = 3 := by unfold rangeErr; rw [if_pos h]
theorem rangeErr_zero {n lo hi : Int} (h : rangeErr n lo hi = 0) : lo ≤ n ∧ n ≤ hi := by
  unfold rangeErr at h; split at h
  · cases h
  · omega

theorem ret_int {k : IntKind} {a b : Int} (h : a = b) : Ending.returned (.int k a) = .returned (.int k b) := by rw [h]

set_option maxHeartbeats 400000 in
theorem when_any (b : Bool) (n : Int) (w : World) :
    Calls Tryz.prog 144 #[.bool b, .int .i64 n] w fun e w' => e = .returned (.int .i64 (if b then n else 0)) ∧ w = w' := by
  cases b
  · go_enter Tryz.func144, Tryz.ntmps144
    go_wp2
    go_ret
    exact ⟨rfl, rfl⟩
  · go_enter Tryz.func144, Tryz.ntmps144
    go_wp2
    go_ret
    exact ⟨rfl, rfl⟩

set_option maxHeartbeats 400000 in
theorem refCheckRange_any (n lo hi : Int) (w : World) :
    Calls Tryz.prog 82 #[.int .i64 n, .int .i64 lo, .int .i64 hi] w fun e w' => e = .returned (.int .i64 (rangeErr n lo hi)) ∧ w = w' := by
  by_cases h1 : n < lo
  · rw [rangeErr_out (.inl h1)]
    go_enter Tryz.func82, Tryz.ntmps82
    go_wp2_with (go_at_call 144; refine (when_any true 3 _).mono ?_; rintro e w' ⟨rfl, rfl⟩)
    go_ret
    exact ⟨rfl, rfl⟩
  · by_cases h2 : hi < n
    · rw [rangeErr_out (.inr h2)]
      go_enter Tryz.func82, Tryz.ntmps82
      go_wp2_with (go_at_call 144; refine (when_any true 3 _).mono ?_; rintro e w' ⟨rfl, rfl⟩)
      go_ret
      exact ⟨rfl, rfl⟩
    · rw [rangeErr_in (by omega) (by omega)]
      go_enter Tryz.func82, Tryz.ntmps82
      go_wp2_with (go_at_call 144; refine (when_any false 3 _).mono ?_; rintro e w' ⟨rfl, rfl⟩)
      go_ret
      exact ⟨rfl, rfl⟩

set_option maxHeartbeats 400000 in
theorem cwhen_any (b : Bool) (n : Int) (w : World) :
    Calls Tryz.prog 110 #[.bool b, .int .i64 n] w fun e w' => e = .returned (.int .i64 (if b then n else 0)) ∧ w = w' := by
  cases b
  · go_enter Tryz.func110, Tryz.ntmps110
    go_wp2
    go_ret
    exact ⟨rfl, rfl⟩
  · go_enter Tryz.func110, Tryz.ntmps110
    go_wp2
    go_ret
    exact ⟨rfl, rfl⟩

set_option maxHeartbeats 400000 in
theorem checkRange_any (n lo hi : Int) (w : World) :
    Calls Tryz.prog 127 #[.int .i64 n, .int .i64 lo, .int .i64 hi] w fun e w' => e = .returned (.int .i64 (rangeErr n lo hi)) ∧ w = w' := by
  by_cases h1 : n < lo
  · rw [rangeErr_out (.inl h1)]
    go_enter Tryz.func127, Tryz.ntmps127
    go_wp2_with (go_at_call 110; refine (cwhen_any true 3 _).mono ?_; rintro e w' ⟨rfl, rfl⟩)
    go_ret
    exact ⟨rfl, rfl⟩
  · by_cases h2 : hi < n
    · rw [rangeErr_out (.inr h2)]
      go_enter Tryz.func127, Tryz.ntmps127
      go_wp2_with (go_at_call 110; refine (cwhen_any true 3 _).mono ?_; rintro e w' ⟨rfl, rfl⟩)
      go_ret
      exact ⟨rfl, rfl⟩
    · rw [rangeErr_in (by omega) (by omega)]
      go_enter Tryz.func127, Tryz.ntmps127
      go_wp2_with (go_at_call 110; refine (cwhen_any false 3 _).mono ?_; rintro e w' ⟨rfl, rfl⟩)
      go_ret
      exact ⟨rfl, rfl⟩

set_option maxHeartbeats 400000 in
theorem refCheckSide_any (n : Int) (w : World) :
    Calls Tryz.prog 101 #[.int .i64 n] w fun e w' => e = .returned (.int .i64 (rangeErr n 1 64)) ∧ w = w' := by
  go_enter Tryz.func101, Tryz.ntmps101
  go_wp2_with (go_at_call 82; refine (refCheckRange_any n 1 64 _).mono ?_; rintro e w' ⟨rfl, rfl⟩)
  go_ret
  exact ⟨rfl, rfl⟩

set_option maxHeartbeats 400000 in
theorem checkSide_any (n : Int) (w : World) :
    Calls Tryz.prog 122 #[.int .i64 n] w fun e w' => e = .returned (.int .i64 (rangeErr n 1 64)) ∧ w = w' := by
  go_enter Tryz.func122, Tryz.ntmps122
  go_wp2_with (go_at_call 127; refine (checkRange_any n 1 64 _).mono ?_; rintro e w' ⟨rfl, rfl⟩)
  go_ret
  exact ⟨rfl, rfl⟩

set_option maxHeartbeats 400000 in
theorem following_any (n : Int) (h0 : 0 ≤ n) (h1 : n ≤ 65535) (w : World) :
    Calls Tryz.prog 167 #[.int .i64 n] w fun e w' => e = .returned (.int .i64 ((n + 1) % 65536)) ∧ w = w' := by
  go_enter Tryz.func167, Tryz.ntmps167
  go_wp2
  go_ret
  exact ⟨rfl, rfl⟩

/-- Rounded down: Go's quotient and remainder of a number below 0. -/
theorem tdiv_neg_floor {a b : Int} (ha : a < 0) (hb : 1 ≤ b) : (a.tmod b < 0 → a.tdiv b - 1 = a / b) ∧ (¬ a.tmod b < 0 → a.tdiv b = a / b) ∧ a ≤ a.tdiv b ∧ a.tdiv b ≤ 0 := by
  obtain ⟨c, rfl⟩ : ∃ c, a = -c := ⟨-a, by omega⟩
  have hc : 0 ≤ c := by omega
  have e1 : (-c).tdiv b = -(c / b) := by rw [Int.neg_tdiv, Int.tdiv_eq_ediv_of_nonneg hc]
  have e2 : (-c).tmod b = -(c % b) := by rw [Int.neg_tmod, Int.tmod_eq_emod_of_nonneg hc]
  have k := Int.emod_add_mul_ediv c b
  have k0 := Int.emod_nonneg c (show b ≠ 0 by omega)
  have k1 := Int.emod_lt_of_pos c (show 0 < b by omega)
  have k2 : 0 ≤ c / b := Int.ediv_nonneg hc (by omega)
  have k3 : c / b ≤ c := Int.ediv_le_self _ hc
  rw [e1, e2]
  refine ⟨fun h => ?_, fun h => ?_, by omega, by omega⟩
  · refine (((Int.ediv_emod_unique (a := -c) (b := b) (r := b - c % b) (q := -(c / b) - 1) (by omega)).2 ⟨?_, by omega, by omega⟩).1).symm
    rw [Int.mul_sub, Int.mul_neg, Int.mul_one]; omega
  · refine (((Int.ediv_emod_unique (a := -c) (b := b) (r := 0) (q := -(c / b)) (by omega)).2 ⟨?_, by omega, by omega⟩).1).symm
    rw [Int.mul_neg]; omega

set_option maxHeartbeats 800000 in
theorem lowered_any (a b : Int) (h0 : -1099511627776 ≤ a) (h1 : a ≤ 1099511627776) (h2 : 1 ≤ b) (h3 : b ≤ 1099511627776) (w : World) :
    Calls Tryz.prog 129 #[.int .i64 a, .int .i64 b] w fun e w' => e = .returned (.int .i64 (a / b)) ∧ w = w' := by
  by_cases hn : 0 ≤ a
  · have hm : ¬ (a % b < 0) := by have := Int.emod_nonneg a (show b ≠ 0 by omega); omega
    go_enter Tryz.func129, Tryz.ntmps129
    go_wp2
    go_ret
    exact ⟨rfl, rfl⟩
  · obtain ⟨f1, f2, f3, f4⟩ := tdiv_neg_floor (show a < 0 by omega) h2
    by_cases hm : a.tmod b < 0
    all_goals
      have E : Hid ((a.tmod b < 0 → a.tdiv b - 1 = a / b) ∧ (¬ a.tmod b < 0 → a.tdiv b = a / b)) := ⟨f1, f2⟩
      have H := Lib.hid hm
      clear f1 f2
      go_enter Tryz.func129, Tryz.ntmps129
      go_wp2
      go_ret
      exact ⟨ret_int (by first | exact E.out.1 H.out | exact E.out.2 H.out), rfl⟩
end Go.Proofs.YthmaoeajbmfmaaaGreatDoor

/-
  Contracts of writeNumber and readNumber for two and four bytes, and of checksum.
-/
namespace Go.Proofs.YthmaoeajbmfmaaaGreatDoor
open Go.RowKit
set_option linter.unusedVariables false

/-- Byte k of a number, the lowest one first. -/
def byt (v : Int) (k : Nat) : Int := v / 256 ^ k % 256
theorem byt_bd (v : Int) (k : Nat) : 0 ≤ byt v k ∧ byt v k ≤ 255 := by unfold byt; omega

theorem byt_0 (v : Int) : v % 256 = byt v 0 := by unfold byt; simp
theorem byt_1 (v : Int) : v / 256 % 256 = byt v 1 := by unfold byt; simp
theorem byt_2 (v : Int) : v / 256 / 256 % 256 = byt v 2 := by unfold byt; omega
theorem byt_3' (v : Int) (h0 : 0 ≤ v) (h1 : v ≤ 4294967295) : v / 256 / 256 / 256 = byt v 3 := by unfold byt; omega
theorem byt_1' (v : Int) (h0 : 0 ≤ v) (h1 : v ≤ 65535) : v / 256 = byt v 1 := by unfold byt; omega

set_option maxRecDepth 100000 in
set_option maxHeartbeats 3200000 in
theorem write4_any {x0 x1 x2 x3 : Int} (w : World) (f o : Nat) (c : Nat) (v : Int) (h0 : 0 ≤ v) (h1 : v ≤ 4294967295)
    (c0 : w.cell? ⟨f, o, none⟩ = some (.int .u8 x0)) (c1 : w.cell? ⟨f, o + 1, none⟩ = some (.int .u8 x1)) (c2 : w.cell? ⟨f, o + 2, none⟩ = some (.int .u8 x2)) (c3 : w.cell? ⟨f, o + 3, none⟩ = some (.int .u8 x3))
    (f0 : w.frozen? ⟨f, o, none⟩ = false) (f1 : w.frozen? ⟨f, o + 1, none⟩ = false) (f2 : w.frozen? ⟨f, o + 2, none⟩ = false) (f3 : w.frozen? ⟨f, o + 3, none⟩ = false) :
    Calls Tryz.prog 146 #[.slice (some ⟨f, o, none⟩) 4 c, .int .i64 v] w fun e w' => e = .returned (.tuple #[]) ∧
      w' = (((w.setCell ⟨f, o + 3, none⟩ (.int .u8 (byt v 0))).setCell ⟨f, o + 2, none⟩ (.int .u8 (byt v 1))).setCell ⟨f, o + 1, none⟩ (.int .u8 (byt v 2))).setCell ⟨f, o, none⟩ (.int .u8 (byt v 3)) := by
  go_enter Tryz.func146, Tryz.ntmps146
  go_wp2
  refine wp_loop_rounds 5 ?_
  rw [rounds_succ]
  go_wp2
  rw [rounds_succ]
  go_wp2
  rw [rounds_succ]
  go_wp2
  rw [rounds_succ]
  go_wp2
  rw [rounds_succ]
  go_wp2
  go_end0
  refine ⟨rfl, ?_⟩
  rw [byt_0, byt_1, byt_2, byt_3' v h0 h1]

set_option maxRecDepth 100000 in
set_option maxHeartbeats 3200000 in
theorem write2_any {x0 x1 : Int} (w : World) (f o : Nat) (c : Nat) (v : Int) (h0 : 0 ≤ v) (h1 : v ≤ 65535)
    (c0 : w.cell? ⟨f, o, none⟩ = some (.int .u8 x0)) (c1 : w.cell? ⟨f, o + 1, none⟩ = some (.int .u8 x1))
    (f0 : w.frozen? ⟨f, o, none⟩ = false) (f1 : w.frozen? ⟨f, o + 1, none⟩ = false) :
    Calls Tryz.prog 146 #[.slice (some ⟨f, o, none⟩) 2 c, .int .i64 v] w fun e w' => e = .returned (.tuple #[]) ∧
      w' = (w.setCell ⟨f, o + 1, none⟩ (.int .u8 (byt v 0))).setCell ⟨f, o, none⟩ (.int .u8 (byt v 1)) := by
  go_enter Tryz.func146, Tryz.ntmps146
  go_wp2
  refine wp_loop_rounds 3 ?_
  rw [rounds_succ]
  go_wp2
  rw [rounds_succ]
  go_wp2
  rw [rounds_succ]
  go_wp2
  go_end0
  refine ⟨rfl, ?_⟩
  rw [byt_0, byt_1' v h0 h1]

/-- The number of some bytes, the highest first. -/
def numOf (l : List Int) : Int := l.foldl (fun n b => n * 256 + b) 0
/-- The checksum of some bytes. -/
def chkOf (l : List Int) : Int := l.foldl (fun x b => (277 * x + b) % 16777199) 1
theorem chk_bd (l : List Int) : 0 ≤ chkOf l ∧ chkOf l ≤ 16777198 := by
  unfold chkOf
  suffices h : ∀ x : Int, 0 ≤ x ∧ x ≤ 16777198 → 0 ≤ l.foldl (fun x b => (277 * x + b) % 16777199) x ∧ l.foldl (fun x b => (277 * x + b) % 16777199) x ≤ 16777198 from h 1 (by omega)
  induction l with
  | nil => intro x h; exact h
  | cons b r ih => intro x h; rw [List.foldl_cons]; exact ih _ (by omega)
theorem foldl_take_succ {α β : Type} (f : β → α → β) (x : β) (l : List α) (k : Nat) (hk : k < l.length) (d : α) : (l.take (k + 1)).foldl f x = f ((l.take k).foldl f x) (l[k]?.getD d) := by
  rw [List.take_succ_eq_append_getElem hk, List.foldl_append, List.getElem?_eq_getElem hk]; rfl

set_option maxHeartbeats 1600000 in
theorem checksum_any (f o n c : Nat) (l : List Int) (w : World) (hl : l.length = n) (hm : n ≤ 100000) (hbd : ∀ j, j < n → 0 ≤ l[j]?.getD 0 ∧ l[j]?.getD 0 ≤ 255)
    (hc : ∀ j, j < n → w.cell? ⟨f, o + j, none⟩ = some (.int .u8 (l[j]?.getD 0))) :
    Calls Tryz.prog 95 #[.slice (some ⟨f, o, none⟩) n c] w fun e w' => e = .returned (.int .i64 (chkOf l)) ∧ w = w' := by
  have Hl := Lib.hid hl
  have Hc := Lib.hid hc
  have Hb := Lib.hid hbd
  clear hl hc hbd
  go_enter Tryz.func95, Tryz.ntmps95
  go_wp2
  go_loop [3, 8] (fun x i => ∃ k : Nat, k ≤ n ∧ i = .int .i64 k ∧ x = .int .i64 (chkOf (l.take k))) (fun _ i => n - (intOf i).toNat)
  case atStart => exact ⟨0, Nat.zero_le _, rfl, rfl⟩
  case round =>
    obtain ⟨k, hk, rfl, rfl⟩ := hrel
    have hx := chk_bd (l.take k)
    by_cases hlt : k < n
    · have hcell := Hc.out k hlt
      have hb := Hb.out k hlt
      have HS : Hid (chkOf (l.take (k + 1)) = (277 * chkOf (l.take k) + l[k]?.getD 0) % 16777199) := foldl_take_succ _ _ _ _ (by have := Hl.out; omega) 0
      go_wp2
      go_round
      case rel => exact ⟨k + 1, by omega, by go_num, by rw [HS.out]⟩
      case measure => simp [intOf]; omega
    · go_wp2
      go_ret
      exact ⟨ret_int (by rw [List.take_of_length_le (by have := Hl.out; omega)]), rfl⟩

theorem ofInt_i64 (a : Nat) (h : a < 9223372036854775808) : (BitVec.ofInt 64 (a : Int)).toNat = a := by
  simp; omega
theorem or_shift (a b : Int) (h0 : 0 ≤ a) (h1 : a ≤ 1099511627776) (h2 : 0 ≤ b) (h3 : b ≤ 255) : bits BinOp.or IntKind.i64 (a * 256) b = a * 256 + b := by
  obtain ⟨A, rfl⟩ := Int.eq_ofNat_of_zero_le h0
  obtain ⟨B, rfl⟩ := Int.eq_ofNat_of_zero_le h2
  have e : ((A : Int) * 256) = ((A * 256 : Nat) : Int) := by omega
  rw [e]
  show IntKind.i64.wrap ((BitVec.ofInt 64 ((A * 256 : Nat) : Int) ||| BitVec.ofInt 64 (B : Int)).toNat : Int) = _
  have k := Nat.two_pow_add_eq_or_of_lt (i := 8) (b := B) (by omega) A
  rw [BitVec.toNat_or, ofInt_i64 _ (by omega), ofInt_i64 _ (by omega), Nat.mul_comm A 256, ← k, IntWalk.i64_in _ ⟨by omega, by omega⟩]
  omega

/-- One more than the greatest number of k bytes. -/
def lim : Nat → Int
  | 0 => 1
  | 1 => 256
  | 2 => 65536
  | 3 => 16777216
  | _ => 4294967296
theorem lim_succ (k : Nat) (h : k < 4) : lim (k + 1) = lim k * 256 ∧ lim k ≤ 16777216 := by
  match k, h with
  | 0, _ => decide
  | 1, _ => decide
  | 2, _ => decide
  | 3, _ => decide

set_option maxHeartbeats 1600000 in
theorem readNumber_any (f o n c : Nat) (l : List Int) (w : World) (hl : l.length = n) (hm : n ≤ 4) (hbd : ∀ j, j < n → 0 ≤ l[j]?.getD 0 ∧ l[j]?.getD 0 ≤ 255)
    (hc : ∀ j, j < n → w.cell? ⟨f, o + j, none⟩ = some (.int .u8 (l[j]?.getD 0))) :
    Calls Tryz.prog 98 #[.slice (some ⟨f, o, none⟩) n c] w fun e w' => e = .returned (.int .i64 (numOf l)) ∧ w = w' := by
  have Hl := Lib.hid hl
  have Hc := Lib.hid hc
  have Hb := Lib.hid hbd
  clear hl hc hbd
  go_enter Tryz.func98, Tryz.ntmps98
  go_wp2
  go_loop [3, 8] (fun x i => ∃ k : Nat, k ≤ n ∧ i = .int .i64 k ∧ x = .int .i64 (numOf (l.take k)) ∧ 0 ≤ numOf (l.take k) ∧ numOf (l.take k) < lim k) (fun _ i => n - (intOf i).toNat)
  case atStart => exact ⟨0, Nat.zero_le _, rfl, rfl, by simp [numOf], by simp [numOf, lim]⟩
  case round =>
    obtain ⟨k, hk, rfl, rfl, hx0, hx1⟩ := hrel
    by_cases hlt : k < n
    · have hcell := Hc.out k hlt
      have hb := Hb.out k hlt
      have HS : Hid (numOf (l.take (k + 1)) = numOf (l.take k) * 256 + l[k]?.getD 0) := foldl_take_succ _ _ _ _ (by have := Hl.out; omega) 0
      have hL := lim_succ k (by omega)
      have hx2 : numOf (l.take k) ≤ 4294967295 := by omega
      have hor := or_shift (numOf (l.take k)) (l[k]?.getD 0) hx0 (by omega) hb.1 hb.2
      have H1 := Lib.hid hx1
      have HL := Lib.hid hL
      clear hx1 hL
      go_wp2
      go_round
      case rel => exact ⟨k + 1, by omega, by go_num, by rw [HS.out], by rw [HS.out]; omega, by rw [HS.out, HL.out.1]; have := H1.out; omega⟩
      case measure => simp [intOf]; omega
    · go_wp2
      go_ret
      exact ⟨ret_int (by rw [List.take_of_length_le (by have := Hl.out; omega)]), rfl⟩
end Go.Proofs.YthmaoeajbmfmaaaGreatDoor
