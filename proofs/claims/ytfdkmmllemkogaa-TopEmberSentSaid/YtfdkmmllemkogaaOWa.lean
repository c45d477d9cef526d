/-
  Contracts of small functions of the program and of the reference (ranges, sides, sums of places): what each returns, for all arguments in the ranges that are written at each theorem.
-/
import Derived.Test.YtfdkmmllemkogaaRows
import Derived.WalkKit
import Derived.WalkSpells
import Derived.WalkLawsBesides
import Derived.Lib.Hide
import Derived.BigQuiet
import Derived.Deep.QuietTactic
import Derived.Laws.FloatArith
namespace Go.Proofs.Ytfdkmmllemkogaa
open Go.RowKit

def rangeErr (n lo hi : Int) : Int := if n < lo ∨ hi < n then 3 else 0
theorem rangeErr_in {n lo hi : Int} (h1 : lo ≤ n) (h2 : n ≤ hi) : rangeErr n lo hi = 0 := by unfold rangeErr; rw [if_neg (by omega)]
theorem rangeErr_out {n lo hi : Int} (h : n < lo ∨ hi < n) : rangeErr n lo hi = 3 := by unfold rangeErr; rw [if_pos h]
theorem rangeErr_zero {n lo hi : Int} (h : rangeErr n lo hi = 0) : lo ≤ n ∧ n ≤ hi := by
  unfold rangeErr at h; split at h
  · cases h
  · omega

theorem ret_int {k : IntKind} {a b : Int} (h : a = b) : Ending.returned (.int k a) = .returned (.int k b) := by rw [h]

set_option maxHeartbeats 400000 in
theorem when_any (b : Bool) (n : Int) (w : World) :
    Calls Try.prog 70 #[.bool b, .int .i64 n] w fun e w' => e = .returned (.int .i64 (if b then n else 0)) ∧ w = w' := by
  cases b
  · go_enter Try.func70, Try.ntmps70
    go_wp2
    go_ret
    exact ⟨rfl, rfl⟩
  · go_enter Try.func70, Try.ntmps70
    go_wp2
    go_ret
    exact ⟨rfl, rfl⟩

set_option maxHeartbeats 400000 in
theorem refCheckRange_any (n lo hi : Int) (w : World) :
    Calls Try.prog 59 #[.int .i64 n, .int .i64 lo, .int .i64 hi] w fun e w' => e = .returned (.int .i64 (rangeErr n lo hi)) ∧ w = w' := by
  by_cases h1 : n < lo
  · rw [rangeErr_out (.inl h1)]
    go_enter Try.func59, Try.ntmps59
    go_wp2_with (go_at_call 70; refine (when_any true 3 _).mono ?_; rintro e w' ⟨rfl, rfl⟩)
    go_ret
    exact ⟨rfl, rfl⟩
  · by_cases h2 : hi < n
    · rw [rangeErr_out (.inr h2)]
      go_enter Try.func59, Try.ntmps59
      go_wp2_with (go_at_call 70; refine (when_any true 3 _).mono ?_; rintro e w' ⟨rfl, rfl⟩)
      go_ret
      exact ⟨rfl, rfl⟩
    · rw [rangeErr_in (by omega) (by omega)]
      go_enter Try.func59, Try.ntmps59
      go_wp2_with (go_at_call 70; refine (when_any false 3 _).mono ?_; rintro e w' ⟨rfl, rfl⟩)
      go_ret
      exact ⟨rfl, rfl⟩

set_option maxHeartbeats 400000 in
theorem cwhen_any (b : Bool) (n : Int) (w : World) :
    Calls Try.prog 52 #[.bool b, .int .i64 n] w fun e w' => e = .returned (.int .i64 (if b then n else 0)) ∧ w = w' := by
  cases b
  · go_enter Try.func52, Try.ntmps52
    go_wp2
    go_ret
    exact ⟨rfl, rfl⟩
  · go_enter Try.func52, Try.ntmps52
    go_wp2
    go_ret
    exact ⟨rfl, rfl⟩

set_option maxHeartbeats 400000 in
theorem checkRange_any (n lo hi : Int) (w : World) :
    Calls Try.prog 28 #[.int .i64 n, .int .i64 lo, .int .i64 hi] w fun e w' => e = .returned (.int .i64 (rangeErr n lo hi)) ∧ w = w' := by
  by_cases h1 : n < lo
  · rw [rangeErr_out (.inl h1)]
    go_enter Try.func28, Try.ntmps28
    go_wp2_with (go_at_call 52; refine (cwhen_any true 3 _).mono ?_; rintro e w' ⟨rfl, rfl⟩)
    go_ret
    exact ⟨rfl, rfl⟩
  · by_cases h2 : hi < n
    · rw [rangeErr_out (.inr h2)]
      go_enter Try.func28, Try.ntmps28
      go_wp2_with (go_at_call 52; refine (cwhen_any true 3 _).mono ?_; rintro e w' ⟨rfl, rfl⟩)
      go_ret
      exact ⟨rfl, rfl⟩
    · rw [rangeErr_in (by omega) (by omega)]
      go_enter Try.func28, Try.ntmps28
      go_wp2_with (go_at_call 52; refine (cwhen_any false 3 _).mono ?_; rintro e w' ⟨rfl, rfl⟩)
      go_ret
      exact ⟨rfl, rfl⟩

set_option maxHeartbeats 400000 in
theorem refCheckSide_any (n : Int) (w : World) :
    Calls Try.prog 38 #[.int .i64 n] w fun e w' => e = .returned (.int .i64 (rangeErr n 1 64)) ∧ w = w' := by
  go_enter Try.func38, Try.ntmps38
  go_wp2_with (go_at_call 59; refine (refCheckRange_any n 1 64 _).mono ?_; rintro e w' ⟨rfl, rfl⟩)
  go_ret
  exact ⟨rfl, rfl⟩

set_option maxHeartbeats 400000 in
theorem checkSide_any (n : Int) (w : World) :
    Calls Try.prog 54 #[.int .i64 n] w fun e w' => e = .returned (.int .i64 (rangeErr n 1 64)) ∧ w = w' := by
  go_enter Try.func54, Try.ntmps54
  go_wp2_with (go_at_call 28; refine (checkRange_any n 1 64 _).mono ?_; rintro e w' ⟨rfl, rfl⟩)
  go_ret
  exact ⟨rfl, rfl⟩

set_option maxHeartbeats 400000 in
theorem following_any (n : Int) (h0 : 0 ≤ n) (h1 : n ≤ 65535) (w : World) :
    Calls Try.prog 53 #[.int .i64 n] w fun e w' => e = .returned (.int .i64 ((n + 1) % 65536)) ∧ w = w' := by
  go_enter Try.func53, Try.ntmps53
  go_wp2
  go_ret
  exact ⟨rfl, rfl⟩

/-- Rounded down: Go's quotient and remainder of a number below 0. -/
theorem tdiv_neg_floor {a b : Int} (ha : a < 0) (hb : 1 ≤ b) : (a.tmod b < 0 → a.tdiv b - 1 = a / b) ∧ (¬ a.tmod b < 0 → a.tdiv b = a / b) ∧ a ≤ a.tdiv b ∧ a.tdiv b ≤ 0 := by
  obtain ⟨c, rfl⟩ : ∃ c, a = -c := ⟨-a, by omega⟩
  have hc : 0 ≤ c := by omega
  have e1 : (-c).tdiv b = -(c / b) := by rw [Int.neg_tdiv, Int.tdiv_eq_ediv_of_nonneg hc]
  have e2 : (-c).tmod b = -(c % b) := by rw [Int.neg_tmod, Int.tmod_eq_emod_of_nonneg hc]
  have k := Int.emod_add_mul_ediv c b
  have k0 := Int.emod_nonneg c (show b ≠ 0 by omega)
  have k1 := Int.emod_lt_of_pos c (show 0 < b by omega)
  have k2 : 0 ≤ c / b := Int.ediv_nonneg hc (by omega)
  have k3 : c / b ≤ c := Int.ediv_le_self _ hc
  rw [e1, e2]
  refine ⟨fun h => ?_, fun h => ?_, by omega, by omega⟩
  · refine (((Int.ediv_emod_unique (a := -c) (b := b) (r := b - c % b) (q := -(c / b) - 1) (by omega)).2 ⟨?_, by omega, by omega⟩).1).symm
    rw [Int.mul_sub, Int.mul_neg, Int.mul_one]; omega
  · refine (((Int.ediv_emod_unique (a := -c) (b := b) (r := 0) (q := -(c / b)) (by omega)).2 ⟨?_, by omega, by omega⟩).1).symm
    rw [Int.mul_neg]; omega

set_option maxHeartbeats 800000 in
theorem lowered_any (a b : Int) (h0 : -1099511627776 ≤ a) (h1 : a ≤ 1099511627776) (h2 : 1 ≤ b) (h3 : b ≤ 1099511627776) (w : World) :
    Calls Try.prog 43 #[.int .i64 a, .int .i64 b] w fun e w' => e = .returned (.int .i64 (a / b)) ∧ w = w' := by
  by_cases hn : 0 ≤ a
  · have hm : ¬ (a % b < 0) := by have := Int.emod_nonneg a (show b ≠ 0 by omega); omega
    go_enter Try.func43, Try.ntmps43
    go_wp2
    go_ret
    exact ⟨rfl, rfl⟩
  · obtain ⟨f1, f2, f3, f4⟩ := tdiv_neg_floor (show a < 0 by omega) h2
    by_cases hm : a.tmod b < 0
    all_goals
      have E : Hid ((a.tmod b < 0 → a.tdiv b - 1 = a / b) ∧ (¬ a.tmod b < 0 → a.tdiv b = a / b)) := ⟨f1, f2⟩
      have H := Lib.hid hm
      clear f1 f2
      go_enter Try.func43, Try.ntmps43
      go_wp2
      go_ret
      exact ⟨ret_int (by first | exact E.out.1 H.out | exact E.out.2 H.out), rfl⟩
end Go.Proofs.Ytfdkmmllemkogaa

/-
  Plain facts on binary floating point: the nearest word of a number that the format has, and what that word reads as; no Go, no program.
  Condition: none beyond the hypotheses written at each theorem.
-/
namespace Go.Proofs.Ytfdkmmllemkogaa
open Ieee

theorem log2_mul_pow (a d : Nat) (ha : a ≠ 0) : (a * 2 ^ d).log2 = a.log2 + d := by
  induction d with
  | zero => simp
  | succ d ih =>
    have hp : 0 < 2 ^ d := Nat.two_pow_pos d
    have h0 : a * 2 ^ d ≠ 0 := Nat.mul_ne_zero ha (by omega)
    have e : a * 2 ^ (d + 1) = 2 * (a * 2 ^ d) := by rw [Nat.pow_succ]; ac_rfl
    rw [e, Nat.log2_two_mul h0, ih]; omega

theorem cut_whole (neg : Bool) (n drop q : Nat) (h : n = q * 2 ^ drop) (hd : drop ≤ n.log2 + 2) : Toward.even.cut neg n drop = q := by
  have hp : 0 < 2 ^ drop := Nat.two_pow_pos drop
  have h1 : n / 2 ^ drop = q := by rw [h]; exact Nat.mul_div_cancel _ hp
  have h2 : n % 2 ^ drop = 0 := by rw [h]; exact Nat.mul_mod_left _ _
  unfold Toward.cut
  simp only [Nat.min_eq_left hd, Nat.one_shiftLeft, h1, h2]
  have h3 : decide (2 ^ drop < 2 * 0) = false := by simp
  have h4 : (2 ^ drop == 2 * 0) = false := by simp
  simp [h4]

/-- The place of the last digit that is kept. -/
def lastOf (f : Format) (a : Nat) (place : Int) : Int := max (place + a.log2 - f.fractionBits) f.leastPlace

theorem nearest_exact (f : Format) (neg : Bool) (a d : Nat) (place : Int) (ha : a ≠ 0) (hw : a.log2 ≤ f.fractionBits) (hp : f.leastPlace ≤ place) :
    f.nearest neg (a * 2 ^ d) (place - d) = f.word neg (min ((lastOf f a place - f.leastPlace).toNat * f.binade + a * 2 ^ (place - lastOf f a place).toNat) f.infRung) := by
  have hpd : 0 < 2 ^ d := Nat.two_pow_pos d
  have h0 : a * 2 ^ d ≠ 0 := Nat.mul_ne_zero ha (by omega)
  unfold Format.nearest
  rw [if_neg h0]
  have hl : max (place - (d : Int) + ((a * 2 ^ d).log2 : Nat) - f.fractionBits) f.leastPlace = lastOf f a place := by
    unfold lastOf; rw [log2_mul_pow a d ha]; congr 1; omega
  simp only [hl]
  have hlast : lastOf f a place ≤ place := by unfold lastOf; omega
  have hk : Toward.even.cut neg ((a * 2 ^ d) <<< (place - (d : Int) - lastOf f a place).toNat) (lastOf f a place - (place - (d : Int))).toNat = a * 2 ^ (place - lastOf f a place).toNat := by
    generalize hc : (place - lastOf f a place).toNat = c
    by_cases h : d ≤ c
    · have e1 : (place - (d : Int) - lastOf f a place).toNat = c - d := by omega
      have e2 : (lastOf f a place - (place - (d : Int))).toNat = 0 := by omega
      rw [e1, e2]
      refine cut_whole _ _ _ _ ?_ (by omega)
      rw [Nat.shiftLeft_eq, Nat.mul_assoc, ← Nat.pow_add, Nat.pow_zero, Nat.mul_one]
      congr 2; omega
    · have e1 : (place - (d : Int) - lastOf f a place).toNat = 0 := by omega
      have e2 : (lastOf f a place - (place - (d : Int))).toNat = d - c := by omega
      rw [e1, e2]
      refine cut_whole _ _ _ _ ?_ ?_
      · rw [Nat.shiftLeft_zero, Nat.mul_assoc, ← Nat.pow_add]; congr 2; omega
      · rw [Nat.shiftLeft_zero, log2_mul_pow a d ha]; omega
  rw [hk]

theorem nearest_zero (f : Format) (neg : Bool) (place : Int) : f.nearest neg 0 place = f.word neg 0 := by
  unfold Format.nearest; simp

theorem read_word (f : Format) (neg : Bool) (r : Nat) (h : r < f.infRung) :
    f.read (f.word neg r) = if r < f.binade then .number neg r f.leastPlace else .number neg (f.binade + r % f.binade) (f.leastPlace + (r / f.binade - 1 : Nat)) := by
  have hi := f.infRung_lt
  have hs : r < f.signWeight := by omega
  have hsp : 0 < f.signWeight := by omega
  have e1 : f.word neg r / f.signWeight % 2 = neg.toNat := by
    unfold Format.word
    cases neg
    · simp [Nat.div_eq_of_lt hs]
    · simp [Nat.add_div_left _ hsp, Nat.div_eq_of_lt hs]
  have e2 : f.word neg r % f.signWeight = r := by
    unfold Format.word
    cases neg
    · simp [Nat.mod_eq_of_lt hs]
    · simp [Nat.mod_eq_of_lt hs]
  unfold Format.read
  simp only [e1, e2]
  have e3 : (neg.toNat == 1) = neg := by cases neg <;> rfl
  rw [e3]
  simp only [h, if_true]

/-- The number that a word stands for, in units of the least place. -/
def unitsOf (f : Format) (m : Nat) (e : Int) : Nat := m * 2 ^ (e - f.leastPlace).toNat

theorem read_exact (f : Format) (neg : Bool) (a d : Nat) (place : Int) (ha : a ≠ 0) (hw : a.log2 ≤ f.fractionBits) (hp : f.leastPlace ≤ place)
    (hfin : (lastOf f a place - f.leastPlace).toNat * f.binade + a * 2 ^ (place - lastOf f a place).toNat < f.infRung) :
    ∃ m e, f.read (f.nearest neg (a * 2 ^ d) (place - d)) = .number neg m e ∧ f.leastPlace ≤ e ∧ unitsOf f m e = a * 2 ^ (place - f.leastPlace).toNat := by
  rw [nearest_exact f neg a d place ha hw hp, Nat.min_eq_left (by omega), read_word f neg _ hfin]
  have hlast : lastOf f a place ≤ place := by unfold lastOf; omega
  have hlast2 : f.leastPlace ≤ lastOf f a place := by unfold lastOf; omega
  have hbin : f.binade = 2 ^ f.fractionBits := rfl
  have ha2 : 2 ^ a.log2 ≤ a := Nat.log2_self_le ha
  have ha3 : a < 2 ^ (a.log2 + 1) := Nat.lt_log2_self
  generalize hL : lastOf f a place = last at *
  by_cases hs : last = f.leastPlace ∧ place + a.log2 - f.fractionBits < f.leastPlace
  · obtain ⟨hs, hlt⟩ := hs
    have e0 : (last - f.leastPlace).toNat = 0 := by omega
    have hk : a * 2 ^ (place - last).toNat < f.binade := by
      rw [hbin]
      refine Nat.lt_of_lt_of_le ((Nat.mul_lt_mul_right (Nat.two_pow_pos _)).2 ha3) ?_
      rw [← Nat.pow_add]
      exact Nat.pow_le_pow_right (by omega) (by omega)
    rw [e0, Nat.zero_mul, Nat.zero_add, if_pos hk]
    refine ⟨_, _, rfl, Int.le_refl _, ?_⟩
    unfold unitsOf
    rw [hs, Int.sub_self]; simp
  · have hl : last = place + a.log2 - f.fractionBits := by unfold lastOf at hL; omega
    have hc : (place - last).toNat = f.fractionBits - a.log2 := by omega
    have hk1 : f.binade ≤ a * 2 ^ (place - last).toNat := by
      rw [hbin, hc]
      refine Nat.le_trans ?_ (Nat.mul_le_mul_right _ ha2)
      rw [← Nat.pow_add]
      exact Nat.pow_le_pow_right (by omega) (by omega)
    have hk2 : a * 2 ^ (place - last).toNat < 2 * f.binade := by
      rw [hbin, hc]
      refine Nat.lt_of_lt_of_le ((Nat.mul_lt_mul_right (Nat.two_pow_pos _)).2 ha3) ?_
      rw [← Nat.pow_add, Nat.mul_comm, ← Nat.pow_succ]
      exact Nat.pow_le_pow_right (by omega) (by omega)
    have hbp : 0 < f.binade := Nat.two_pow_pos _
    generalize hkk : a * 2 ^ (place - last).toNat = kept at *
    have hge : ¬ (last - f.leastPlace).toNat * f.binade + kept < f.binade := by
      have : 0 ≤ (last - f.leastPlace).toNat * f.binade := Nat.zero_le _
      omega
    rw [if_neg hge]
    have hmod : ((last - f.leastPlace).toNat * f.binade + kept) % f.binade = kept - f.binade := by
      rw [Nat.add_comm, Nat.add_mul_mod_self_right, Nat.mod_eq_sub_mod hk1, Nat.mod_eq_of_lt (by omega)]
    have hdiv : ((last - f.leastPlace).toNat * f.binade + kept) / f.binade = (last - f.leastPlace).toNat + 1 := by
      rw [Nat.add_comm, Nat.add_mul_div_right _ _ hbp, show kept / f.binade = 1 from by
        apply Nat.div_eq_of_lt_le <;> omega]
      omega
    refine ⟨_, _, rfl, by omega, ?_⟩
    unfold unitsOf
    rw [hmod, hdiv, show f.binade + (kept - f.binade) = kept from by omega, ← hkk]
    rw [show (f.leastPlace + (((last - f.leastPlace).toNat + 1 - 1 : Nat) : Int) - f.leastPlace).toNat = (last - f.leastPlace).toNat from by omega]
    rw [Nat.mul_assoc, ← Nat.pow_add]
    congr 2; omega

/-! ### What a word stands for, in units of the format's least place -/

def sgn (s : Bool) (v : Nat) : Int := if s then -(v : Int) else (v : Int)

/-- x is the finite word with the sign s that stands for v units of the least place. -/
def IsNum (f : Format) (x : Nat) (s : Bool) (v : Nat) : Prop :=
  ∃ m e, f.read x = .number s m e ∧ f.leastPlace ≤ e ∧ m < 2 ^ (f.fractionBits + 1) ∧ m * 2 ^ (e - f.leastPlace).toNat = v

theorem log2_lt_of_mul_lt {m k B : Nat} (hm : m ≠ 0) (h : m * 2 ^ k < 2 ^ B) : m.log2 + k < B := by
  have h1 : 2 ^ (m.log2 + k) ≤ m * 2 ^ k := by rw [Nat.pow_add]; exact Nat.mul_le_mul_right _ (Nat.log2_self_le hm)
  have h2 : 2 ^ (m.log2 + k) < 2 ^ B := Nat.lt_of_le_of_lt h1 h
  exact (Nat.pow_lt_pow_iff_right (by omega)).1 h2

theorem log2_le_of_lt {a n : Nat} (ha : a ≠ 0) (h : a < 2 ^ (n + 1)) : a.log2 ≤ n := by
  have := (Nat.log2_lt ha).2 h; omega

/-- The formats that are used. -/
def Two (f : Format) : Prop := f = single ∨ f = double

theorem isNum_nearest {f : Format} (hf : Two f) (s : Bool) (a d : Nat) (place : Int) (ha : a < 2 ^ (f.fractionBits + 1)) (hp : f.leastPlace ≤ place)
    (hmax : a * 2 ^ (place - f.leastPlace).toNat < 2 ^ (f.fractionBits + 2 ^ f.exponentBits - 2)) :
    IsNum f (f.nearest s (a * 2 ^ d) (place - d)) s (a * 2 ^ (place - f.leastPlace).toNat) := by
  have heb : 4 ≤ 2 ^ f.exponentBits := by rcases hf with rfl | rfl <;> decide
  by_cases h0 : a = 0
  · subst h0
    rw [Nat.zero_mul, nearest_zero, Nat.zero_mul]
    have hinf : 0 < f.infRung := by rcases hf with rfl | rfl <;> decide
    have hb : 0 < f.binade := Nat.two_pow_pos _
    refine ⟨0, f.leastPlace, ?_, Int.le_refl _, Nat.two_pow_pos _, by simp⟩
    rw [read_word f s 0 hinf, if_pos hb]
  · have hw := log2_le_of_lt h0 ha
    have hlg := log2_lt_of_mul_lt h0 hmax
    have ha3 : a < 2 ^ (a.log2 + 1) := Nat.lt_log2_self
    have hbp : 0 < f.binade := Nat.two_pow_pos _
    have hkept : a * 2 ^ (place - lastOf f a place).toNat < 2 * f.binade := by
      refine Nat.lt_of_lt_of_le ((Nat.mul_lt_mul_right (Nat.two_pow_pos _)).2 ha3) ?_
      have : f.binade = 2 ^ f.fractionBits := rfl
      rw [this, ← Nat.pow_add, Nat.mul_comm, ← Nat.pow_succ]
      refine Nat.pow_le_pow_right (by omega) ?_
      unfold lastOf; omega
    have hlast : (lastOf f a place - f.leastPlace).toNat + 3 ≤ 2 ^ f.exponentBits := by
      unfold lastOf; omega
    have hfin : (lastOf f a place - f.leastPlace).toNat * f.binade + a * 2 ^ (place - lastOf f a place).toNat < f.infRung := by
      have e : f.infRung = (2 ^ f.exponentBits - 1) * f.binade := rfl
      have k : ((lastOf f a place - f.leastPlace).toNat + 2) * f.binade ≤ (2 ^ f.exponentBits - 1) * f.binade := Nat.mul_le_mul_right _ (by omega)
      rw [Nat.add_mul] at k
      rw [e]; omega
    obtain ⟨m, e, h1, h2, h3⟩ := read_exact f s a d place h0 hw hp hfin
    refine ⟨m, e, h1, h2, ?_, h3⟩
    have hrw : f.nearest s (a * 2 ^ d) (place - d) = f.word s ((lastOf f a place - f.leastPlace).toNat * f.binade + a * 2 ^ (place - lastOf f a place).toNat) := by
      rw [nearest_exact f s a d place h0 hw hp, Nat.min_eq_left (by omega)]
    rw [hrw, read_word f s _ hfin] at h1
    split at h1
    · rename_i hlt
      simp only [Datum.number.injEq] at h1
      have : f.binade = 2 ^ f.fractionBits := rfl
      have e2 : (2 : Nat) ^ (f.fractionBits + 1) = 2 * f.binade := by rw [this, Nat.pow_succ, Nat.mul_comm]
      omega
    · simp only [Datum.number.injEq] at h1
      have : f.binade = 2 ^ f.fractionBits := rfl
      have e2 : (2 : Nat) ^ (f.fractionBits + 1) = 2 * f.binade := by rw [this, Nat.pow_succ, Nat.mul_comm]
      have := Nat.mod_lt ((lastOf f a place - f.leastPlace).toNat * f.binade + a * 2 ^ (place - lastOf f a place).toNat) hbp
      omega

theorem signed_eq (s : Bool) (m u : Nat) : signed s m u = sgn s (m * 2 ^ u) := by
  unfold signed sgn; rw [Nat.shiftLeft_eq]
theorem sgn_mul (s : Bool) (v c : Nat) : sgn s (v * c) = sgn s v * c := by
  unfold sgn; cases s <;> simp [Int.neg_mul]

theorem compare_mul_pos (a b : Int) (c : Nat) (hc : 0 < c) : compare (a * c) (b * c) = compare a b := by
  have hc' : (0 : Int) < c := by omega
  have e1 : (a * c < b * c) ↔ a < b := Int.mul_lt_mul_right hc'
  have e2 : (a * c = b * c) ↔ a = b := Int.mul_eq_mul_right_iff (by omega)
  show compareOfLessAndEq (a * c) (b * c) = compareOfLessAndEq a b
  unfold compareOfLessAndEq
  simp only [e1, e2]

theorem IsNum.order {f : Format} {x y : Nat} {s t : Bool} {v u : Nat} (hx : IsNum f x s v) (hy : IsNum f y t u) : f.order x y = some (compare (sgn s v) (sgn t u)) := by
  obtain ⟨m, i, h1, h2, _, rfl⟩ := hx
  obtain ⟨n, j, k1, k2, _, rfl⟩ := hy
  unfold Format.order
  rw [h1, k1]
  simp only [Datum.order, signed_eq]
  have e1 : m * 2 ^ (i - f.leastPlace).toNat = m * 2 ^ (i - min i j).toNat * 2 ^ (min i j - f.leastPlace).toNat := by
    rw [Nat.mul_assoc, ← Nat.pow_add]; congr 2; omega
  have e2 : n * 2 ^ (j - f.leastPlace).toNat = n * 2 ^ (j - min i j).toNat * 2 ^ (min i j - f.leastPlace).toNat := by
    rw [Nat.mul_assoc, ← Nat.pow_add]; congr 2; omega
  rw [e1, e2, sgn_mul s (m * 2 ^ (i - min i j).toNat), sgn_mul t (n * 2 ^ (j - min i j).toNat), compare_mul_pos _ _ _ (Nat.two_pow_pos _)]

theorem cut_zero (neg : Bool) (n drop : Nat) : Toward.zero.cut neg n drop = n / 2 ^ drop := by
  unfold Toward.cut
  simp only [Nat.one_shiftLeft, Bool.toNat_false, Nat.add_zero]
  by_cases h : drop ≤ n.log2 + 2
  · rw [Nat.min_eq_left h]
  · rw [Nat.min_eq_right (by omega)]
    have h1 : n < 2 ^ (n.log2 + 2) := Nat.lt_of_lt_of_le Nat.lt_log2_self (Nat.pow_le_pow_right (by omega) (by omega))
    have h2 : n < 2 ^ drop := Nat.lt_of_lt_of_le h1 (Nat.pow_le_pow_right (by omega) (by omega))
    rw [Nat.div_eq_of_lt h1, Nat.div_eq_of_lt h2]

/-- Cut towards zero, an integer. -/
theorem IsNum.toInt {f : Format} {x : Nat} {s : Bool} {v : Nat} (hx : IsNum f x s v) (hL : f.leastPlace ≤ 0) : (f.read x).toInt .zero = some (sgn s (v / 2 ^ (-f.leastPlace).toNat)) := by
  obtain ⟨m, i, h1, h2, _, rfl⟩ := hx
  rw [h1]
  simp only [Datum.toInt, Datum.integral, signed_eq, cut_zero]
  congr 2
  rw [Nat.pow_zero, Nat.mul_one, Nat.shiftLeft_eq]
  by_cases h : 0 ≤ i
  · have e1 : (-i).toNat = 0 := by omega
    have e2 : (i - f.leastPlace).toNat = i.toNat + (-f.leastPlace).toNat := by omega
    rw [e1, e2, Nat.pow_zero, Nat.div_one, Nat.pow_add, ← Nat.mul_assoc, Nat.mul_div_cancel _ (Nat.two_pow_pos _)]
  · have e1 : i.toNat = 0 := by omega
    have e2 : (-f.leastPlace).toNat = (i - f.leastPlace).toNat + (-i).toNat := by omega
    rw [e1, e2, Nat.pow_zero, Nat.mul_one, Nat.pow_add, ← Nat.div_div_eq_div_mul, Nat.mul_div_cancel _ (Nat.two_pow_pos _)]

/-- Times a power of two, the power on either side. -/
theorem IsNum.mul_pow {f : Format} (hf : Two f) {x c : Nat} {s : Bool} {v j : Nat} (hx : IsNum f x s v) (hc : f.read c = .number false (2 ^ f.fractionBits) ((j : Int) - f.fractionBits))
    (hmax : v * 2 ^ j < 2 ^ (f.fractionBits + 2 ^ f.exponentBits - 2)) : ∃ r, f.mul x c = some r ∧ f.mul c x = some r ∧ IsNum f r s (v * 2 ^ j) := by
  obtain ⟨m, i, h1, h2, h3, rfl⟩ := hx
  have e : m * 2 ^ (i - f.leastPlace).toNat * 2 ^ j = m * 2 ^ (i + j - f.leastPlace).toNat := by
    rw [Nat.mul_assoc, ← Nat.pow_add]; congr 2; omega
  rw [e] at hmax ⊢
  have h := isNum_nearest hf s m f.fractionBits (i + j) h3 (by omega) hmax
  refine ⟨_, ?_, ?_, h⟩
  · unfold Format.mul
    rw [h1, hc]
    simp only [Datum.product, Option.map_some, Format.write, Bool.xor_false]
    congr 2
    omega
  · unfold Format.mul
    rw [h1, hc]
    simp only [Datum.product, Option.map_some, Format.write, Bool.false_xor]
    congr 2
    · exact Nat.mul_comm _ _
    · omega
end Go.Proofs.Ytfdkmmllemkogaa
