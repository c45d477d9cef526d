/-
  Contracts of small functions of the program and of the reference (ranges, sides, sums of places): what each returns, for all arguments in the ranges that are written at each theorem.
-/
import Derived.Test.YtfdkmmllemkogaaGreatDoorRows
import Derived.WalkKit
import Derived.WalkSpells
import Derived.WalkLawsBesides
import Derived.Lib.Hide
import Derived.BigQuiet
import Derived.Deep.QuietTactic
import Derived.Laws.FloatArith
import Derived.Laws.BitsAllLaws
import Derived.Deep.RegionHeld3
namespace Go.Proofs.YtfdkmmllemkogaaGreatDoor
open Go.RowKit

def rangeErr (n lo hi : Int) : Int := if n < lo ∨ hi < n then 3 else 0
theorem rangeErr_in {n lo hi : Int} (h1 : lo ≤ n) (h2 : n ≤ hi) : rangeErr n lo hi = 0 := by unfold rangeErr; rw [if_neg (by omega)]
theorem rangeErr_out {n lo hi : Int} (h : n < lo ∨ hi < n) : rangeErr n lo hi = 3 := by unfold rangeErr; rw [if_pos h]
theorem rangeErr_zero {n lo hi : Int} (h : rangeErr n lo hi = 0) : lo ≤ n ∧ n ≤ hi := by
  unfold rangeErr at h; split at h
  · cases h
  · omega

theorem ret_int {k : IntKind} {a b : Int} (h : a = b) : Ending.returned (.int k a) = .returned (.int k b) := by rw [h]

set_option maxHeartbeats 400000 in
theorem when_any (b : Bool) (n : Int) (w : World) :
    Calls Tryz.prog 42 #[.bool b, .int .i64 n] w fun e w' => e = .returned (.int .i64 (if b then n else 0)) ∧ w = w' := by
  cases b
  · go_enter Tryz.func42, Tryz.ntmps42
    go_wp2
    go_ret
    exact ⟨rfl, rfl⟩
  · go_enter Tryz.func42, Tryz.ntmps42
    go_wp2
    go_ret
    exact ⟨rfl, rfl⟩

set_option maxHeartbeats 400000 in
theorem refCheckRange_any (n lo hi : Int) (w : World) :
    Calls Tryz.prog 23 #[.int .i64 n, .int .i64 lo, .int .i64 hi] w fun e w' => e = .returned (.int .i64 (rangeErr n lo hi)) ∧ w = w' := by
  by_cases h1 : n < lo
  · rw [rangeErr_out (.inl h1)]
    go_enter Tryz.func23, Tryz.ntmps23
    go_wp2_with (go_at_call 42; refine (when_any true 3 _).mono ?_; rintro e w' ⟨rfl, rfl⟩)
    go_ret
    exact ⟨rfl, rfl⟩
  · by_cases h2 : hi < n
    · rw [rangeErr_out (.inr h2)]
      go_enter Tryz.func23, Tryz.ntmps23
      go_wp2_with (go_at_call 42; refine (when_any true 3 _).mono ?_; rintro e w' ⟨rfl, rfl⟩)
      go_ret
      exact ⟨rfl, rfl⟩
    · rw [rangeErr_in (by omega) (by omega)]
      go_enter Tryz.func23, Tryz.ntmps23
      go_wp2_with (go_at_call 42; refine (when_any false 3 _).mono ?_; rintro e w' ⟨rfl, rfl⟩)
      go_ret
      exact ⟨rfl, rfl⟩

set_option maxHeartbeats 400000 in
theorem cwhen_any (b : Bool) (n : Int) (w : World) :
    Calls Tryz.prog 114 #[.bool b, .int .i64 n] w fun e w' => e = .returned (.int .i64 (if b then n else 0)) ∧ w = w' := by
  cases b
  · go_enter Tryz.func114, Tryz.ntmps114
    go_wp2
    go_ret
    exact ⟨rfl, rfl⟩
  · go_enter Tryz.func114, Tryz.ntmps114
    go_wp2
    go_ret
    exact ⟨rfl, rfl⟩

set_option maxHeartbeats 400000 in
theorem checkRange_any (n lo hi : Int) (w : World) :
    Calls Tryz.prog 110 #[.int .i64 n, .int .i64 lo, .int .i64 hi] w fun e w' => e = .returned (.int .i64 (rangeErr n lo hi)) ∧ w = w' := by
  by_cases h1 : n < lo
  · rw [rangeErr_out (.inl h1)]
    go_enter Tryz.func110, Tryz.ntmps110
    go_wp2_with (go_at_call 114; refine (cwhen_any true 3 _).mono ?_; rintro e w' ⟨rfl, rfl⟩)
    go_ret
    exact ⟨rfl, rfl⟩
  · by_cases h2 : hi < n
    · rw [rangeErr_out (.inr h2)]
      go_enter Tryz.func110, Tryz.ntmps110
      go_wp2_with (go_at_call 114; refine (cwhen_any true 3 _).mono ?_; rintro e w' ⟨rfl, rfl⟩)
      go_ret
      exact ⟨rfl, rfl⟩
    · rw [rangeErr_in (by omega) (by omega)]
      go_enter Tryz.func110, Tryz.ntmps110
      go_wp2_with (go_at_call 114; refine (cwhen_any false 3 _).mono ?_; rintro e w' ⟨rfl, rfl⟩)
      go_ret
      exact ⟨rfl, rfl⟩

set_option maxHeartbeats 400000 in
theorem refCheckSide_any (n : Int) (w : World) :
    Calls Tryz.prog 51 #[.int .i64 n] w fun e w' => e = .returned (.int .i64 (rangeErr n 1 64)) ∧ w = w' := by
  go_enter Tryz.func51, Tryz.ntmps51
  go_wp2_with (go_at_call 23; refine (refCheckRange_any n 1 64 _).mono ?_; rintro e w' ⟨rfl, rfl⟩)
  go_ret
  exact ⟨rfl, rfl⟩

set_option maxHeartbeats 400000 in
theorem checkSide_any (n : Int) (w : World) :
    Calls Tryz.prog 129 #[.int .i64 n] w fun e w' => e = .returned (.int .i64 (rangeErr n 1 64)) ∧ w = w' := by
  go_enter Tryz.func129, Tryz.ntmps129
  go_wp2_with (go_at_call 110; refine (checkRange_any n 1 64 _).mono ?_; rintro e w' ⟨rfl, rfl⟩)
  go_ret
  exact ⟨rfl, rfl⟩

set_option maxHeartbeats 400000 in
theorem following_any (n : Int) (h0 : 0 ≤ n) (h1 : n ≤ 65535) (w : World) :
    Calls Tryz.prog 210 #[.int .i64 n] w fun e w' => e = .returned (.int .i64 ((n + 1) % 65536)) ∧ w = w' := by
  go_enter Tryz.func210, Tryz.ntmps210
  go_wp2
  go_ret
  exact ⟨rfl, rfl⟩

/-- Rounded down: Go's quotient and remainder of a number below 0. -/
theorem tdiv_neg_floor {a b : Int} (ha : a < 0) (hb : 1 ≤ b) : (a.tmod b < 0 → a.tdiv b - 1 = a / b) ∧ (¬ a.tmod b < 0 → a.tdiv b = a / b) ∧ a ≤ a.tdiv b ∧ a.tdiv b ≤ 0 := by
  obtain ⟨c, rfl⟩ : ∃ c, a = -c := ⟨-a, by omega⟩
  have hc : 0 ≤ c := by omega
  have e1 : (-c).tdiv b = -(c / b) := by rw [Int.neg_tdiv, Int.tdiv_eq_ediv_of_nonneg hc]
  have e2 : (-c).tmod b = -(c % b) := by rw [Int.neg_tmod, Int.tmod_eq_emod_of_nonneg hc]
  have k := Int.emod_add_mul_ediv c b
  have k0 := Int.emod_nonneg c (show b ≠ 0 by omega)
  have k1 := Int.emod_lt_of_pos c (show 0 < b by omega)
  have k2 : 0 ≤ c / b := Int.ediv_nonneg hc (by omega)
  have k3 : c / b ≤ c := Int.ediv_le_self _ hc
  rw [e1, e2]
  refine ⟨fun h => ?_, fun h => ?_, by omega, by omega⟩
  · refine (((Int.ediv_emod_unique (a := -c) (b := b) (r := b - c % b) (q := -(c / b) - 1) (by omega)).2 ⟨?_, by omega, by omega⟩).1).symm
    rw [Int.mul_sub, Int.mul_neg, Int.mul_one]; omega
  · refine (((Int.ediv_emod_unique (a := -c) (b := b) (r := 0) (q := -(c / b)) (by omega)).2 ⟨?_, by omega, by omega⟩).1).symm
    rw [Int.mul_neg]; omega

set_option maxHeartbeats 800000 in
theorem lowered_any (a b : Int) (h0 : -1099511627776 ≤ a) (h1 : a ≤ 1099511627776) (h2 : 1 ≤ b) (h3 : b ≤ 1099511627776) (w : World) :
    Calls Tryz.prog 149 #[.int .i64 a, .int .i64 b] w fun e w' => e = .returned (.int .i64 (a / b)) ∧ w = w' := by
  by_cases hn : 0 ≤ a
  · have hm : ¬ (a % b < 0) := by have := Int.emod_nonneg a (show b ≠ 0 by omega); omega
    go_enter Tryz.func149, Tryz.ntmps149
    go_wp2
    go_ret
    exact ⟨rfl, rfl⟩
  · obtain ⟨f1, f2, f3, f4⟩ := tdiv_neg_floor (show a < 0 by omega) h2
    by_cases hm : a.tmod b < 0
    all_goals
      have E : Hid ((a.tmod b < 0 → a.tdiv b - 1 = a / b) ∧ (¬ a.tmod b < 0 → a.tdiv b = a / b)) := ⟨f1, f2⟩
      have H := Lib.hid hm
      clear f1 f2
      go_enter Tryz.func149, Tryz.ntmps149
      go_wp2
      go_ret
      exact ⟨ret_int (by first | exact E.out.1 H.out | exact E.out.2 H.out), rfl⟩
end Go.Proofs.YtfdkmmllemkogaaGreatDoor

/-
  Plain facts on binary floating point: the nearest word of a number that the format has, and what that word reads as; no Go, no program.
  Condition: none beyond the hypotheses written at each theorem.
-/
namespace Go.Proofs.YtfdkmmllemkogaaGreatDoor
open Ieee

theorem log2_mul_pow (a d : Nat) (ha : a ≠ 0) : (a * 2 ^ d).log2 = a.log2 + d := by
  induction d with
  | zero => simp
  | succ d ih =>
    have hp : 0 < 2 ^ d := Nat.two_pow_pos d
    have h0 : a * 2 ^ d ≠ 0 := Nat.mul_ne_zero ha (by omega)
    have e : a * 2 ^ (d + 1) = 2 * (a * 2 ^ d) := by rw [Nat.pow_succ]; ac_rfl
    rw [e, Nat.log2_two_mul h0, ih]; omega

theorem cut_whole (neg : Bool) (n drop q : Nat) (h : n = q * 2 ^ drop) (hd : drop ≤ n.log2 + 2) : Toward.even.cut neg n drop = q := by
  have hp : 0 < 2 ^ drop := Nat.two_pow_pos drop
  have h1 : n / 2 ^ drop = q := by rw [h]; exact Nat.mul_div_cancel _ hp
  have h2 : n % 2 ^ drop = 0 := by rw [h]; exact Nat.mul_mod_left _ _
  unfold Toward.cut
  simp only [Nat.min_eq_left hd, Nat.one_shiftLeft, h1, h2]
  have h3 : decide (2 ^ drop < 2 * 0) = false := by simp
  have h4 : (2 ^ drop == 2 * 0) = false := by simp
  simp [h4]

/-- The place of the last digit that is kept. -/
def lastOf (f : Format) (a : Nat) (place : Int) : Int := max (place + a.log2 - f.fractionBits) f.leastPlace

theorem nearest_exact (f : Format) (neg : Bool) (a d : Nat) (place : Int) (ha : a ≠ 0) (hw : a.log2 ≤ f.fractionBits) (hp : f.leastPlace ≤ place) :
    f.nearest neg (a * 2 ^ d) (place - d) = f.word neg (min ((lastOf f a place - f.leastPlace).toNat * f.binade + a * 2 ^ (place - lastOf f a place).toNat) f.infRung) := by
  have hpd : 0 < 2 ^ d := Nat.two_pow_pos d
  have h0 : a * 2 ^ d ≠ 0 := Nat.mul_ne_zero ha (by omega)
  unfold Format.nearest
  rw [if_neg h0]
  have hl : max (place - (d : Int) + ((a * 2 ^ d).log2 : Nat) - f.fractionBits) f.leastPlace = lastOf f a place := by
    unfold lastOf; rw [log2_mul_pow a d ha]; congr 1; omega
  simp only [hl]
  have hlast : lastOf f a place ≤ place := by unfold lastOf; omega
  have hk : Toward.even.cut neg ((a * 2 ^ d) <<< (place - (d : Int) - lastOf f a place).toNat) (lastOf f a place - (place - (d : Int))).toNat = a * 2 ^ (place - lastOf f a place).toNat := by
    generalize hc : (place - lastOf f a place).toNat = c
    by_cases h : d ≤ c
    · have e1 : (place - (d : Int) - lastOf f a place).toNat = c - d := by omega
      have e2 : (lastOf f a place - (place - (d : Int))).toNat = 0 := by omega
      rw [e1, e2]
      refine cut_whole _ _ _ _ ?_ (by omega)
      rw [Nat.shiftLeft_eq, Nat.mul_assoc, ← Nat.pow_add, Nat.pow_zero, Nat.mul_one]
      congr 2; omega
    · have e1 : (place - (d : Int) - lastOf f a place).toNat = 0 := by omega
      have e2 : (lastOf f a place - (place - (d : Int))).toNat = d - c := by omega
      rw [e1, e2]
      refine cut_whole _ _ _ _ ?_ ?_
      · rw [Nat.shiftLeft_zero, Nat.mul_assoc, ← Nat.pow_add]; congr 2; omega
      · rw [Nat.shiftLeft_zero, log2_mul_pow a d ha]; omega
  rw [hk]

theorem nearest_zero (f : Format) (neg : Bool) (place : Int) : f.nearest neg 0 place = f.word neg 0 := by
  unfold Format.nearest; simp

theorem read_word (f : Format) (neg : Bool) (r : Nat) (h : r < f.infRung) :
    f.read (f.word neg r) = if r < f.binade then .number neg r f.leastPlace else .number neg (f.binade + r % f.binade) (f.leastPlace + (r / f.binade - 1 : Nat)) := by
  have hi := f.infRung_lt
  have hs : r < f.signWeight := by omega
  have hsp : 0 < f.signWeight := by omega
  have e1 : f.word neg r / f.signWeight % 2 = neg.toNat := by
    unfold Format.word
    cases neg
    · simp [Nat.div_eq_of_lt hs]
    · simp [Nat.add_div_left _ hsp, Nat.div_eq_of_lt hs]
  have e2 : f.word neg r % f.signWeight = r := by
    unfold Format.word
    cases neg
    · simp [Nat.mod_eq_of_lt hs]
    · simp [Nat.mod_eq_of_lt hs]
  unfold Format.read
  simp only [e1, e2]
  have e3 : (neg.toNat == 1) = neg := by cases neg <;> rfl
  rw [e3]
  simp only [h, if_true]

/-- The number that a word stands for, in units of the least place. -/
def unitsOf (f : Format) (m : Nat) (e : Int) : Nat := m * 2 ^ (e - f.leastPlace).toNat

theorem read_exact (f : Format) (neg : Bool) (a d : Nat) (place : Int) (ha : a ≠ 0) (hw : a.log2 ≤ f.fractionBits) (hp : f.leastPlace ≤ place)
    (hfin : (lastOf f a place - f.leastPlace).toNat * f.binade + a * 2 ^ (place - lastOf f a place).toNat < f.infRung) :
    ∃ m e, f.read (f.nearest neg (a * 2 ^ d) (place - d)) = .number neg m e ∧ f.leastPlace ≤ e ∧ unitsOf f m e = a * 2 ^ (place - f.leastPlace).toNat := by
  rw [nearest_exact f neg a d place ha hw hp, Nat.min_eq_left (by omega), read_word f neg _ hfin]
  have hlast : lastOf f a place ≤ place := by unfold lastOf; omega
  have hlast2 : f.leastPlace ≤ lastOf f a place := by unfold lastOf; omega
  have hbin : f.binade = 2 ^ f.fractionBits := rfl
  have ha2 : 2 ^ a.log2 ≤ a := Nat.log2_self_le ha
  have ha3 : a < 2 ^ (a.log2 + 1) := Nat.lt_log2_self
  generalize hL : lastOf f a place = last at *
  by_cases hs : last = f.leastPlace ∧ place + a.log2 - f.fractionBits < f.leastPlace
  · obtain ⟨hs, hlt⟩ := hs
    have e0 : (last - f.leastPlace).toNat = 0 := by omega
    have hk : a * 2 ^ (place - last).toNat < f.binade := by
      rw [hbin]
      refine Nat.lt_of_lt_of_le ((Nat.mul_lt_mul_right (Nat.two_pow_pos _)).2 ha3) ?_
      rw [← Nat.pow_add]
      exact Nat.pow_le_pow_right (by omega) (by omega)
    rw [e0, Nat.zero_mul, Nat.zero_add, if_pos hk]
    refine ⟨_, _, rfl, Int.le_refl _, ?_⟩
    unfold unitsOf
    rw [hs, Int.sub_self]; simp
  · have hl : last = place + a.log2 - f.fractionBits := by unfold lastOf at hL; omega
    have hc : (place - last).toNat = f.fractionBits - a.log2 := by omega
    have hk1 : f.binade ≤ a * 2 ^ (place - last).toNat := by
      rw [hbin, hc]
      refine Nat.le_trans ?_ (Nat.mul_le_mul_right _ ha2)
      rw [← Nat.pow_add]
      exact Nat.pow_le_pow_right (by omega) (by omega)
    have hk2 : a * 2 ^ (place - last).toNat < 2 * f.binade := by
      rw [hbin, hc]
      refine Nat.lt_of_lt_of_le ((Nat.mul_lt_mul_right (Nat.two_pow_pos _)).2 ha3) ?_
      rw [← Nat.pow_add, Nat.mul_comm, ← Nat.pow_succ]
      exact Nat.pow_le_pow_right (by omega) (by omega)
    have hbp : 0 < f.binade := Nat.two_pow_pos _
    generalize hkk : a * 2 ^ (place - last).toNat = kept at *
    have hge : ¬ (last - f.leastPlace).toNat * f.binade + kept < f.binade := by
      have : 0 ≤ (last - f.leastPlace).toNat * f.binade := Nat.zero_le _
      omega
    rw [if_neg hge]
    have hmod : ((last - f.leastPlace).toNat * f.binade + kept) % f.binade = kept - f.binade := by
      rw [Nat.add_comm, Nat.add_mul_mod_self_right, Nat.mod_eq_sub_mod hk1, Nat.mod_eq_of_lt (by omega)]
    have hdiv : ((last - f.leastPlace).toNat * f.binade + kept) / f.binade = (last - f.leastPlace).toNat + 1 := by
      rw [Nat.add_comm, Nat.add_mul_div_right _ _ hbp, show kept / f.binade = 1 from by
        apply Nat.div_eq_of_lt_le <;> omega]
      omega
    refine ⟨_, _, rfl, by omega, ?_⟩
    unfold unitsOf
    rw [hmod, hdiv, show f.binade + (kept - f.binade) = kept from by omega, ← hkk]
    rw [show (f.leastPlace + (((last - f.leastPlace).toNat + 1 - 1 : Nat) : Int) - f.leastPlace).toNat = (last - f.leastPlace).toNat from by omega]
    rw [Nat.mul_assoc, ← Nat.pow_add]
    congr 2; omega

/-! ### What a word stands for, in units of the format's least place -/

def sgn (s : Bool) (v : Nat) : Int := if s then -(v : Int) else (v : Int)

/-- x is the finite word with the sign s that stands for v units of the least place. -/
def IsNum (f : Format) (x : Nat) (s : Bool) (v : Nat) : Prop :=
  ∃ m e, f.read x = .number s m e ∧ f.leastPlace ≤ e ∧ m < 2 ^ (f.fractionBits + 1) ∧ m * 2 ^ (e - f.leastPlace).toNat = v

theorem log2_lt_of_mul_lt {m k B : Nat} (hm : m ≠ 0) (h : m * 2 ^ k < 2 ^ B) : m.log2 + k < B := by
  have h1 : 2 ^ (m.log2 + k) ≤ m * 2 ^ k := by rw [Nat.pow_add]; exact Nat.mul_le_mul_right _ (Nat.log2_self_le hm)
  have h2 : 2 ^ (m.log2 + k) < 2 ^ B := Nat.lt_of_le_of_lt h1 h
  exact (Nat.pow_lt_pow_iff_right (by omega)).1 h2

theorem log2_le_of_lt {a n : Nat} (ha : a ≠ 0) (h : a < 2 ^ (n + 1)) : a.log2 ≤ n := by
  have := (Nat.log2_lt ha).2 h; omega

/-- The formats that are used. -/
def Two (f : Format) : Prop := f = single ∨ f = double

theorem isNum_nearest {f : Format} (hf : Two f) (s : Bool) (a d : Nat) (place : Int) (ha : a < 2 ^ (f.fractionBits + 1)) (hp : f.leastPlace ≤ place)
    (hmax : a * 2 ^ (place - f.leastPlace).toNat < 2 ^ (f.fractionBits + 2 ^ f.exponentBits - 2)) :
    IsNum f (f.nearest s (a * 2 ^ d) (place - d)) s (a * 2 ^ (place - f.leastPlace).toNat) := by
  have heb : 4 ≤ 2 ^ f.exponentBits := by rcases hf with rfl | rfl <;> decide
  by_cases h0 : a = 0
  · subst h0
    rw [Nat.zero_mul, nearest_zero, Nat.zero_mul]
    have hinf : 0 < f.infRung := by rcases hf with rfl | rfl <;> decide
    have hb : 0 < f.binade := Nat.two_pow_pos _
    refine ⟨0, f.leastPlace, ?_, Int.le_refl _, Nat.two_pow_pos _, by simp⟩
    rw [read_word f s 0 hinf, if_pos hb]
  · have hw := log2_le_of_lt h0 ha
    have hlg := log2_lt_of_mul_lt h0 hmax
    have ha3 : a < 2 ^ (a.log2 + 1) := Nat.lt_log2_self
    have hbp : 0 < f.binade := Nat.two_pow_pos _
    have hkept : a * 2 ^ (place - lastOf f a place).toNat < 2 * f.binade := by
      refine Nat.lt_of_lt_of_le ((Nat.mul_lt_mul_right (Nat.two_pow_pos _)).2 ha3) ?_
      have : f.binade = 2 ^ f.fractionBits := rfl
      rw [this, ← Nat.pow_add, Nat.mul_comm, ← Nat.pow_succ]
      refine Nat.pow_le_pow_right (by omega) ?_
      unfold lastOf; omega
    have hlast : (lastOf f a place - f.leastPlace).toNat + 3 ≤ 2 ^ f.exponentBits := by
      unfold lastOf; omega
    have hfin : (lastOf f a place - f.leastPlace).toNat * f.binade + a * 2 ^ (place - lastOf f a place).toNat < f.infRung := by
      have e : f.infRung = (2 ^ f.exponentBits - 1) * f.binade := rfl
      have k : ((lastOf f a place - f.leastPlace).toNat + 2) * f.binade ≤ (2 ^ f.exponentBits - 1) * f.binade := Nat.mul_le_mul_right _ (by omega)
      rw [Nat.add_mul] at k
      rw [e]; omega
    obtain ⟨m, e, h1, h2, h3⟩ := read_exact f s a d place h0 hw hp hfin
    refine ⟨m, e, h1, h2, ?_, h3⟩
    have hrw : f.nearest s (a * 2 ^ d) (place - d) = f.word s ((lastOf f a place - f.leastPlace).toNat * f.binade + a * 2 ^ (place - lastOf f a place).toNat) := by
      rw [nearest_exact f s a d place h0 hw hp, Nat.min_eq_left (by omega)]
    rw [hrw, read_word f s _ hfin] at h1
    split at h1
    · rename_i hlt
      simp only [Datum.number.injEq] at h1
      have : f.binade = 2 ^ f.fractionBits := rfl
      have e2 : (2 : Nat) ^ (f.fractionBits + 1) = 2 * f.binade := by rw [this, Nat.pow_succ, Nat.mul_comm]
      omega
    · simp only [Datum.number.injEq] at h1
      have : f.binade = 2 ^ f.fractionBits := rfl
      have e2 : (2 : Nat) ^ (f.fractionBits + 1) = 2 * f.binade := by rw [this, Nat.pow_succ, Nat.mul_comm]
      have := Nat.mod_lt ((lastOf f a place - f.leastPlace).toNat * f.binade + a * 2 ^ (place - lastOf f a place).toNat) hbp
      omega

theorem signed_eq (s : Bool) (m u : Nat) : signed s m u = sgn s (m * 2 ^ u) := by
  unfold signed sgn; rw [Nat.shiftLeft_eq]
theorem sgn_mul (s : Bool) (v c : Nat) : sgn s (v * c) = sgn s v * c := by
  unfold sgn; cases s <;> simp [Int.neg_mul]

theorem compare_mul_pos (a b : Int) (c : Nat) (hc : 0 < c) : compare (a * c) (b * c) = compare a b := by
  have hc' : (0 : Int) < c := by omega
  have e1 : (a * c < b * c) ↔ a < b := Int.mul_lt_mul_right hc'
  have e2 : (a * c = b * c) ↔ a = b := Int.mul_eq_mul_right_iff (by omega)
  show compareOfLessAndEq (a * c) (b * c) = compareOfLessAndEq a b
  unfold compareOfLessAndEq
  simp only [e1, e2]

theorem IsNum.order {f : Format} {x y : Nat} {s t : Bool} {v u : Nat} (hx : IsNum f x s v) (hy : IsNum f y t u) : f.order x y = some (compare (sgn s v) (sgn t u)) := by
  obtain ⟨m, i, h1, h2, _, rfl⟩ := hx
  obtain ⟨n, j, k1, k2, _, rfl⟩ := hy
  unfold Format.order
  rw [h1, k1]
  simp only [Datum.order, signed_eq]
  have e1 : m * 2 ^ (i - f.leastPlace).toNat = m * 2 ^ (i - min i j).toNat * 2 ^ (min i j - f.leastPlace).toNat := by
    rw [Nat.mul_assoc, ← Nat.pow_add]; congr 2; omega
  have e2 : n * 2 ^ (j - f.leastPlace).toNat = n * 2 ^ (j - min i j).toNat * 2 ^ (min i j - f.leastPlace).toNat := by
    rw [Nat.mul_assoc, ← Nat.pow_add]; congr 2; omega
  rw [e1, e2, sgn_mul s (m * 2 ^ (i - min i j).toNat), sgn_mul t (n * 2 ^ (j - min i j).toNat), compare_mul_pos _ _ _ (Nat.two_pow_pos _)]

theorem cut_zero (neg : Bool) (n drop : Nat) : Toward.zero.cut neg n drop = n / 2 ^ drop := by
  unfold Toward.cut
  simp only [Nat.one_shiftLeft, Bool.toNat_false, Nat.add_zero]
  by_cases h : drop ≤ n.log2 + 2
  · rw [Nat.min_eq_left h]
  · rw [Nat.min_eq_right (by omega)]
    have h1 : n < 2 ^ (n.log2 + 2) := Nat.lt_of_lt_of_le Nat.lt_log2_self (Nat.pow_le_pow_right (by omega) (by omega))
    have h2 : n < 2 ^ drop := Nat.lt_of_lt_of_le h1 (Nat.pow_le_pow_right (by omega) (by omega))
    rw [Nat.div_eq_of_lt h1, Nat.div_eq_of_lt h2]

/-- Cut towards zero, an integer. -/
theorem IsNum.toInt {f : Format} {x : Nat} {s : Bool} {v : Nat} (hx : IsNum f x s v) (hL : f.leastPlace ≤ 0) : (f.read x).toInt .zero = some (sgn s (v / 2 ^ (-f.leastPlace).toNat)) := by
  obtain ⟨m, i, h1, h2, _, rfl⟩ := hx
  rw [h1]
  simp only [Datum.toInt, Datum.integral, signed_eq, cut_zero]
  congr 2
  rw [Nat.pow_zero, Nat.mul_one, Nat.shiftLeft_eq]
  by_cases h : 0 ≤ i
  · have e1 : (-i).toNat = 0 := by omega
    have e2 : (i - f.leastPlace).toNat = i.toNat + (-f.leastPlace).toNat := by omega
    rw [e1, e2, Nat.pow_zero, Nat.div_one, Nat.pow_add, ← Nat.mul_assoc, Nat.mul_div_cancel _ (Nat.two_pow_pos _)]
  · have e1 : i.toNat = 0 := by omega
    have e2 : (-f.leastPlace).toNat = (i - f.leastPlace).toNat + (-i).toNat := by omega
    rw [e1, e2, Nat.pow_zero, Nat.mul_one, Nat.pow_add, ← Nat.div_div_eq_div_mul, Nat.mul_div_cancel _ (Nat.two_pow_pos _)]

/-- Times a power of two, the power on either side. -/
theorem IsNum.mul_pow {f : Format} (hf : Two f) {x c : Nat} {s : Bool} {v j : Nat} (hx : IsNum f x s v) (hc : f.read c = .number false (2 ^ f.fractionBits) ((j : Int) - f.fractionBits))
    (hmax : v * 2 ^ j < 2 ^ (f.fractionBits + 2 ^ f.exponentBits - 2)) : ∃ r, f.mul x c = some r ∧ f.mul c x = some r ∧ IsNum f r s (v * 2 ^ j) := by
  obtain ⟨m, i, h1, h2, h3, rfl⟩ := hx
  have e : m * 2 ^ (i - f.leastPlace).toNat * 2 ^ j = m * 2 ^ (i + j - f.leastPlace).toNat := by
    rw [Nat.mul_assoc, ← Nat.pow_add]; congr 2; omega
  rw [e] at hmax ⊢
  have h := isNum_nearest hf s m f.fractionBits (i + j) h3 (by omega) hmax
  refine ⟨_, ?_, ?_, h⟩
  · unfold Format.mul
    rw [h1, hc]
    simp only [Datum.product, Option.map_some, Format.write, Bool.xor_false]
    congr 2
    omega
  · unfold Format.mul
    rw [h1, hc]
    simp only [Datum.product, Option.map_some, Format.write, Bool.false_xor]
    congr 2
    · exact Nat.mul_comm _ _
    · omega
end Go.Proofs.YtfdkmmllemkogaaGreatDoor

/-
  Plain facts on samples: a sample's word stands for an integer over 16; what Go's conversions, comparisons, products and quotients make of it.
  Condition: the hypotheses written at each theorem (sizes of the integers).
-/
namespace Go.Proofs.YtfdkmmllemkogaaGreatDoor
open Ieee

theorem two32 : Two single := .inl rfl
theorem two64 : Two double := .inr rfl

/-- x is a word of float32 that stands for k/16 (0 has two words). -/
def Smp (x : Nat) (k : Int) : Prop := ∃ s, IsNum single x s (k.natAbs * 2 ^ 145) ∧ (k < 0 → s = true) ∧ (0 < k → s = false)

theorem sgn_smp {s : Bool} {k : Int} (c : Nat) (h1 : k < 0 → s = true) (h2 : 0 < k → s = false) : sgn s (k.natAbs * c) = k * c := by
  rw [sgn_mul]
  congr 1
  unfold sgn
  cases s
  · simp only [Bool.false_eq_true, if_false]
    have : ¬ k < 0 := fun h => by have := h1 h; cases this
    omega
  · simp only [if_true]
    have : ¬ 0 < k := fun h => by have := h2 h; cases this
    omega

theorem Smp.order {x y : Nat} {k l : Int} (hx : Smp x k) (hy : Smp y l) : single.order x y = some (compare k l) := by
  obtain ⟨s, h, h1, h2⟩ := hx
  obtain ⟨t, g, g1, g2⟩ := hy
  rw [h.order g, sgn_smp _ h1 h2, sgn_smp _ g1 g2, compare_mul_pos _ _ _ (Nat.two_pow_pos _)]

theorem pow_split {v a b : Nat} (h : v < 2 ^ a) : v * 2 ^ b < 2 ^ (a + b) := by
  rw [Nat.pow_add]; exact (Nat.mul_lt_mul_right (Nat.two_pow_pos _)).2 h

/-- int(x * 16), the factor on either side. -/
theorem Smp.int16 {x : Nat} {k : Int} (hx : Smp x k) (hk : k.natAbs < 2 ^ 40) :
    ∃ r, floatBits .mul .f32 x 1098907648 = some r ∧ floatBits .mul .f32 1098907648 x = some r ∧ floatToIntVal .f32 r .i64 = some k := by
  obtain ⟨s, h, h1, h2⟩ := hx
  have hc : single.read 1098907648 = .number false (2 ^ single.fractionBits) (((4 : Nat) : Int) - single.fractionBits) := by decide +kernel
  obtain ⟨r, m1, m2, m3⟩ := h.mul_pow two32 hc (by
    have e : k.natAbs * 2 ^ 145 * 2 ^ 4 = k.natAbs * 2 ^ 149 := by rw [Nat.mul_assoc]
    rw [e]
    exact Nat.lt_trans (pow_split hk) (by decide +kernel))
  refine ⟨r, m1, m2, ?_⟩
  have ht := m3.toInt (by decide)
  have e : k.natAbs * 2 ^ 145 * 2 ^ 4 / 2 ^ (-single.leastPlace).toNat = k.natAbs * 1 := by
    have e1 : k.natAbs * 2 ^ 145 * 2 ^ 4 = k.natAbs * 2 ^ 149 := by rw [Nat.mul_assoc]
    have e2 : (-single.leastPlace).toNat = 149 := by decide
    rw [e1, e2, Nat.mul_div_cancel _ (Nat.two_pow_pos _), Nat.mul_one]
  rw [e, sgn_smp 1 h1 h2] at ht
  have ht' : (FloatKind.f32.decode r).toInt .zero = some k := by rw [show ((1 : Nat) : Int) = 1 from rfl, Int.mul_one] at ht; exact ht
  unfold floatToIntVal
  rw [ht']
  have h40 : k.natAbs < 1099511627776 := hk
  have : IntKind.i64.min ≤ k ∧ k ≤ IntKind.i64.max := by
    have e1 : IntKind.i64.min = -9223372036854775808 := by decide
    have e2 : IntKind.i64.max = 9223372036854775807 := by decide
    rw [e1, e2]; omega
  simp only [this, and_self, if_true]

/-- float32(n). -/
theorem isNum_ofInt (n : Int) (hn : n.natAbs < 2 ^ 24) : IsNum single (floatOfInt .f32 n) (decide (n < 0)) (n.natAbs * 2 ^ 149) := by
  have h := isNum_nearest two32 (decide (n < 0)) n.natAbs 0 0 hn (by decide) (by
    have e : ((0 : Int) - single.leastPlace).toNat = 149 := by decide
    rw [e]; exact Nat.lt_trans (pow_split hn) (by decide +kernel))
  have e : ((0 : Int) - single.leastPlace).toNat = 149 := by decide
  rw [e] at h
  simpa [floatOfInt, FloatKind.nearest, FloatKind.encode, Format.write, FloatKind.format] using h

/-- float32(n) / 16. -/
theorem div16 (n : Int) (hn : n.natAbs < 2 ^ 24) : ∃ r, floatBits .quo .f32 (floatOfInt .f32 n) 1098907648 = some r ∧ Smp r n := by
  obtain ⟨m, e, h1, h2, h3, h4⟩ := isNum_ofInt n hn
  have hL : single.leastPlace = -149 := by decide
  have hc : single.read 1098907648 = .number false (2 ^ 23) (-19) := by decide +kernel
  have h3' : m < 2 ^ 24 := h3
  rw [hL] at h2 h4
  have hlog : (2 ^ 23 : Nat).log2 = 23 := by decide +kernel
  by_cases h0 : n = 0
  · subst h0
    have hm : m = 0 := by
      have : m * 2 ^ (e - -149).toNat = 0 := by rw [h4]; simp
      rcases Nat.mul_eq_zero.1 this with h | h
      · exact h
      · exact absurd h (by have := Nat.two_pow_pos (e - -149).toNat; omega)
    subst hm
    refine ⟨single.word false 0, ?_, ?_⟩
    · show single.div _ _ = _
      unfold Format.div
      rw [h1, hc]
      simp [Datum.quotient, Format.write, nearest_zero]
    · refine ⟨false, ⟨0, single.leastPlace, by decide +kernel, Int.le_refl _, by decide, by simp⟩, by omega, by omega⟩
  · have hm0 : m ≠ 0 := by
      rintro rfl
      rw [Nat.zero_mul] at h4
      rcases Nat.mul_eq_zero.1 h4.symm with h | h
      · omega
      · exact absurd h (by have := Nat.two_pow_pos 149; omega)
    have hml : m.log2 ≤ 23 := log2_le_of_lt hm0 h3
    have he : -145 ≤ e := by
      refine Classical.byContradiction fun hh => ?_
      have k1 : m * 2 ^ (e - -149).toNat < 2 ^ (24 + 4) := by
        refine Nat.lt_of_lt_of_le (pow_split h3') (Nat.pow_le_pow_right (by omega) (by omega))
      rw [h4] at k1
      have k2 : 2 ^ 149 ≤ n.natAbs * 2 ^ 149 := Nat.le_mul_of_pos_left _ (by omega)
      have k3 : (2 : Nat) ^ 149 < 2 ^ (24 + 4) := Nat.lt_of_le_of_lt k2 k1
      have := (Nat.pow_lt_pow_iff_right (show 1 < 2 by omega)).1 k3
      omega
    have hmax : m * 2 ^ (e - 4 - single.leastPlace).toNat < 2 ^ (single.fractionBits + 2 ^ single.exponentBits - 2) := by
      refine Nat.lt_of_le_of_lt (Nat.mul_le_mul_left _ (Nat.pow_le_pow_right (by omega) (show (e - 4 - single.leastPlace).toNat ≤ (e - -149).toNat by omega))) ?_
      rw [h4]
      exact Nat.lt_trans (pow_split hn) (by decide +kernel)
    have hk := isNum_nearest two32 (decide (n < 0)) m (25 + 23 - m.log2 - 22) (e - 4) h3 (by omega) hmax
    refine ⟨single.nearest (decide (n < 0)) (m * 2 ^ (25 + 23 - m.log2 - 22)) (e - 4 - ((25 + 23 - m.log2 - 22 : Nat) : Int)), ?_, decide (n < 0), ?_, by simp, by simp; omega⟩
    rotate_left
    · have ev : m * 2 ^ (e - 4 - single.leastPlace).toNat = n.natAbs * 2 ^ 145 := by
        have e1 : (e - -149).toNat = (e - 4 - single.leastPlace).toNat + 4 := by omega
        rw [e1, Nat.pow_add, ← Nat.mul_assoc] at h4
        have e2 : n.natAbs * 2 ^ 149 = n.natAbs * 2 ^ 145 * 2 ^ 4 := by rw [Nat.mul_assoc]
        rw [e2] at h4
        exact Nat.eq_of_mul_eq_mul_right (by decide) h4
      rw [ev] at hk
      exact hk
    · show single.div _ _ = _
      unfold Format.div
      rw [h1, hc]
      have hsplit : m <<< (25 + 23 - m.log2) = m * 2 ^ (25 + 23 - m.log2 - 23) * 2 ^ 23 := by
        rw [Nat.shiftLeft_eq, Nat.mul_assoc, ← Nat.pow_add]; congr 2; omega
      have hd : m <<< (25 + 23 - m.log2) / 2 ^ 23 = m * 2 ^ (25 + 23 - m.log2 - 23) := by rw [hsplit]; exact Nat.mul_div_cancel _ (by decide)
      have hr : m <<< (25 + 23 - m.log2) % 2 ^ 23 = 0 := by rw [hsplit]; exact Nat.mul_mod_left _ _
      have hne : ¬ (2 ^ 23 : Nat) = 0 := by decide
      simp only [Datum.quotient, hne, if_false, Option.map_some, Format.write, Bool.xor_false, hlog, show single.fractionBits + 2 = 25 from rfl, hd, hr]
      congr 2
      · have : (25 + 23 - m.log2 - 22 : Nat) = (25 + 23 - m.log2 - 23) + 1 := by omega
        rw [this, Nat.pow_succ]
        simp [Nat.mul_comm, Nat.mul_left_comm]
      · omega

/-- The word that 'float32(n) / 16' gives. -/
def smpOf (n : Int) : Nat := (floatBits .quo .f32 (floatOfInt .f32 n) 1098907648).getD 0
theorem smpOf_run (n : Int) (hn : n.natAbs < 2 ^ 24) : floatBits .quo .f32 (floatOfInt .f32 n) 1098907648 = some (smpOf n) := by
  obtain ⟨r, h, _⟩ := div16 n hn
  unfold smpOf; rw [h]; rfl
theorem smpOf_smp (n : Int) (hn : n.natAbs < 2 ^ 24) : Smp (smpOf n) n := by
  obtain ⟨r, h, hs⟩ := div16 n hn
  unfold smpOf; rw [h]; exact hs
end Go.Proofs.YtfdkmmllemkogaaGreatDoor

/-
  Plain facts on float64: what the words of Go's conversion from float32, of a product with 16, of a number cut towards zero and of an absolute value stand for.
  Condition: the hypotheses written at each theorem (sizes of the numbers).
-/
namespace Go.Proofs.YtfdkmmllemkogaaGreatDoor
open Ieee

theorem mul_pow_join (m a b c : Nat) (h : a + b = c) : m * 2 ^ a * 2 ^ b = m * 2 ^ c := by
  subst h; rw [Nat.mul_assoc, ← Nat.pow_add]
theorem pow_split_lt {v a b c : Nat} (h : v < 2 ^ a) (hc : a + b < c) : v * 2 ^ b < 2 ^ c :=
  Nat.lt_trans (pow_split h) ((Nat.pow_lt_pow_iff_right (by omega)).2 hc)

theorem sgn_le {a b c : Nat} (h : a ≤ b) : sgn false (a * c) ≤ sgn false (b * c) := by
  unfold sgn; simp only [Bool.false_eq_true, if_false]; exact Int.ofNat_le.2 (Nat.mul_le_mul_right _ h)
theorem sgn_le' {a b : Nat} (h : a ≤ b) : sgn false a ≤ sgn false b := by
  unfold sgn; simp only [Bool.false_eq_true, if_false]; exact Int.ofNat_le.2 h

theorem toF64 {x : Nat} {s : Bool} {v : Nat} (a : Nat) (h : IsNum single x s v) (hv : v < 2 ^ a) (ha : a ≤ 277) : ∃ d, floatToFloatBits .f32 x .f64 = some d ∧ IsNum double d s (v * 2 ^ 925) := by
  generalize hu : (925 : Nat) = u
  obtain ⟨m, e, h1, h2, h3, rfl⟩ := h
  have hL : single.leastPlace = -149 := by decide
  have hD : double.leastPlace = -1074 := by decide
  have ev : m * 2 ^ (e - single.leastPlace).toNat * 2 ^ u = m * 2 ^ (e - double.leastPlace).toNat := by
    exact mul_pow_join m _ u _ (by omega)
  have h3' : m < 2 ^ (double.fractionBits + 1) := Nat.lt_of_lt_of_le h3 (by decide +kernel)
  have hk := isNum_nearest two64 s m 0 e h3' (by omega) (by
    rw [← ev]
    exact pow_split_lt hv (by subst hu; show a + 925 < 2098; omega))
  have e0 : e - ((0 : Nat) : Int) = e := by omega
  rw [Nat.pow_zero, Nat.mul_one, e0] at hk
  refine ⟨double.nearest s m e, ?_, by rw [ev]; exact hk⟩
  obtain ⟨m', e', k1, _⟩ := hk
  unfold floatToFloatBits
  have hne : ¬ FloatKind.f32 = FloatKind.f64 := by decide
  have hdec : FloatKind.f32.decode x = .number s m e := h1
  have henc : FloatKind.f64.encode (.number s m e) = double.nearest s m e := rfl
  have hdec2 : FloatKind.f64.decode (double.nearest s m e) = .number s m' e' := k1
  simp only [hne, if_false, hdec, henc, hdec2, Datum.isInfinity]
  simp

theorem IsNum.self {f : Format} {x : Nat} {s : Bool} {v : Nat} (h : IsNum f x s v) : f.order x x = some .eq := by
  rw [h.order h]
  congr 1
  show compareOfLessAndEq _ _ = _
  unfold compareOfLessAndEq; simp

theorem IsNum.gt_false {f : Format} {x y : Nat} {s t : Bool} {v u : Nat} (h : IsNum f x s v) (g : IsNum f y t u) (hle : sgn s v ≤ sgn t u) : (f.order x y == some .gt) = false := by
  rw [h.order g]
  have : compare (sgn s v) (sgn t u) ≠ .gt := by
    show compareOfLessAndEq _ _ ≠ _
    unfold compareOfLessAndEq
    split
    · simp
    · split
      · simp
      · omega
  cases hc : compare (sgn s v) (sgn t u) <;> simp_all

theorem IsNum.le_true {f : Format} {x y : Nat} {s t : Bool} {v u : Nat} (h : IsNum f x s v) (g : IsNum f y t u) (hle : sgn s v ≤ sgn t u) : (f.order x y == some .lt || f.order x y == some .eq) = true := by
  rw [h.order g]
  have : compare (sgn s v) (sgn t u) ≠ .gt := by
    show compareOfLessAndEq _ _ ≠ _
    unfold compareOfLessAndEq
    split
    · simp
    · split
      · simp
      · omega
  cases hc : compare (sgn s v) (sgn t u) <;> simp_all

theorem IsNum.eq_true {f : Format} {x y : Nat} {s : Bool} {v : Nat} (h : IsNum f x s v) (g : IsNum f y s v) : (f.order x y == some .eq) = true := by
  rw [h.order g]
  have : compare (sgn s v) (sgn s v) = .eq := by
    show compareOfLessAndEq _ _ = _
    unfold compareOfLessAndEq; simp
  rw [this]; rfl

/-- d without its sign. -/
theorem IsNum.abs64 {d : Nat} {s : Bool} {v : Nat} (h : IsNum double d s v) : IsNum double (d % 9223372036854775808) false v := by
  obtain ⟨m, e, h1, h2, h3, h4⟩ := h
  refine ⟨m, e, ?_, h2, h3, h4⟩
  have hs : double.signWeight = 9223372036854775808 := by decide +kernel
  unfold Format.read at h1 ⊢
  simp only [hs] at h1 ⊢
  have e1 : d % 9223372036854775808 / 9223372036854775808 = 0 := Nat.div_eq_of_lt (Nat.mod_lt _ (by omega))
  have e2 : d % 9223372036854775808 % 9223372036854775808 = d % 9223372036854775808 := Nat.mod_mod _ _
  rw [e1, e2]
  split at h1
  · rename_i hlt
    simp only [Datum.number.injEq] at h1
    rw [if_pos hlt, h1.2.1, h1.2.2]; rfl
  · rename_i hlt
    split at h1
    · rename_i hlt2
      simp only [Datum.number.injEq] at h1
      rw [if_neg hlt, if_pos hlt2, h1.2.1, h1.2.2]; rfl
    · split at h1 <;> cases h1

theorem andNot_top (d : Nat) (hd : d < 18446744073709551616) : bits BinOp.andNot IntKind.u64 (d : Int) 9223372036854775808 = ((d % 9223372036854775808 : Nat) : Int) := by
  rw [show (9223372036854775808 : Int) = ((9223372036854775808 : Nat) : Int) from rfl, u64_andNot_nat d 9223372036854775808 hd (by omega)]
  congr 1
  have e : (18446744073709551615 - 9223372036854775808 : Nat) = 2 ^ 63 - 1 := by decide
  rw [e, Nat.and_two_pow_sub_one_eq_mod]

/-- math.Trunc of an integer. -/
theorem trunc_int {d : Nat} {s : Bool} {k : Nat} (h : IsNum double d s (k * 2 ^ 1074)) (hk : k < 2 ^ 53) :
    ∃ t, (FloatKind.f64.decode d).integral .zero = .number s k 0 ∧ FloatKind.f64.encode (.number s k 0) = t ∧ IsNum double t s (k * 2 ^ 1074) := by
  generalize hu : (1074 : Nat) = u at *
  have e : ((0 : Int) - double.leastPlace).toNat = u := by subst hu; decide
  have hg := isNum_nearest two64 s k 0 0 hk (by decide) (by
    rw [e]; exact pow_split_lt hk (by subst hu; decide))
  rw [e, Nat.pow_zero, Nat.mul_one] at hg
  refine ⟨_, ?_, rfl, hg⟩
  have hD : double.leastPlace = -1074 := by decide
  obtain ⟨m, i, h1, h2, _, h4⟩ := h
  rw [hD] at h2 h4
  have h1' : FloatKind.f64.decode d = .number s m i := h1
  rw [h1']
  simp only [Datum.integral, cut_zero]
  congr 1
  rw [Nat.shiftLeft_eq]
  by_cases hi : 0 ≤ i
  · have e1 : (-i).toNat = 0 := by omega
    rw [e1, Nat.pow_zero, Nat.div_one]
    have e2 : m * 2 ^ i.toNat * 2 ^ u = m * 2 ^ (i - -1074).toNat := mul_pow_join m _ u _ (by omega)
    rw [← e2] at h4
    exact Nat.eq_of_mul_eq_mul_right (Nat.two_pow_pos u) h4
  · have e1 : i.toNat = 0 := by omega
    rw [e1, Nat.pow_zero, Nat.mul_one]
    have e2 : (1074 : Nat) = (i - -1074).toNat + (-i).toNat := by omega
    have e3 : k * 2 ^ u = k * 2 ^ (-i).toNat * 2 ^ (i - -1074).toNat := (mul_pow_join k _ _ u (by omega)).symm
    rw [e3] at h4
    have h5 := Nat.eq_of_mul_eq_mul_right (Nat.two_pow_pos _) h4
    rw [h5, Nat.mul_div_cancel _ (Nat.two_pow_pos _)]

theorem mul16_64 {d : Nat} {s : Bool} {v : Nat} (a : Nat) (h : IsNum double d s v) (hv : v < 2 ^ a) (ha : a ≤ 2000) : ∃ r, floatBits .mul .f64 d 4625196817309499392 = some r ∧ IsNum double r s (v * 2 ^ 4) := by
  have hc : double.read 4625196817309499392 = .number false (2 ^ double.fractionBits) (((4 : Nat) : Int) - double.fractionBits) := by decide +kernel
  obtain ⟨r, m1, _, m3⟩ := h.mul_pow two64 hc (pow_split_lt hv (show a + 4 < 2098 by omega))
  exact ⟨r, m1, m3⟩

theorem max16384 : IsNum double 4670232813583204352 false (16384 * 2 ^ 1074) := by
  have e : double.read 4670232813583204352 = .number false (2 ^ 52) (-38) := by decide +kernel
  refine ⟨2 ^ 52, -38, e, by decide, by decide, ?_⟩
  have e2 : ((-38 : Int) - double.leastPlace).toNat = 1036 := by decide
  rw [e2]
  generalize hv : (1074 : Nat) = v
  generalize hu : (1036 : Nat) = u
  have e3 : (1 : Nat) * 2 ^ 52 * 2 ^ u = 1 * 2 ^ (52 + u) := mul_pow_join 1 52 u _ rfl
  have e4 : (1 : Nat) * 2 ^ 14 * 2 ^ v = 1 * 2 ^ (14 + v) := mul_pow_join 1 14 v _ rfl
  rw [Nat.one_mul, Nat.one_mul] at e3 e4
  rw [e3, show (16384 : Nat) = 2 ^ 14 from rfl, e4]; congr 1; omega
theorem le_max16384 {n a : Nat} {s : Bool} (h : IsNum double n s (a * 2 ^ 1074)) (ha : a ≤ 16384) : (double.order (n % 9223372036854775808) 4670232813583204352 == some .lt || double.order (n % 9223372036854775808) 4670232813583204352 == some .eq) = true := by
  have hm := max16384
  generalize hv : (1074 : Nat) = v at h hm
  exact h.abs64.le_true hm (sgn_le ha)
theorem max64 : IsNum double 9218868437227405311 false ((2 ^ 53 - 1) * 2 ^ 2045) := ⟨2 ^ 53 - 1, 971, by decide +kernel, by decide, by decide +kernel, by decide +kernel⟩
theorem max64_ge {v a : Nat} (h : v < 2 ^ a) (ha : a ≤ 2097) : v ≤ (2 ^ 53 - 1) * 2 ^ 2045 := by
  generalize hu : (2045 : Nat) = u
  have e : (2 : Nat) ^ a ≤ 2 ^ 52 * 2 ^ u := by rw [← Nat.pow_add]; exact Nat.pow_le_pow_right (by omega) (by omega)
  exact Nat.le_trans (Nat.le_of_lt h) (Nat.le_trans e (Nat.mul_le_mul_right _ (by decide)))
end Go.Proofs.YtfdkmmllemkogaaGreatDoor

/-
  Contracts of the functions on one sample: its integer, the sample of an integer, whether it is one, for words that stand for k/16; and the reference's check of any word.
  Condition: the sizes of the integers that are written at each theorem.
-/
namespace Go.Proofs.YtfdkmmllemkogaaGreatDoor
open Go.RowKit
set_option linter.unusedVariables false

theorem run_mul (t : TypeId) {k : FloatKind} {x y r : Nat} (h : floatBits .mul k x y = some r) : ∀ w : World, (binOp .mul t (.float k x) (.float k y)).run Tryz.prog w = .ok (.float k r) w :=
  fun w => run_float_arith w .mul t k x y r h
theorem run_quo (t : TypeId) {k : FloatKind} {x y r : Nat} (h : floatBits .quo k x y = some r) : ∀ w : World, (binOp .quo t (.float k x) (.float k y)).run Tryz.prog w = .ok (.float k r) w :=
  fun w => run_float_arith w .quo t k x y r h
theorem run_sub (t : TypeId) {k : FloatKind} {x y r : Nat} (h : floatBits .sub k x y = some r) : ∀ w : World, (binOp .sub t (.float k x) (.float k y)).run Tryz.prog w = .ok (.float k r) w :=
  fun w => run_float_arith w .sub t k x y r h
theorem run_toInt {r : Nat} {n : Int} (h : floatToIntVal .f32 r .i64 = some n) : ∀ w : World, (convert 23 3 (.float .f32 r)).run Tryz.prog w = .ok (.int .i64 n) w :=
  fun w => run_convert_float_int w 23 3 .f32 .i64 r n (by rw [Tryz.underlying23]; rfl) Tryz.underlying3 h
theorem run_to64 {r d : Nat} (h : floatToFloatBits .f32 r .f64 = some d) : ∀ w : World, (convert 23 183 (.float .f32 r)).run Tryz.prog w = .ok (.float .f64 d) w :=
  fun w => run_convert_float_float w 23 183 .f32 .f64 r d (by rw [Tryz.underlying23]; rfl) Tryz.underlying183 h
theorem run_ofInt (n : Int) : ∀ w : World, (convert 3 23 (.int .i64 n)).run Tryz.prog w = .ok (.float .f32 (floatOfInt .f32 n)) w :=
  fun w => run_convert_int_float w 3 23 .i64 .f32 n (by rw [Tryz.underlying3]; rfl) Tryz.underlying23

set_option maxHeartbeats 400000 in
theorem integer_any (x : Nat) (k : Int) (hs : Smp x k) (hk : k.natAbs < 2 ^ 40) (w : World) :
    Calls Tryz.prog 200 #[.float .f32 x] w fun e w' => e = .returned (.int .i64 k) ∧ w = w' := by
  obtain ⟨r, m1, m2, m3⟩ := hs.int16 hk
  have h1 := run_mul 23 m1
  have h2 := run_toInt m3
  clear hk
  go_enter Tryz.func200, Tryz.ntmps200
  go_wp2
  go_ret
  exact ⟨rfl, rfl⟩

set_option maxHeartbeats 400000 in
theorem sixteenths_any (x : Nat) (k : Int) (hs : Smp x k) (hk : k.natAbs < 2 ^ 40) (w : World) :
    Calls Tryz.prog 99 #[.float .f32 x] w fun e w' => e = .returned (.int .i64 k) ∧ w = w' := by
  obtain ⟨r, m1, m2, m3⟩ := hs.int16 hk
  have h1 := run_mul 23 m2
  have h2 := run_toInt m3
  clear hk
  go_enter Tryz.func99, Tryz.ntmps99
  go_wp2
  go_ret
  exact ⟨rfl, rfl⟩

set_option maxHeartbeats 400000 in
theorem sample_any (n : Int) (hn : n.natAbs < 2 ^ 24) (w : World) :
    Calls Tryz.prog 125 #[.int .i64 n] w fun e w' => e = .returned (.float .f32 (smpOf n)) ∧ w = w' := by
  have h1 := run_quo 23 (smpOf_run n hn)
  have h2 := run_ofInt n
  clear hn
  go_enter Tryz.func125, Tryz.ntmps125
  go_wp2
  go_ret
  exact ⟨rfl, rfl⟩

set_option maxHeartbeats 400000 in
theorem refSample_any (n : Int) (hn : n.natAbs < 2 ^ 24) (w : World) :
    Calls Tryz.prog 45 #[.int .i64 n] w fun e w' => e = .returned (.float .f32 (smpOf n)) ∧ w = w' := by
  have h1 := run_quo 23 (smpOf_run n hn)
  have h2 := run_ofInt n
  clear hn
  go_enter Tryz.func45, Tryz.ntmps45
  go_wp2
  go_ret
  exact ⟨rfl, rfl⟩

set_option maxHeartbeats 400000 in
theorem isNaN_any (d : Nat) (s : Bool) (v : Nat) (h : IsNum Ieee.double d s v) (w : World) :
    Calls Tryz.prog 194 #[.float .f64 d] w fun e w' => e = .returned (.bool false) ∧ w = w' := by
  have h1 : FloatKind.f64.format.order d d = some .eq := h.self
  have H := Lib.hid h
  clear h
  go_enter Tryz.func194, Tryz.ntmps194
  go_wp2
  go_ret
  exact ⟨rfl, rfl⟩

theorem run_bits64 (d : Nat) : ∀ w : World, (callFunc 229 #[.float .f64 d]).run Tryz.prog w = .ok (.value (.int .u64 d)) w := fun w => by kernel_rfl
theorem run_frombits64 (n : Nat) : ∀ w : World, (callFunc 228 #[.int .u64 n]).run Tryz.prog w = .ok (.value (.float .f64 n)) w := fun w => by kernel_rfl

theorem run_frombits64m (d : Nat) : ∀ w : World, (callFunc 228 #[.int .u64 ((d : Int) % 9223372036854775808)]).run Tryz.prog w = .ok (.value (.float .f64 (d % 9223372036854775808))) w := fun w => by
  have e : ((d : Int) % 9223372036854775808) = ((d % 9223372036854775808 : Nat) : Int) := by omega
  rw [e]; exact run_frombits64 _ w

set_option maxHeartbeats 400000 in
theorem abs_any (d : Nat) (hd : d < 18446744073709551616) (w : World) :
    Calls Tryz.prog 197 #[.float .f64 d] w fun e w' => e = .returned (.float .f64 (d % 9223372036854775808)) ∧ w = w' := by
  have h1 := run_bits64 d
  have h2 := run_frombits64m d
  have h3 := andNot_top d hd
  go_enter Tryz.func197, Tryz.ntmps197
  go_wp2
  go_ret
  exact ⟨rfl, rfl⟩

theorem isNum_lt {d : Nat} {s : Bool} {v : Nat} {x : Nat} (h : floatToFloatBits .f32 x .f64 = some d) (hx : x < 2 ^ 32) : d < 18446744073709551616 := by
  have := floatToFloatBits_wf (src := .f32) (dst := .f64) (wf_of_lt .f32 x hx) h
  simpa [Lit.wf] using this

set_option maxHeartbeats 800000 in
/-- A number that is below 2^1023 is not infinite. -/
theorem isInf_any (d : Nat) (s : Bool) (v : Nat) (h : IsNum Ieee.double d s v) (hd : d < 18446744073709551616) (hv : v ≤ (2 ^ 53 - 1) * 2 ^ 2045) (w : World) :
    Calls Tryz.prog 195 #[.float .f64 d, .int .i64 0] w fun e w' => e = .returned (.bool false) ∧ w = w' := by
  have h1 : (FloatKind.f64.format.order (d % 9223372036854775808) 9218868437227405311 == some .gt) = false := h.abs64.gt_false max64 (sgn_le' hv)
  clear hv h
  go_enter Tryz.func195, Tryz.ntmps195
  go_wp2_with (go_at_call 197; refine (abs_any d hd _).mono ?_; rintro e w' ⟨rfl, rfl⟩)
  go_ret
  exact ⟨rfl, rfl⟩

theorem run_trunc {d : Nat} {s : Bool} {k t : Nat} (h1 : (FloatKind.f64.decode d).integral .zero = .number s k 0) (h2 : FloatKind.f64.encode (.number s k 0) = t) :
    ∀ w : World, (callFunc 226 #[.float .f64 d]).run Tryz.prog w = .ok (.value (.float .f64 t)) w := fun w => by
  rw [run_callFunc_extern Tryz.func226 (by kernel_rfl) (by kernel_rfl) (by kernel_rfl) (e := Extern.MathFloor.toIntegral "math.archTrunc" .zero) (by kernel_rfl)]
  have key : ∀ D : Ieee.Datum, FloatKind.f64.decode d = D → D.integral .zero = .number s k 0 → (Extern.MathFloor.toIntegral "math.archTrunc" .zero #[.float .f64 d]).run Tryz.prog w = .ok (.float .f64 t) w := by
    intro D hD hI
    show Sem.run Tryz.prog (Extern.MathFloor.toIntegral.match_1 (fun _ => Sem Value) (FloatKind.f64.decode d) _ _) w = _
    rw [hD]
    cases D with
    | nan a b => cases hI
    | infinity a => cases hI
    | number a b c => rw [← h2, ← hI]; rfl
  rw [key _ rfl h1]; rfl

set_option maxHeartbeats 400000 in
theorem trunc_any (d t : Nat) (ht : ∀ w : World, (callFunc 226 #[.float .f64 d]).run Tryz.prog w = .ok (.value (.float .f64 t)) w) (w : World) :
    Calls Tryz.prog 196 #[.float .f64 d] w fun e w' => e = .returned (.float .f64 t) ∧ w = w' := by
  go_enter Tryz.func196, Tryz.ntmps196
  go_wp2
  go_ret
  exact ⟨rfl, rfl⟩

theorem floatBits_lt {op : BinOp} {x y r : Nat} (h : floatBits op .f64 x y = some r) : r < 18446744073709551616 := by
  simpa [Lit.wf] using floatBits_wf h

set_option maxHeartbeats 1000000 in
theorem isFinite_any (x : Nat) (k : Int) (hx : x < 2 ^ 32) (hs : Smp x k) (hk : k.natAbs < 2 ^ 40) (w : World) :
    Calls Tryz.prog 117 #[.float .f32 x] w fun e w' => e = .returned (.bool true) ∧ w = w' := by
  obtain ⟨s, h, _, _⟩ := hs
  obtain ⟨d, h1, h2⟩ := toF64 (40 + 145) h (pow_split hk) (by omega)
  have hd := isNum_lt (s := s) (v := 0) h1 hx
  have hv : k.natAbs * 2 ^ 145 * 2 ^ 925 ≤ (2 ^ 53 - 1) * 2 ^ 2045 := by
    generalize hu : (925 : Nat) = u
    exact max64_ge (pow_split (pow_split hk)) (by omega)
  have c1 := run_to64 h1
  have K1 := Lib.hid (isNaN_any d s _ h2)
  have K2 := Lib.hid (isInf_any d s _ h2 hd hv)
  clear h h1 h2 hd hv hx hk
  go_enter Tryz.func117, Tryz.ntmps117
  go_wp2_with (first | (go_at_call 194; refine (K1.out _).mono ?_; rintro e w' ⟨rfl, rfl⟩) | (go_at_call 195; refine (K2.out _).mono ?_; rintro e w' ⟨rfl, rfl⟩))
  go_ret
  exact ⟨rfl, rfl⟩

set_option maxHeartbeats 1000000 in
/-- Whether a sample's word is a multiple of 1/16 up to 1024: here one that is. -/
theorem isMultiple_any (x : Nat) (k : Int) (hs : Smp x k) (hk : k.natAbs ≤ 16384) (w : World) :
    Calls Tryz.prog 118 #[.float .f32 x, .float .f64 4652218415073722368] w fun e w' => e = .returned (.bool true) ∧ w = w' := by
  obtain ⟨s, h, _, _⟩ := hs
  have hk40 : k.natAbs < 2 ^ 40 := Nat.lt_of_le_of_lt hk (by decide)
  obtain ⟨d, h1, h2⟩ := toF64 (40 + 145) h (pow_split hk40) (by omega)
  obtain ⟨n, n1, n2⟩ := mul16_64 1110 h2 (by
    generalize hu : (925 : Nat) = u
    generalize hv : (1110 : Nat) = v
    exact Nat.lt_of_lt_of_le (pow_split (pow_split hk40)) (Nat.pow_le_pow_right (by omega) (by omega))) (by omega)
  have ev : k.natAbs * 2 ^ 145 * 2 ^ 925 * 2 ^ 4 = k.natAbs * 2 ^ 1074 := by
    generalize hu : (925 : Nat) = u
    generalize hv : (1074 : Nat) = v
    rw [mul_pow_join k.natAbs 145 u (145 + u) rfl, mul_pow_join _ _ 4 v (by omega)]
  rw [ev] at n2
  obtain ⟨t, t1, t2, t3⟩ := trunc_int n2 (Nat.lt_of_le_of_lt hk (by decide))
  have hn := floatBits_lt n1
  have c1 := run_to64 h1
  have c2 := run_mul 183 n1
  have c3 := run_trunc t1 t2
  have c4 : (FloatKind.f64.format.order n t == some .eq) = true := n2.eq_true t3
  have hm : floatBits .mul .f64 4652218415073722368 4625196817309499392 = some 4670232813583204352 := by decide +kernel
  have c5 := run_mul 183 hm
  have c6 : (FloatKind.f64.format.order (n % 9223372036854775808) 4670232813583204352 == some .lt || FloatKind.f64.format.order (n % 9223372036854775808) 4670232813583204352 == some .eq) = true :=
    le_max16384 n2 hk
  have K1 := Lib.hid (trunc_any n t c3)
  have K2 := Lib.hid (abs_any n hn)
  clear h h1 h2 n1 n2 t1 t2 t3 ev hm hn c3 hk hk40
  go_enter Tryz.func118, Tryz.ntmps118
  go_wp2_with (first | (go_at_call 196; refine (K1.out _).mono ?_; rintro e w' ⟨rfl, rfl⟩) | (go_at_call 197; refine (K2.out _).mono ?_; rintro e w' ⟨rfl, rfl⟩))
  go_ret
  exact ⟨rfl, rfl⟩

set_option maxHeartbeats 400000 in
theorem checkSample_any (x : Nat) (k : Int) (hx : x < 2 ^ 32) (hs : Smp x k) (hk : k.natAbs ≤ 16384) (w : World) :
    Calls Tryz.prog 30 #[.float .f32 x] w fun e w' => e = .returned (.int .i64 0) ∧ w = w' := by
  have K1 := Lib.hid (isFinite_any x k hx hs (Nat.lt_of_le_of_lt hk (by decide)))
  have K2 := Lib.hid (isMultiple_any x k hs hk)
  clear hx hs hk
  go_enter Tryz.func30, Tryz.ntmps30
  go_wp2_with (first | (go_at_call 117; refine (K1.out _).mono ?_; rintro e w' ⟨rfl, rfl⟩) | (go_at_call 118; refine (K2.out _).mono ?_; rintro e w' ⟨rfl, rfl⟩))
  go_ret
  exact ⟨rfl, rfl⟩
end Go.Proofs.YtfdkmmllemkogaaGreatDoor

/-
  Contracts of the loops that look for the first error: over a slice of integers that is known cell by cell; and what it means that a slice's cells are known.
-/
namespace Go.Proofs.YtfdkmmllemkogaaGreatDoor
open Go.RowKit
set_option linter.unusedVariables false

/-- The first number of a list that is not 0, or 0. -/
def firstNZ : List Int → Int
  | [] => 0
  | x :: r => if x ≠ 0 then x else firstNZ r

theorem firstNZ_zeros {l : List Int} (h : ∀ x ∈ l, x = 0) : firstNZ l = 0 := by
  induction l with
  | nil => rfl
  | cons x r ih => rw [firstNZ, if_neg (by have := h x (by simp); omega)]; exact ih fun y hy => h y (by simp [hy])
theorem firstNZ_at {l : List Int} {k : Nat} (hk : k < l.length) (h0 : ∀ j, j < k → l.getD j 0 = 0) (h1 : l.getD k 0 ≠ 0) : firstNZ l = l.getD k 0 := by
  induction l generalizing k with
  | nil => simp at hk
  | cons x r ih =>
    cases k with
    | zero => simp at h1 ⊢; rw [firstNZ, if_pos h1]
    | succ k =>
      have hx : x = 0 := by simpa using h0 0 (by omega)
      rw [firstNZ, if_neg (by omega)]
      simp only [List.getD_cons_succ] at h1 ⊢
      exact ih (by simpa using hk) (fun j hj => by simpa using h0 (j + 1) (by omega)) h1
theorem firstNZ_end {l : List Int} (h : ∀ j, j < l.length → l.getD j 0 = 0) : firstNZ l = 0 := by
  refine firstNZ_zeros fun x hx => ?_
  obtain ⟨i, hi, rfl⟩ := List.getElem_of_mem hx
  have := h i hi
  simpa [List.getD_eq_getElem?_getD, hi] using this

set_option maxHeartbeats 1000000 in
theorem refFirst_any (b o n c : Nat) (zs : List Int) (hz : zs.length = n) (hm : n ≤ 4611686018427387904) (w : World)
    (hc : ∀ j, j < n → w.cell? ⟨b, o + j, none⟩ = some (.int .i64 (zs[j]?.getD 0))) :
    Calls Tryz.prog 111 #[.slice (some ⟨b, o, none⟩) n c] w fun e w' => e = .returned (.int .i64 (firstNZ zs)) ∧ w = w' := by
  have Hz := Lib.hid hz
  have Hc := Lib.hid hc
  clear hz hc
  go_enter Tryz.func111, Tryz.ntmps111
  go_wp2
  go_loop [3] (fun i => ∃ k : Nat, k ≤ n ∧ i = .int .i64 k ∧ Hid (∀ j, j < k → zs.getD j 0 = 0)) (fun i => n - (intOf i).toNat)
  case atStart => exact ⟨0, Nat.zero_le _, rfl, fun j hj => absurd hj (by omega)⟩
  case round =>
    obtain ⟨k, hk, rfl, hh⟩ := hrel
    by_cases hlt : k < n
    · have hcell := Hc.out k hlt
      by_cases h0 : zs[k]?.getD 0 = 0
      · have e0 : (zs[k]?.getD 0 != 0) = false := by simp [h0]
        have H0 := Lib.hid h0
        clear h0
        go_wp2
        go_round
        case rel => exact ⟨k + 1, by omega, by go_num, fun j hj => by
          by_cases hjk : j < k
          · exact hh.out j hjk
          · obtain rfl : j = k := by omega
            rw [List.getD_eq_getElem?_getD]; exact H0.out⟩
        case measure => simp [intOf]; omega
      · have e0 : (zs[k]?.getD 0 != 0) = true := by simp [h0]
        have H0 := Lib.hid h0
        clear h0
        go_wp2
        go_ret
        exact ⟨ret_int (by rw [firstNZ_at (by rw [Hz.out]; exact hlt) hh.out (by rw [List.getD_eq_getElem?_getD]; exact H0.out), List.getD_eq_getElem?_getD]), rfl⟩
    · go_wp2
      go_ret
      exact ⟨ret_int (firstNZ_end fun j hj => hh.out j (by have := Hz.out; omega)).symm, rfl⟩
set_option maxHeartbeats 1000000 in
theorem first_any (b o n c : Nat) (zs : List Int) (hz : zs.length = n) (hm : n ≤ 4611686018427387904) (w : World)
    (hc : ∀ j, j < n → w.cell? ⟨b, o + j, none⟩ = some (.int .i64 (zs[j]?.getD 0))) :
    Calls Tryz.prog 109 #[.slice (some ⟨b, o, none⟩) n c] w fun e w' => e = .returned (.int .i64 (firstNZ zs)) ∧ w = w' := by
  have Hz := Lib.hid hz
  have Hc := Lib.hid hc
  clear hz hc
  go_enter Tryz.func109, Tryz.ntmps109
  go_wp2
  go_loop [7] (fun i => ∃ k : Nat, k ≤ n ∧ i = .int .i64 k ∧ Hid (∀ j, j < k → zs.getD j 0 = 0)) (fun i => n - (intOf i).toNat)
  case atStart => exact ⟨0, Nat.zero_le _, rfl, fun j hj => absurd hj (by omega)⟩
  case round =>
    obtain ⟨k, hk, rfl, hh⟩ := hrel
    by_cases hlt : k < n
    · have hcell := Hc.out k hlt
      by_cases h0 : zs[k]?.getD 0 = 0
      · have e0 : (zs[k]?.getD 0 != 0) = false := by simp [h0]
        have H0 := Lib.hid h0
        clear h0
        go_wp2
        go_round
        case rel => exact ⟨k + 1, by omega, by go_num, fun j hj => by
          by_cases hjk : j < k
          · exact hh.out j hjk
          · obtain rfl : j = k := by omega
            rw [List.getD_eq_getElem?_getD]; exact H0.out⟩
        case measure => simp [intOf]; omega
      · have e0 : (zs[k]?.getD 0 != 0) = true := by simp [h0]
        have H0 := Lib.hid h0
        clear h0
        go_wp2
        go_ret
        exact ⟨ret_int (by rw [firstNZ_at (by rw [Hz.out]; exact hlt) hh.out (by rw [List.getD_eq_getElem?_getD]; exact H0.out), List.getD_eq_getElem?_getD]), rfl⟩
    · go_wp2
      go_ret
      exact ⟨ret_int (firstNZ_end fun j hj => hh.out j (by have := Hz.out; omega)).symm, rfl⟩

theorem first_zeros (b o n c : Nat) (hm : n ≤ 4611686018427387904) (w : World) (hc : ∀ j, j < n → w.cell? ⟨b, o + j, none⟩ = some (.int .i64 0)) :
    Calls Tryz.prog 109 #[.slice (some ⟨b, o, none⟩) n c] w fun e w' => e = .returned (.int .i64 0) ∧ w = w' := by
  have h := first_any b o n c (List.replicate n 0) (by simp) hm w (fun j hj => by rw [hc j hj]; simp [hj])
  rwa [firstNZ_zeros (fun x hx => (List.mem_replicate.1 hx).2)] at h

/-- The cells of a row that the call owns. -/
theorem owns_cell {w : World} {B T n c g : Nat} {vs : List Value} (h : w.ownsRow B T 1 (.slice (some ⟨g, 0, none⟩) n c) n vs) {j : Nat} {v : Value} (hj : vs[j]? = some v) : w.cell? ⟨g, j, none⟩ = some v := by
  have hadd : (⟨g, 0, none⟩ : Addr).add j = ⟨g, j, none⟩ := by unfold Addr.add; split <;> simp_all
  rw [← hadd]; exact h.cells (g := g) rfl j v hj
end Go.Proofs.YtfdkmmllemkogaaGreatDoor

/-
  Contracts of the instances of the program's generic function 'mapped': the new slice's cells are what the given function makes of each cell.
  Condition: at most 4096 elements, each of which the given function takes.
-/
namespace Go.Proofs.YtfdkmmllemkogaaGreatDoor
open Go.RowKit
set_option linter.unusedVariables false

theorem take_map_succ {α : Type} [Inhabited α] (f : α → Value) (l : List α) (k : Nat) (hk : k < l.length) (d : α) : (l.take (k + 1)).map f = (l.take k).map f ++ [f (l[k]?.getD d)] := by
  rw [List.take_succ_eq_append_getElem hk, List.map_append, List.getElem?_eq_getElem hk]; rfl

theorem Tryz.info3_int : (Tryz.prog.info? 3).map (fun i => (i.zero, i.size, i.bytes)) = some (some (.int .i64 0), 1, 8) := by kernel_rfl

set_option maxHeartbeats 2000000 in
set_option maxRecDepth 100000 in
theorem mapped_int {w : World} (b o n c : Nat) (xs : List Nat) (ks : List Int) (hx : xs.length = n) (hk : ks.length = n) (hn : n ≤ 4096) (hb : b < w.heap.size)
    (hc : ∀ j, j < n → w.cell? ⟨b, o + j, none⟩ = some (.float .f32 (xs[j]?.getD 0))) (hs : ∀ j, j < n → Smp (xs[j]?.getD 0) (ks[j]?.getD 0) ∧ (ks[j]?.getD 0).natAbs < 2 ^ 40) :
    Calls Tryz.prog 199 #[.slice (some ⟨b, o, none⟩) n c, .func (.func 200) #[] #[]] w fun e w' =>
      e = .returned (.slice (some ⟨w.heap.size, 0, none⟩) n n) ∧ w'.ownsRow w.heap.size 3 1 (.slice (some ⟨w.heap.size, 0, none⟩) n n) n (ks.map (Value.int .i64)) ∧ Below w.heap.size w w' := by
  obtain ⟨i0, hi, hz0, hz1, hz2⟩ := info_parts Tryz.info3_int
  have Hx := Lib.hid hx
  have Hk := Lib.hid hk
  have Hc := Lib.hid hc
  have Hs := Lib.hid hs
  clear hx hk hc hs
  go_enter Tryz.func199, Tryz.ntmps199
  go_wp2_with (at_make; refine wpList_make_own _ rfl _ _ 25 rfl w.heap.size 3 i0 (.int .i64 0) 1 Tryz.underlying25 hi hz0 hz1 _ _ _ n rfl rfl (by omega) ?b2 ?b3 (Nat.le_refl _) ?_)
  case b2 => rw [hz2]; omega
  case b3 => unfold maxLen; omega
  intro w0 hown0 hgrow0
  go_wp2
  go_loopw [5, 13] (fun out i wr => ∃ k : Nat, k ≤ n ∧ i = .int .i64 k ∧ out = .slice (some ⟨w.heap.size, 0, none⟩) k n ∧
      wr.ownsRow w.heap.size 3 1 (.slice (some ⟨w.heap.size, 0, none⟩) k n) k ((ks.take k).map (Value.int .i64)) ∧ Below w.heap.size w wr)
    (fun _ i _ => n - (intOf i).toNat)
  case atStart => exact ⟨0, Nat.zero_le _, rfl, rfl, hown0, (Below.refl _ _).grown hgrow0 (Nat.le_refl _) (fun k h => by cases h)⟩
  case round =>
    obtain ⟨k, hk, rfl, rfl, hown, hnx⟩ := hrel
    by_cases hlt : k < n
    · have hcell : wr.cell? ⟨b, o + k, none⟩ = some (.float .f32 (xs[k]?.getD 0)) := (hnx.cell (by exact hb)).trans (Hc.out k hlt)
      have K := Lib.hid (Hs.out k hlt)
      have hsz := hnx.size
      go_wp2_with (first
        | (go_at_call 200; refine (integer_any _ _ K.out.1 K.out.2 _).mono ?_; rintro e w' ⟨rfl, rfl⟩)
        | (at_builtin; refine wpList_append_fits _ rfl (.tmp 17) (.tmp 21) 25 rfl w.heap.size 3 i0 1 Tryz.underlying25 hi hz1 w.heap.size k n _ rfl (hown.alloc _) ⟨wr.heap.size, 0, none⟩ 1 1 [.int .i64 (ks[k]?.getD 0)] rfl rfl (cell_one_new _ _ _) (by intro u hu; simp at hu; subst hu; rfl) (by omega) ?_; intro w1 hown1 hgrow1))
      go_roundw
      case rel => exact ⟨k + 1, by omega, by go_num, rfl, by rw [take_map_succ (Value.int .i64) ks k (by have := Hk.out; omega) 0]; exact hown1, (hnx.alloc hnx.size _).grown hgrow1 (by simp; omega) (fun j hj => by cases hj; exact Nat.le_refl _)⟩
      case measure => simp [intOf]; omega
    · go_wp2
      go_ret
      obtain rfl : k = n := by omega
      rw [List.take_of_length_le (by have := Hk.out; omega)] at hown
      exact ⟨rfl, hown, hnx⟩

theorem Tryz.info23_sample : (Tryz.prog.info? 23).map (fun i => (i.zero, i.size, i.bytes)) = some (some (.float .f32 0), 1, 4) := by kernel_rfl

set_option maxHeartbeats 2000000 in
set_option maxRecDepth 100000 in
theorem mapped_sample {w : World} (b o n c : Nat) (xs : List Int) (ks : List Int) (hx : xs.length = n) (hk : ks.length = n) (hn : n ≤ 4096) (hb : b < w.heap.size)
    (hc : ∀ j, j < n → w.cell? ⟨b, o + j, none⟩ = some (.int .i64 (xs[j]?.getD 0))) (hs : ∀ j, j < n → xs[j]?.getD 0 = ks[j]?.getD 0 ∧ (ks[j]?.getD 0).natAbs < 2 ^ 24) :
    Calls Tryz.prog 203 #[.slice (some ⟨b, o, none⟩) n c, .func (.func 125) #[] #[]] w fun e w' =>
      e = .returned (.slice (some ⟨w.heap.size, 0, none⟩) n n) ∧ w'.ownsRow w.heap.size 23 1 (.slice (some ⟨w.heap.size, 0, none⟩) n n) n (ks.map (fun n : Int => Value.float .f32 (smpOf n))) ∧ Below w.heap.size w w' := by
  obtain ⟨i0, hi, hz0, hz1, hz2⟩ := info_parts Tryz.info23_sample
  have Hx := Lib.hid hx
  have Hk := Lib.hid hk
  have Hc := Lib.hid hc
  have Hs := Lib.hid hs
  clear hx hk hc hs
  go_enter Tryz.func203, Tryz.ntmps203
  go_wp2_with (at_make; refine wpList_make_own _ rfl _ _ 46 rfl w.heap.size 23 i0 (.float .f32 0) 1 Tryz.underlying46 hi hz0 hz1 _ _ _ n rfl rfl (by omega) ?b2 ?b3 (Nat.le_refl _) ?_)
  case b2 => rw [hz2]; omega
  case b3 => unfold maxLen; omega
  intro w0 hown0 hgrow0
  go_wp2
  go_loopw [5, 13] (fun out i wr => ∃ k : Nat, k ≤ n ∧ i = .int .i64 k ∧ out = .slice (some ⟨w.heap.size, 0, none⟩) k n ∧
      wr.ownsRow w.heap.size 23 1 (.slice (some ⟨w.heap.size, 0, none⟩) k n) k ((ks.take k).map (fun n : Int => Value.float .f32 (smpOf n))) ∧ Below w.heap.size w wr)
    (fun _ i _ => n - (intOf i).toNat)
  case atStart => exact ⟨0, Nat.zero_le _, rfl, rfl, hown0, (Below.refl _ _).grown hgrow0 (Nat.le_refl _) (fun k h => by cases h)⟩
  case round =>
    obtain ⟨k, hk, rfl, rfl, hown, hnx⟩ := hrel
    by_cases hlt : k < n
    · have hcell : wr.cell? ⟨b, o + k, none⟩ = some (.int .i64 (xs[k]?.getD 0)) := (hnx.cell (by exact hb)).trans (Hc.out k hlt)
      have K := Lib.hid (Hs.out k hlt)
      have hsz := hnx.size
      go_wp2_with (first
        | (go_at_call 125; refine (show Calls _ _ _ _ _ from by rw [K.out.1]; exact sample_any _ K.out.2 _).mono ?_; rintro e w' ⟨rfl, rfl⟩)
        | (at_builtin; refine wpList_append_fits _ rfl (.tmp 17) (.tmp 21) 46 rfl w.heap.size 23 i0 1 Tryz.underlying46 hi hz1 w.heap.size k n _ rfl (hown.alloc _) ⟨wr.heap.size, 0, none⟩ 1 1 [.float .f32 (smpOf (ks[k]?.getD 0))] rfl rfl (cell_one_new _ _ _) (by intro u hu; simp at hu; subst hu; rfl) (by omega) ?_; intro w1 hown1 hgrow1))
      go_roundw
      case rel => exact ⟨k + 1, by omega, by go_num, rfl, by rw [take_map_succ (fun n : Int => Value.float .f32 (smpOf n)) ks k (by have := Hk.out; omega) 0]; exact hown1, (hnx.alloc hnx.size _).grown hgrow1 (by simp; omega) (fun j hj => by cases hj; exact Nat.le_refl _)⟩
      case measure => simp [intOf]; omega
    · go_wp2
      go_ret
      obtain rfl : k = n := by omega
      rw [List.take_of_length_le (by have := Hk.out; omega)] at hown
      exact ⟨rfl, hown, hnx⟩

theorem Tryz.info26_check : (Tryz.prog.info? 26).map (fun i => (i.zero, i.size, i.bytes)) = some (some (.int .i64 0), 1, 8) := by kernel_rfl

set_option maxHeartbeats 2000000 in
set_option maxRecDepth 100000 in
theorem mapped_check {w : World} (b o n c : Nat) (xs : List Nat) (ks : List Int) (hx : xs.length = n) (hk : ks.length = n) (hn : n ≤ 4096) (hb : b < w.heap.size)
    (hc : ∀ j, j < n → w.cell? ⟨b, o + j, none⟩ = some (.float .f32 (xs[j]?.getD 0))) (hs : ∀ j, j < n → xs[j]?.getD 0 < 2 ^ 32 ∧ Smp (xs[j]?.getD 0) (ks[j]?.getD 0) ∧ (ks[j]?.getD 0).natAbs ≤ 16384) :
    Calls Tryz.prog 130 #[.slice (some ⟨b, o, none⟩) n c, .func (.func 30) #[] #[]] w fun e w' =>
      e = .returned (.slice (some ⟨w.heap.size, 0, none⟩) n n) ∧ w'.ownsRow w.heap.size 26 1 (.slice (some ⟨w.heap.size, 0, none⟩) n n) n (ks.map (fun _ : Int => Value.int .i64 0)) ∧ Below w.heap.size w w' := by
  obtain ⟨i0, hi, hz0, hz1, hz2⟩ := info_parts Tryz.info26_check
  have Hx := Lib.hid hx
  have Hk := Lib.hid hk
  have Hc := Lib.hid hc
  have Hs := Lib.hid hs
  clear hx hk hc hs
  go_enter Tryz.func130, Tryz.ntmps130
  go_wp2_with (at_make; refine wpList_make_own _ rfl _ _ 196 rfl w.heap.size 26 i0 (.int .i64 0) 1 Tryz.underlying196 hi hz0 hz1 _ _ _ n rfl rfl (by omega) ?b2 ?b3 (Nat.le_refl _) ?_)
  case b2 => rw [hz2]; omega
  case b3 => unfold maxLen; omega
  intro w0 hown0 hgrow0
  go_wp2
  go_loopw [5, 13] (fun out i wr => ∃ k : Nat, k ≤ n ∧ i = .int .i64 k ∧ out = .slice (some ⟨w.heap.size, 0, none⟩) k n ∧
      wr.ownsRow w.heap.size 26 1 (.slice (some ⟨w.heap.size, 0, none⟩) k n) k ((ks.take k).map (fun _ : Int => Value.int .i64 0)) ∧ Below w.heap.size w wr)
    (fun _ i _ => n - (intOf i).toNat)
  case atStart => exact ⟨0, Nat.zero_le _, rfl, rfl, hown0, (Below.refl _ _).grown hgrow0 (Nat.le_refl _) (fun k h => by cases h)⟩
  case round =>
    obtain ⟨k, hk, rfl, rfl, hown, hnx⟩ := hrel
    by_cases hlt : k < n
    · have hcell : wr.cell? ⟨b, o + k, none⟩ = some (.float .f32 (xs[k]?.getD 0)) := (hnx.cell (by exact hb)).trans (Hc.out k hlt)
      have K := Lib.hid (Hs.out k hlt)
      have hsz := hnx.size
      go_wp2_with (first
        | (go_at_call 30; refine (checkSample_any _ _ K.out.1 K.out.2.1 K.out.2.2 _).mono ?_; rintro e w' ⟨rfl, rfl⟩)
        | (at_builtin; refine wpList_append_fits _ rfl (.tmp 17) (.tmp 21) 196 rfl w.heap.size 26 i0 1 Tryz.underlying196 hi hz1 w.heap.size k n _ rfl (hown.alloc _) ⟨wr.heap.size, 0, none⟩ 1 1 [.int .i64 0] rfl rfl (cell_one_new _ _ _) (by intro u hu; simp at hu; subst hu; rfl) (by omega) ?_; intro w1 hown1 hgrow1))
      go_roundw
      case rel => exact ⟨k + 1, by omega, by go_num, rfl, by rw [take_map_succ (fun _ : Int => Value.int .i64 0) ks k (by have := Hk.out; omega) 0]; exact hown1, (hnx.alloc hnx.size _).grown hgrow1 (by simp; omega) (fun j hj => by cases hj; exact Nat.le_refl _)⟩
      case measure => simp [intOf]; omega
    · go_wp2
      go_ret
      obtain rfl : k = n := by omega
      rw [List.take_of_length_le (by have := Hk.out; omega)] at hown
      exact ⟨rfl, hown, hnx⟩
end Go.Proofs.YtfdkmmllemkogaaGreatDoor

/-
  Contracts of the program's functions on places of a grid: index, at, has; of gridOf. Sizes and places are from 0 to 2^20.
-/
namespace Go.Proofs.YtfdkmmllemkogaaGreatDoor
open Go.RowKit
set_option linter.unusedVariables false

set_option maxHeartbeats 800000 in
theorem index_any (W H X Y : Int) (a : Option Addr) (n c : Nat) (h0 : 0 ≤ W ∧ W ≤ 1048576) (hx : 0 ≤ X ∧ X ≤ 1048576) (hy : 0 ≤ Y ∧ Y ≤ 1048576) (hp : 0 ≤ Y * W ∧ Y * W ≤ 1099511627776) (w : World) :
    Calls Tryz.prog 151 #[.agg #[.int .i64 W, .int .i64 H, .slice a n c], .agg #[.int .i64 X, .int .i64 Y]] w fun e w' => e = .returned (.int .i64 (Y * W + X)) ∧ Below w.heap.size w w' := by
  go_enter Tryz.func151, Tryz.ntmps151
  go_wp2
  go_ret
  exact ⟨rfl, (((Below.refl _ _).alloc (Nat.le_refl _) _).alloc (by simp) _)⟩

set_option maxRecDepth 100000 in
set_option maxHeartbeats 3200000 in
theorem at_any (W H X Y : Int) (g n c : Nat) (v : Int) (h0 : 0 ≤ W ∧ W ≤ 1048576) (hx : 0 ≤ X ∧ X ≤ 1048576) (hy : 0 ≤ Y ∧ Y ≤ 1048576) (hp : 0 ≤ Y * W ∧ Y * W ≤ 1099511627776) (w : World)
    (hn : Y * W + X < n) (hg : g < w.heap.size) (hc : w.cell? ⟨g, (Y * W + X).toNat, none⟩ = some (.int .i64 v)) :
    Calls Tryz.prog 126 #[.agg #[.int .i64 W, .int .i64 H, .slice (some ⟨g, 0, none⟩) n c], .agg #[.int .i64 X, .int .i64 Y]] w fun e w' => e = .returned (.int .i64 v) ∧ Below w.heap.size w w' := by
  have hi0 : 0 ≤ Y * W + X := by omega
  have hnn : Y * W + X ≤ 1099512676352 := by omega
  go_enter Tryz.func126, Tryz.ntmps126
  go_wp2_with fail
  go_region_held3 (fun w' => w'.cell? ⟨w.heap.size, 0, none⟩ = some (.int .i64 W) ∧ w'.cell? ⟨w.heap.size, 1, none⟩ = some (.int .i64 H) ∧ w'.cell? ⟨w.heap.size, 2, none⟩ = some (.slice (some ⟨g, 0, none⟩) n c) ∧
      w'.cell? ⟨w.heap.size + 1, 0, none⟩ = some (.int .i64 X) ∧ w'.cell? ⟨w.heap.size + 1, 1, none⟩ = some (.int .i64 Y) ∧ w'.cell? ⟨g, (Y * W + X).toNat, none⟩ = some (.int .i64 v))
    (first | go_keep | (go_split_ands; refine ⟨?_, ?_, ?_, ?_, ?_, ?_⟩ <;> (rw [hb.cell (by simp; try omega)]; assumption)))
    ((go_at_call 151; refine (index_any _ _ _ _ _ _ _ h0 hx hy hp _).mono ?_; rintro e w' ⟨rfl, hb⟩))
  all_goals
    go_wp2
    go_ret
    refine ⟨rfl, ?_⟩
    exact (((Below.refl _ w).alloc (Nat.le_refl _) _).alloc (by simp) _).drew.trans (hb.mono (by simp; omega))
end Go.Proofs.YtfdkmmllemkogaaGreatDoor
