/-
  Contracts of Placed's literal and of Placed for a right map and a place at which it fits.
-/
import Derived.Test.YtpmjiifdnnhecaaGreatDoorOaaXe
import Derived.Test.YtpmjiifdnnhecaaGreatDoorOaaXg
import Derived.Test.YtpmjiifdnnhecaaGreatDoorOaaZg
import Derived.Test.YtpmjiifdnnhecaaGreatDoorOaaWf
import Derived.Test.YtpmjiifdnnhecaaGreatDoorOaaWh
namespace Go.Proofs.YtpmjiifdnnhecaaGreatDoor
open Go.RowKit
set_option linter.unusedVariables false

/-- The integer at a place of the greater map. -/
def placedK (W H PX PY : Nat) (ks : List Int) (p : Nat × Nat) : Int := if PX ≤ p.1 ∧ p.1 < PX + W ∧ PY ≤ p.2 ∧ p.2 < PY + H then ks[(p.2 - PY) * W + (p.1 - PX)]?.getD 0 else 0

set_option maxRecDepth 100000 in
set_option maxHeartbeats 3200000 in
theorem placedlit_any (W H X Y PX PY : Nat) (g n c g7 g8 : Nat) (ks : List Int) (hW : W ≤ 64) (hH : H ≤ 64) (hX : X ≤ 64) (hY : Y ≤ 64) (hPX : PX ≤ 64) (hPY : PY ≤ 64) (w : World) (hN : W * H = n) (hnn : n ≤ 4096)
    (g7l : g7 < w.heap.size) (g8l : g8 < w.heap.size) (hR : RowAt w g n ks) (hA : GridAt w g8 W H g n c) (h0 : w.cell? ⟨g7, 0, none⟩ = some (.int .i64 PX)) (h1 : w.cell? ⟨g7, 1, none⟩ = some (.int .i64 PY)) :
    Calls Tryz.prog 139 #[.agg #[.int .i64 X, .int .i64 Y], .pointer (some ⟨g7, 0, none⟩), .pointer (some ⟨g8, 0, none⟩)] w fun e w' => e = .returned (.int .i64 (placedK W H PX PY ks (X, Y))) ∧ Below w.heap.size w w' := by
  obtain ⟨a0, a1, a2⟩ := hA
  have h0' := (((Below.refl _ w).alloc (Nat.le_refl w.heap.size) (.cells #[.int .i64 X, .int .i64 Y] 124)).cell (p := ⟨g7, 0, none⟩) g7l).trans h0
  have h1' := (((Below.refl _ w).alloc (Nat.le_refl w.heap.size) (.cells #[.int .i64 X, .int .i64 Y] 124)).cell (p := ⟨g7, 1, none⟩) g7l).trans h1
  have KM := Lib.hid (fun w1 => minus_any X Y PX PY (by unfold Far; omega) (by unfold Far; omega) (by unfold Far; omega) (by unfold Far; omega) w1)
  obtain ⟨pv, hpv⟩ : ∃ pv, placedK W H PX PY ks (X, Y) = pv := ⟨_, rfl⟩
  rw [hpv]
  go_enter Tryz.func139, Tryz.ntmps139
  go_upto_region 2 with (go_at_call 140; refine (KM.out _).mono ?_; rintro e wm ⟨rfl, hbm⟩)
  have hsm : w.heap.size + 1 ≤ wm.heap.size := by have := hbm.size; simpa using this
  have hBm : Below w.heap.size w wm := ((Below.refl _ w).alloc (Nat.le_refl _) _).trans (hbm.mono (by simp))
  obtain ⟨W2, hW2⟩ : ∃ W2, wm.alloc (.cells #[.int .i64 ((X : Int) - (PX : Int)), .int .i64 ((Y : Int) - (PY : Int))] 124) = W2 := ⟨_, rfl⟩
  have hB2 : Below w.heap.size w W2 := by rw [← hW2]; exact hBm.alloc (by omega) _
  have hS2 : W2.heap.size = wm.heap.size + 1 := by rw [← hW2]; simp
  have q0 : W2.cell? ⟨wm.heap.size, 0, none⟩ = some (.int .i64 ((X : Int) - (PX : Int))) := by rw [← hW2]; simp [go_sem]
  have q1 : W2.cell? ⟨wm.heap.size, 1, none⟩ = some (.int .i64 ((Y : Int) - (PY : Int))) := by rw [← hW2]; simp [go_sem]
  rw [hW2]
  clear hW2 h0' h1' hbm hBm h0 h1
  have b0 := (hB2.cell (p := ⟨g8, 0, none⟩) g8l).trans a0
  have b1 := (hB2.cell (p := ⟨g8, 1, none⟩) g8l).trans a1
  have b2 := (hB2.cell (p := ⟨g8, 2, none⟩) g8l).trans a2
  have hR2 := hR.below hB2 hR.lt
  by_cases hin : PX ≤ X ∧ X < PX + W ∧ PY ≤ Y ∧ Y < PY + H
  · have hb : insideB W H ((X : Int) - (PX : Int), (Y : Int) - (PY : Int)) = true := by simp [insideB]; omega
    have hv : placedK W H PX PY ks (X, Y) = ks[(Y - PY) * W + (X - PX)]?.getD 0 := by unfold placedK; rw [if_pos hin]
    obtain rfl := hpv.symm.trans hv
    have hlt : (Y - PY) * W + (X - PX) < n := idx_lt (p := (X - PX, Y - PY)) (by show X - PX < W; omega) (by show Y - PY < H; omega) hN
    have eX : (X : Int) - (PX : Int) = ((X - PX : Nat) : Int) := by omega
    have eY : (Y : Int) - (PY : Int) = ((Y - PY : Nat) : Int) := by omega
    have m1 : (Y - PY) * W ≤ 64 * 64 := Nat.mul_le_mul (by omega) hW
    have e2 : ((Y : Int) - (PY : Int)) * (W : Int) = (((Y - PY) * W : Nat) : Int) := by rw [eY]; push_cast; rfl
    have e1 : (((Y : Int) - (PY : Int)) * (W : Int) + ((X : Int) - (PX : Int))).toNat = (Y - PY) * W + (X - PX) := by rw [e2]; omega
    have K : Hid (∀ w1 : World, Below W2.heap.size W2 w1 → Calls Tryz.prog 142 #[.agg #[.int .i64 W, .int .i64 H, .slice (some ⟨g, 0, none⟩) n c], .agg #[.int .i64 ((X : Int) - (PX : Int)), .int .i64 ((Y : Int) - (PY : Int))]] w1 fun e w' => e = .returned (.int .i64 (ks[(Y - PY) * W + (X - PX)]?.getD 0)) ∧ Below w1.heap.size w1 w') := Lib.hid fun w1 h => by
      have hs := h.size
      have hr := hR2.below h hR2.lt
      exact at_any W H ((X : Int) - (PX : Int)) ((Y : Int) - (PY : Int)) g n c _ (by omega) (by omega) (by omega) (by rw [e2]; omega) w1 (by rw [e2]; omega) hr.lt (by rw [e1]; exact hr.cells _ hlt)
    have HB2 := Lib.hid hB2
    have HBI := Lib.hid hb
    clear hR hR2 eX eY e1 e2 hlt hv hpv hb m1 hB2 hin hN hnn
    go_wp2_with (first
      | ((go_at_call 141; refine (has_any W H ((X : Int) - (PX : Int)) ((Y : Int) - (PY : Int)) _ _ _ W2).mono ?_; rw [HBI.out]; rintro e w3 ⟨rfl, hb3⟩
          have hs3 := hb3.size
          have b0' := (hb3.cell (p := ⟨g8, 0, none⟩) (by show g8 < _; omega)).trans b0
          have b1' := (hb3.cell (p := ⟨g8, 1, none⟩) (by show g8 < _; omega)).trans b1
          have b2' := (hb3.cell (p := ⟨g8, 2, none⟩) (by show g8 < _; omega)).trans b2
          have q0' := (hb3.cell (p := ⟨wm.heap.size, 0, none⟩) (by show wm.heap.size < _; omega)).trans q0
          have q1' := (hb3.cell (p := ⟨wm.heap.size, 1, none⟩) (by show wm.heap.size < _; omega)).trans q1
          have K2 := Lib.hid (K.out w3 hb3)
          have HB3 := Lib.hid hb3
          clear b0 b1 b2 q0 q1 hb3))
      | ((go_at_call 142; refine K2.out.mono ?_; rintro e w4 ⟨rfl, hb4⟩)))
    go_ret
    exact ⟨rfl, HB2.out.trans ((HB3.out.trans (hb4.mono hs3)).mono (by omega))⟩
  · have hb : insideB W H ((X : Int) - (PX : Int), (Y : Int) - (PY : Int)) = false := by simp [insideB]; omega
    have hv : placedK W H PX PY ks (X, Y) = 0 := by unfold placedK; rw [if_neg hin]
    obtain rfl := hpv.symm.trans hv
    have HB2 := Lib.hid hB2
    have HBI := Lib.hid hb
    clear hR hR2 hv hpv hb hB2 hin hN hnn
    go_wp2_with (
      ((go_at_call 141; refine (has_any W H ((X : Int) - (PX : Int)) ((Y : Int) - (PY : Int)) _ _ _ W2).mono ?_; rw [HBI.out]; rintro e w3 ⟨rfl, hb3⟩)))
    go_ret
    exact ⟨rfl, HB2.out.trans (hb3.mono (by omega))⟩
end Go.Proofs.YtpmjiifdnnhecaaGreatDoor

/-
  Plain facts on any word of float32: the error that a sample's check answers for it (smpErr), and what the steps of the program's check make of the number that it stands for.
-/

namespace Go.Proofs.YtpmjiifdnnhecaaGreatDoor
open Ieee

/-- The error of a word as a sample: 1 for what is no number, 3 for no multiple of 1/16 up to 1024, otherwise 0. -/
def smpErr (x : Nat) : Int :=
  match single.read x with
  | .number _ m e => if m * 2 ^ (e - single.leastPlace).toNat ≤ 1024 * 2 ^ 149 ∧ m * 2 ^ (e - single.leastPlace).toNat % 2 ^ 145 = 0 then 0 else 3
  | _ => 1

theorem smpErr_num {x : Nat} {s : Bool} {v : Nat} (h : IsNum single x s v) : smpErr x = if v ≤ 1024 * 2 ^ 149 ∧ v % 2 ^ 145 = 0 then 0 else 3 := by
  obtain ⟨m, e, h1, _, _, rfl⟩ := h
  unfold smpErr
  rw [h1]

theorem smpErr_ok {x : Nat} {s : Bool} {v : Nat} (h : IsNum single x s v) (h1 : v ≤ 1024 * 2 ^ 149) (h2 : v % 2 ^ 145 = 0) : smpErr x = 0 := by
  rw [smpErr_num h, if_pos ⟨h1, h2⟩]
theorem smpErr_large {x : Nat} {s : Bool} {v : Nat} (h : IsNum single x s v) (h1 : ¬ v ≤ 1024 * 2 ^ 149) : smpErr x = 3 := by
  rw [smpErr_num h, if_neg fun hh => h1 hh.1]
theorem smpErr_fine {x : Nat} {s : Bool} {v : Nat} (h : IsNum single x s v) (h1 : ¬ v % 2 ^ 145 = 0) : smpErr x = 3 := by
  rw [smpErr_num h, if_neg fun hh => h1 hh.2]
theorem smpErr_nan {x : Nat} {a : Bool} {b : Nat} (h : single.read x = .nan a b) : smpErr x = 1 := by unfold smpErr; rw [h]
theorem smpErr_inf {x : Nat} {s : Bool} (h : single.read x = .infinity s) : smpErr x = 1 := by unfold smpErr; rw [h]

/-- A finite word of float32 stands for at most the greatest one. -/
theorem num_bound {x : Nat} {s : Bool} {m : Nat} {e : Int} (h : single.read x = .number s m e) : m * 2 ^ (e - single.leastPlace).toNat ≤ 16777215 * 2 ^ 253 := by
  have hm : m < 2 ^ 24 := by
    obtain ⟨m', e', k1, _, k3, _⟩ := isNum_of_read h
    rw [h] at k1
    simp only [Datum.number.injEq] at k1
    rw [k1.2.1]; exact k3
  have he : (e - single.leastPlace).toNat ≤ 253 := by
    have hi : single.infRung = 255 * single.binade := by decide
    have hbp : 0 < single.binade := Nat.two_pow_pos _
    unfold Format.read at h
    dsimp only at h
    split at h
    · simp only [Datum.number.injEq] at h; omega
    · split at h
      · rename_i hlt
        simp only [Datum.number.injEq] at h
        rw [hi] at hlt
        have := Nat.div_lt_of_lt_mul (show x % single.signWeight < single.binade * 255 by rw [Nat.mul_comm]; exact hlt)
        omega
      · split at h <;> cases h
  exact Nat.mul_le_mul (by omega) (Nat.pow_le_pow_right (by omega) he)

/-- Every word is no number, or stands for one up to the greatest. -/
theorem smp_class (x : Nat) : (∃ a b, single.read x = .nan a b) ∨ (∃ s, single.read x = .infinity s) ∨ ∃ s v, IsNum single x s v ∧ v ≤ 16777215 * 2 ^ 253 := by
  cases hd : single.read x with
  | nan a b => exact .inl ⟨a, b, rfl⟩
  | infinity s => exact .inr (.inl ⟨s, rfl⟩)
  | number s m e => exact .inr (.inr ⟨s, _, isNum_of_read hd, num_bound hd⟩)

theorem smpErr_zero {x : Nat} (h : smpErr x = 0) : ∃ k, Smp x k ∧ k.natAbs ≤ 16384 := by
  rcases smp_class x with ⟨a, b, hd⟩ | ⟨s, hd⟩ | ⟨s, v, hn, _⟩
  · rw [smpErr_nan hd] at h; cases h
  · rw [smpErr_inf hd] at h; cases h
  · rw [smpErr_num hn] at h
    split at h
    · rename_i hh
      obtain ⟨h1, h2⟩ := hh
      have e : v = v / 2 ^ 145 * 2 ^ 145 := by
        have := Nat.div_add_mod v (2 ^ 145)
        rw [h2, Nat.add_zero, Nat.mul_comm] at this; exact this.symm
      have hq : v / 2 ^ 145 ≤ 16384 := by
        have := Nat.div_le_div_right (c := 2 ^ 145) h1
        have e2 : 1024 * 2 ^ 149 = 16384 * 2 ^ 145 := by decide +kernel
        rwa [e2, Nat.mul_div_cancel _ (Nat.two_pow_pos _)] at this
      generalize v / 2 ^ 145 = p at e hq
      have hpa : (sgn s p).natAbs = p := by unfold sgn; cases s <;> simp
      refine ⟨sgn s p, ⟨s, ?_, ?_, ?_⟩, by rw [hpa]; exact hq⟩
      · rw [hpa, ← e]; exact hn
      · intro hs; unfold sgn at hs; cases s
        · simp only [Bool.false_eq_true, if_false] at hs; omega
        · rfl
      · intro hs; unfold sgn at hs; cases s
        · rfl
        · simp only [if_true] at hs; omega
    · cases h

theorem IsNum.lt_false {f : Format} {x y : Nat} {s t : Bool} {v u : Nat} (h : IsNum f x s v) (g : IsNum f y t u) (hle : sgn t u ≤ sgn s v) : (f.order x y == some .lt) = false := by
  rw [h.order g]
  have : compare (sgn s v) (sgn t u) ≠ .lt := by
    show compareOfLessAndEq _ _ ≠ _
    unfold compareOfLessAndEq
    rw [if_neg (by omega)]
    split <;> simp
  cases hc : compare (sgn s v) (sgn t u) <;> simp_all

theorem sgn_ge_neg {s : Bool} {v u : Nat} (h : v ≤ u) : sgn true u ≤ sgn s v := by unfold sgn; cases s <;> simp <;> omega
theorem sgn_le_pos {s : Bool} {v u : Nat} (h : v ≤ u) : sgn s v ≤ sgn false u := by unfold sgn; cases s <;> simp <;> omega

theorem max32p : IsNum single 2139095039 false (16777215 * 2 ^ 253) := ⟨16777215, 104, by decide +kernel, by decide, by decide, by decide +kernel⟩
theorem max32n : IsNum single 4286578687 true (16777215 * 2 ^ 253) := ⟨16777215, 104, by decide +kernel, by decide, by decide, by decide +kernel⟩

theorem smp_t1 {x : Nat} (t1 : (single.order x x != some .eq) = true) : smpErr x = 1 := by
  rcases smp_class x with ⟨a, b, hd⟩ | ⟨s, hd⟩ | ⟨s, v, hn, _⟩
  · exact smpErr_nan hd
  · exact smpErr_inf hd
  · rw [hn.self] at t1; cases t1
theorem smp_t2 {x : Nat} (t2 : (single.order x 2139095039 == some .gt) = true) : smpErr x = 1 := by
  rcases smp_class x with ⟨a, b, hd⟩ | ⟨s, hd⟩ | ⟨s, v, hn, hv⟩
  · exact smpErr_nan hd
  · exact smpErr_inf hd
  · rw [hn.gt_false max32p (sgn_le_pos hv)] at t2; cases t2
theorem smp_t3 {x : Nat} (t3 : (single.order x 4286578687 == some .lt) = true) : smpErr x = 1 := by
  rcases smp_class x with ⟨a, b, hd⟩ | ⟨s, hd⟩ | ⟨s, v, hn, hv⟩
  · exact smpErr_nan hd
  · exact smpErr_inf hd
  · rw [hn.lt_false max32n (sgn_ge_neg hv)] at t3; cases t3

theorem smp_num {x : Nat} (t1 : (single.order x x != some .eq) = false) (t2 : (single.order x 2139095039 == some .gt) = false) (t3 : (single.order x 4286578687 == some .lt) = false) :
    ∃ s v, IsNum single x s v := by
  rcases smp_class x with ⟨a, b, hd⟩ | ⟨s, hd⟩ | ⟨s, v, hn, hv⟩
  · exfalso
    have : single.order x x = none := by unfold Format.order; rw [hd]; rfl
    rw [this] at t1; cases t1
  · exfalso
    cases s with
    | false =>
      have hm : single.read 2139095039 = .number false 16777215 104 := by decide +kernel
      have : single.order x 2139095039 = some .gt := by unfold Format.order; rw [hd, hm]; rfl
      rw [this] at t2; cases t2
    | true =>
      have hm : single.read 4286578687 = .number true 16777215 104 := by decide +kernel
      have : single.order x 4286578687 = some .lt := by unfold Format.order; rw [hd, hm]; rfl
      rw [this] at t3; cases t3
  · exact ⟨s, v, hn⟩

theorem smp_t4 {x : Nat} (t1 : (single.order x x != some .eq) = false) (t2 : (single.order x 2139095039 == some .gt) = false) (t3 : (single.order x 4286578687 == some .lt) = false)
    (t4 : (single.order x 1149239296 == some .gt) = true) : smpErr x = 3 := by
  obtain ⟨s, v, hn⟩ := smp_num t1 t2 t3
  refine smpErr_large hn fun hv => ?_
  rw [hn.gt_false isNum1024 (sgn_le_pos hv)] at t4; cases t4
theorem smp_t5 {x : Nat} (t1 : (single.order x x != some .eq) = false) (t2 : (single.order x 2139095039 == some .gt) = false) (t3 : (single.order x 4286578687 == some .lt) = false)
    (t5 : (single.order x 3296722944 == some .lt) = true) : smpErr x = 3 := by
  obtain ⟨s, v, hn⟩ := smp_num t1 t2 t3
  refine smpErr_large hn fun hv => ?_
  rw [hn.lt_false isNum1024n (sgn_ge_neg hv)] at t5; cases t5

theorem compare_self (a : Int) : compare a a = .eq := by
  show compareOfLessAndEq _ _ = _
  unfold compareOfLessAndEq; simp

/-- The reference's last test, exactly. -/
theorem checkPart_exact {x : Nat} {s : Bool} {v : Nat} (h : IsNum single x s v) (hv : v ≤ 1024 * 2 ^ 149) :
    ∃ r q, floatBits .mul .f32 1098907648 x = some r ∧ floatToIntVal .f32 r .i64 = some q ∧ ((single.order (floatOfInt .f32 q) r != some .eq) = false → smpErr x = 0) ∧ ((single.order (floatOfInt .f32 q) r != some .eq) = true → smpErr x = 3) := by
  obtain ⟨r, q, h1, h2, h3⟩ := checkPart_fin h hv
  refine ⟨r, q, h1, h2, fun hh => ?_, fun hh => smpErr_fine h fun hm => ?_⟩
  · obtain ⟨⟨t, hn, _, _⟩, _⟩ := h3 hh
    have e : q.natAbs * 2 ^ 145 % 2 ^ 145 = 0 := Nat.mul_mod_left _ _
    rw [smpErr_num hn]
    refine if_pos ⟨?_, e⟩
    have hq : q.natAbs ≤ 16384 := (h3 hh).2
    have := Nat.mul_le_mul_right (2 ^ 145) hq
    have e2 : 1024 * 2 ^ 149 = 16384 * 2 ^ 145 := by decide +kernel
    rw [e2]; exact this
  · have e : v = v / 2 ^ 145 * 2 ^ 145 := by
      have := Nat.div_add_mod v (2 ^ 145)
      rw [hm, Nat.add_zero, Nat.mul_comm] at this; exact this.symm
    have hq : v / 2 ^ 145 ≤ 16384 := by
      have := Nat.div_le_div_right (c := 2 ^ 145) hv
      have e2 : 1024 * 2 ^ 149 = 16384 * 2 ^ 145 := by decide +kernel
      rwa [e2, Nat.mul_div_cancel _ (Nat.two_pow_pos _)] at this
    generalize hp : v / 2 ^ 145 = p at e hq
    have hpa : (sgn s p).natAbs = p := by unfold sgn; cases s <;> simp
    have hc : single.read 1098907648 = .number false (2 ^ single.fractionBits) (((4 : Nat) : Int) - single.fractionBits) := by decide +kernel
    have hmax : v * 2 ^ 4 < 2 ^ (single.fractionBits + 2 ^ single.exponentBits - 2) := by
      have h1 : v < 2 ^ 160 := Nat.lt_of_le_of_lt hv (by decide)
      exact pow_split_lt h1 (by decide)
    obtain ⟨r', _, m2, m3⟩ := h.mul_pow two32 hc hmax
    have er : r = r' := by
      have := h1.symm.trans (show floatBits .mul .f32 1098907648 x = some r' from m2)
      simpa using this
    subst er
    have ht := m3.toInt (by decide)
    have eL : (-single.leastPlace).toNat = 149 := by decide
    have ev : v * 2 ^ 4 = p * 2 ^ 149 := by rw [e, Nat.mul_assoc]
    rw [eL, ev, Nat.mul_div_cancel _ (Nat.two_pow_pos _)] at ht
    have eq : q = sgn s p := by
      unfold floatToIntVal at h2
      have ht' : (FloatKind.f32.decode r).toInt .zero = some (sgn s p) := ht
      rw [ht'] at h2
      have : IntKind.i64.min ≤ sgn s p ∧ sgn s p ≤ IntKind.i64.max := by
        have e1 : IntKind.i64.min = -9223372036854775808 := by decide
        have e2 : IntKind.i64.max = 9223372036854775807 := by decide
        rw [e1, e2]; omega
      simp only [this, and_self, if_true, Option.some.injEq] at h2
      exact h2.symm
    have hy := isNum_ofInt (sgn s p) (by rw [hpa]; exact Nat.lt_of_le_of_lt hq (by decide))
    rw [eq, hy.order m3, hpa, ev] at hh
    have hs : sgn (decide (sgn s p < 0)) (p * 2 ^ 149) = sgn s (p * 2 ^ 149) := by
      cases s with
      | false =>
        have : decide (sgn false p < 0) = false := by unfold sgn; simp
        rw [this]
      | true =>
        by_cases hp0 : p = 0
        · subst hp0; rw [Nat.zero_mul]; decide
        · have : decide (sgn true p < 0) = true := by unfold sgn; simp; omega
          rw [this]
    rw [hs, compare_self] at hh
    cases hh

/-- math.Trunc of a number. -/
theorem trunc_num {d : Nat} {s : Bool} {v : Nat} (h : IsNum double d s v) (hv : v < 2 ^ 2097) :
    ∃ t, (FloatKind.f64.decode d).integral .zero = .number s (v / 2 ^ 1074) 0 ∧ FloatKind.f64.encode (.number s (v / 2 ^ 1074) 0) = t ∧ IsNum double t s (v / 2 ^ 1074 * 2 ^ 1074) := by
  have e0 : ((0 : Int) - double.leastPlace).toNat = 1074 := by decide
  have hD : double.leastPlace = -1074 := by decide
  have hB : double.fractionBits + 2 ^ double.exponentBits - 2 = 2098 := by decide
  generalize hu : (1074 : Nat) = u at *
  generalize hb : (2098 : Nat) = B at *
  generalize hb' : (2097 : Nat) = B' at *
  have hvB : v < 2 ^ B := Nat.lt_trans hv ((Nat.pow_lt_pow_iff_right (by omega)).2 (by omega))
  obtain ⟨m, i, h1, h2, h3, h4⟩ := h
  rw [hD] at h2 h4
  have h1' : FloatKind.f64.decode d = .number s m i := h1
  rw [h1']
  simp only [Datum.integral, cut_zero]
  rw [Nat.shiftLeft_eq]
  by_cases hi : 0 ≤ i
  · have e1 : (-i).toNat = 0 := by omega
    have e2 : m * 2 ^ i.toNat * 2 ^ u = m * 2 ^ (i - -1074).toNat := mul_pow_join m _ u _ (by omega)
    have ek : v / 2 ^ u = m * 2 ^ i.toNat := by rw [← h4, ← e2]; exact Nat.mul_div_cancel _ (Nat.two_pow_pos _)
    have hmax : m * 2 ^ (i - double.leastPlace).toNat < 2 ^ (double.fractionBits + 2 ^ double.exponentBits - 2) := by
      rw [hB, hD, h4]; exact hvB
    have hg := isNum_nearest two64 s m i.toNat i h3 (by rw [hD]; exact h2) hmax
    have e3 : i - (i.toNat : Int) = 0 := by omega
    rw [e3, hD, ← e2] at hg
    rw [e1, Nat.pow_zero, Nat.div_one, ek]
    exact ⟨_, rfl, rfl, hg⟩
  · have e1 : i.toNat = 0 := by omega
    have e2 : (2 : Nat) ^ u = 2 ^ (i - -1074).toNat * 2 ^ (-i).toNat := by rw [← Nat.pow_add]; congr 1; omega
    have ek : v / 2 ^ u = m / 2 ^ (-i).toNat := by
      rw [← h4, e2, ← Nat.div_div_eq_div_mul, Nat.mul_div_cancel _ (Nat.two_pow_pos _)]
    have hk : m / 2 ^ (-i).toNat < 2 ^ (double.fractionBits + 1) := Nat.lt_of_le_of_lt (Nat.div_le_self _ _) h3
    have hmax : m / 2 ^ (-i).toNat * 2 ^ ((0 : Int) - double.leastPlace).toNat < 2 ^ (double.fractionBits + 2 ^ double.exponentBits - 2) := by
      rw [e0, hB, ← ek]
      exact Nat.lt_of_le_of_lt (Nat.div_mul_le_self _ _) hvB
    have hg := isNum_nearest two64 s (m / 2 ^ (-i).toNat) 0 0 hk (by decide) hmax
    rw [e0, Nat.pow_zero, Nat.mul_one] at hg
    rw [e1, Nat.pow_zero, Nat.mul_one, ek]
    exact ⟨_, rfl, rfl, hg⟩

theorem IsNum.eq_decide {f : Format} {x y : Nat} {s : Bool} {v u : Nat} (h : IsNum f x s v) (g : IsNum f y s u) : (f.order x y == some .eq) = decide (v = u) := by
  rw [h.order g]
  by_cases e : v = u
  · subst e; rw [compare_self]; simp
  · rw [decide_eq_false e]
    have : compare (sgn s v) (sgn s u) ≠ .eq := by
      intro hh
      have := cmp_eq_of hh
      unfold sgn at this
      cases s <;> simp at this <;> omega
    cases hc : compare (sgn s v) (sgn s u) <;> simp_all
theorem IsNum.le_decide {f : Format} {x y : Nat} {v u : Nat} (h : IsNum f x false v) (g : IsNum f y false u) : (f.order x y == some .lt || f.order x y == some .eq) = decide (v ≤ u) := by
  by_cases e : v ≤ u
  · rw [decide_eq_true e, h.le_true g (sgn_le' e)]
  · rw [decide_eq_false e, h.order g, cmp_gt_of (show sgn false u < sgn false v by unfold sgn; simp; omega)]
    rfl

theorem fine_iff (v : Nat) : v * 2 ^ 925 * 2 ^ 4 = v * 2 ^ 925 * 2 ^ 4 / 2 ^ 1074 * 2 ^ 1074 ↔ v % 2 ^ 145 = 0 := by
  generalize hu : (925 : Nat) = u
  generalize hw : (1074 : Nat) = w
  rw [mul_pow_join v u 4 (u + 4) rfl]
  have e : (2 : Nat) ^ w = 2 ^ 145 * 2 ^ (u + 4) := by rw [← Nat.pow_add]; congr 1; omega
  have hp : 0 < 2 ^ (u + 4) := Nat.two_pow_pos _
  rw [e, Nat.mul_div_mul_right _ _ hp, ← Nat.mul_assoc]
  constructor
  · intro h
    have := Nat.eq_of_mul_eq_mul_right hp h
    have h2 := Nat.div_add_mod v (2 ^ 145)
    rw [Nat.mul_comm, ← this] at h2
    omega
  · intro h
    have h2 := Nat.div_add_mod v (2 ^ 145)
    rw [h, Nat.add_zero, Nat.mul_comm] at h2
    rw [h2]
theorem large_iff (v : Nat) : v * 2 ^ 925 * 2 ^ 4 ≤ 16384 * 2 ^ 1074 ↔ v ≤ 1024 * 2 ^ 149 := by
  generalize hu : (925 : Nat) = u
  generalize hw : (1074 : Nat) = w
  rw [mul_pow_join v u 4 (u + 4) rfl]
  have e : 16384 * (2 : Nat) ^ w = 1024 * 2 ^ 149 * 2 ^ (u + 4) := by
    rw [show (1024 : Nat) = 2 ^ 10 from rfl, show (16384 : Nat) = 2 ^ 14 from rfl, ← Nat.pow_add, ← Nat.pow_add, ← Nat.pow_add]
    congr 1; omega
  rw [e]
  exact Nat.mul_le_mul_right_iff (Nat.two_pow_pos _)

/-- What the program's test computes for a number of float32: all its words and comparisons. -/
theorem multiple_words {x : Nat} {s : Bool} {v : Nat} (h : IsNum single x s v) (hv : v ≤ 16777215 * 2 ^ 253) :
    ∃ d n t, floatToFloatBits .f32 x .f64 = some d ∧ IsNum double d s (v * 2 ^ 925) ∧ floatBits .mul .f64 d 4625196817309499392 = some n ∧
      (FloatKind.f64.decode n).integral .zero = .number s (v * 2 ^ 925 * 2 ^ 4 / 2 ^ 1074) 0 ∧ FloatKind.f64.encode (.number s (v * 2 ^ 925 * 2 ^ 4 / 2 ^ 1074) 0) = t ∧
      (double.order n t == some .eq) = decide (v % 2 ^ 145 = 0) ∧
      (double.order (n % 9223372036854775808) 4670232813583204352 == some .lt || double.order (n % 9223372036854775808) 4670232813583204352 == some .eq) = decide (v ≤ 1024 * 2 ^ 149) := by
  have hv2 : v < 2 ^ 277 := Nat.lt_of_le_of_lt hv (by decide +kernel)
  obtain ⟨d, h1, h2⟩ := toF64 277 h hv2 (by omega)
  have hb : v * 2 ^ 925 < 2 ^ (277 + 925) := by
    generalize hu : (925 : Nat) = u
    exact pow_split hv2
  obtain ⟨n, n1, n2⟩ := mul16_64 (277 + 925) h2 hb (by omega)
  have hb2 : v * 2 ^ 925 * 2 ^ 4 < 2 ^ 2097 := by
    generalize hu : (925 : Nat) = u at *
    generalize hw : (2097 : Nat) = w
    exact pow_split_lt hb (by omega)
  obtain ⟨t, t1, t2, t3⟩ := trunc_num n2 hb2
  refine ⟨d, n, t, h1, h2, n1, t1, t2, ?_, ?_⟩
  · rw [n2.eq_decide t3]
    exact decide_eq_decide.2 (fine_iff v)
  · rw [n2.abs64.le_decide max16384]
    exact decide_eq_decide.2 (large_iff v)
end Go.Proofs.YtpmjiifdnnhecaaGreatDoor

/-
  Contracts of the check of a sample, of the program and of the reference, for every word: both answer smpErr.
-/

namespace Go.Proofs.YtpmjiifdnnhecaaGreatDoor
open Go.RowKit
set_option linter.unusedVariables false

set_option maxHeartbeats 1600000 in
theorem checkPart_all (x : Nat) (w : World) :
    Calls Tryz.prog 224 #[.float .f32 x, .int .i64 1024] w fun e w' => e = .returned (.int .i64 (smpErr x)) ∧ w = w' := by
  have c0 := run_ofInt 1024
  rw [float1024] at c0
  have c1 := run_sub 119 sub1024
  by_cases t1 : (FloatKind.f32.format.order x x != some .eq) = true
  · rw [smp_t1 t1]
    go_enter Tryz.func224, Tryz.ntmps224
    go_wp2
    go_ret
    exact ⟨rfl, rfl⟩
  have t1 := Bool.eq_false_iff.2 t1
  by_cases t2 : (FloatKind.f32.format.order x 2139095039 == some .gt) = true
  · rw [smp_t2 t2]
    go_enter Tryz.func224, Tryz.ntmps224
    go_wp2
    go_ret
    exact ⟨rfl, rfl⟩
  have t2 := Bool.eq_false_iff.2 t2
  by_cases t3 : (FloatKind.f32.format.order x 4286578687 == some .lt) = true
  · rw [smp_t3 t3]
    go_enter Tryz.func224, Tryz.ntmps224
    go_wp2
    go_ret
    exact ⟨rfl, rfl⟩
  have t3 := Bool.eq_false_iff.2 t3
  by_cases t4 : (FloatKind.f32.format.order x 1149239296 == some .gt) = true
  · rw [smp_t4 t1 t2 t3 t4]
    go_enter Tryz.func224, Tryz.ntmps224
    go_wp2
    go_ret
    exact ⟨rfl, rfl⟩
  have t4 := Bool.eq_false_iff.2 t4
  by_cases t5 : (FloatKind.f32.format.order x 3296722944 == some .lt) = true
  · rw [smp_t5 t1 t2 t3 t5]
    go_enter Tryz.func224, Tryz.ntmps224
    go_wp2
    go_ret
    exact ⟨rfl, rfl⟩
  have t5 := Bool.eq_false_iff.2 t5
  obtain ⟨s, v, hn, hv⟩ := checkPart_num t1 t2 t3 t4 t5
  obtain ⟨r, q, m1, m2, m3, m4⟩ := checkPart_exact hn hv
  have c2 := run_mul 119 m1
  have c3 := run_toInt m2
  have c4 := run_ofInt q
  clear hn hv m1 m2
  by_cases t6 : (FloatKind.f32.format.order (floatOfInt .f32 q) r != some .eq) = true
  · rw [m4 t6]
    clear m3 m4
    go_enter Tryz.func224, Tryz.ntmps224
    go_wp2_with (go_at_call 87; refine (when_any true 3 _).mono ?_; rintro e w' ⟨rfl, rfl⟩)
    go_ret
    exact ⟨rfl, rfl⟩
  have t6 := Bool.eq_false_iff.2 t6
  rw [m3 t6]
  clear m3 m4
  go_enter Tryz.func224, Tryz.ntmps224
  go_wp2_with (go_at_call 87; refine (when_any false 3 _).mono ?_; rintro e w' ⟨rfl, rfl⟩)
  go_ret
  exact ⟨rfl, rfl⟩

set_option maxHeartbeats 400000 in
theorem refCheckSample_all (x : Nat) (w : World) :
    Calls Tryz.prog 200 #[.float .f32 x] w fun e w' => e = .returned (.int .i64 (smpErr x)) ∧ w = w' := by
  go_enter Tryz.func200, Tryz.ntmps200
  go_wp2_with (go_at_call 224; refine (checkPart_all x _).mono ?_; rintro e w' ⟨rfl, rfl⟩)
  go_ret
  exact ⟨rfl, rfl⟩

/-! ### The program's -/

/-- What is no number is converted to some such word of float64. -/
theorem run_nan64 {x : Nat} {a : Bool} {b : Nat} (h : Ieee.single.read x = .nan a b) (w : World) :
    ∃ d, (convert 119 293 (.float .f32 x)).run Tryz.prog w = .ok (.float .f64 d) w.drew ∧ ∃ a b, Ieee.double.read d = .nan a b := by
  have hs : Tryz.prog.underlying 119 = some (.float .f32) := Tryz.underlying119
  have hd : Tryz.prog.underlying 293 = some (.float .f64) := Tryz.underlying293
  have hx : FloatKind.f32.decode x = .nan a b := h
  refine ⟨(Question.nanConv .f64 x).cut (w.tape w.drawn (.nanConv .f64 x)), ?_, ?_⟩
  · simp [convert, run_underlying hs, run_underlying hd, Conv.floatToFloat, hx, Question.forced]
  · generalize w.tape w.drawn (.nanConv .f64 x) = t
    show ∃ a b, Ieee.double.read ((t % 2) * 2 ^ 63 + 0x7ff0000000000000 + 1 + (t / 2) % (2 ^ 52 - 1)) = .nan a b
    have e1 : Ieee.double.signWeight = 9223372036854775808 := by decide +kernel
    have e2 : Ieee.double.infRung = 9218868437227405312 := by decide +kernel
    unfold Ieee.Format.read
    have e3 : Ieee.double.binade = 4503599627370496 := by decide +kernel
    simp only [e1, e2, e3]
    have h1 := Nat.mod_lt (t / 2) (show 0 < 2 ^ 52 - 1 by decide)
    have h2 := Nat.mod_lt t (show 0 < 2 by decide)
    generalize t / 2 % (2 ^ 52 - 1) = p at h1
    generalize t % 2 = q at h2
    have h3 : (q * 2 ^ 63 + 9218868437227405312 + 1 + p) % 9223372036854775808 = 9218868437227405312 + 1 + p := by omega
    rw [h3, if_neg (by omega), if_neg (by omega), if_neg (by omega)]
    exact ⟨_, _, rfl⟩

theorem run_inf64 {x : Nat} {s : Bool} (h : Ieee.single.read x = .infinity s) :
    ∃ d, (∀ w : World, (convert 119 293 (.float .f32 x)).run Tryz.prog w = .ok (.float .f64 d) w) ∧ d < 18446744073709551616 ∧ Ieee.double.order d d = some .eq ∧
      (Ieee.double.order (d % 9223372036854775808) 9218868437227405311 == some .gt) = true := by
  have hx : FloatKind.f32.decode x = .infinity s := h
  have hf : floatToFloatBits .f32 x .f64 = some (FloatKind.f64.encode (.infinity s)) := by
    unfold floatToFloatBits
    have hne : ¬ FloatKind.f32 = FloatKind.f64 := by decide
    simp only [hne, if_false, hx]
  refine ⟨_, run_to64 hf, ?_, ?_, ?_⟩ <;> cases s <;> decide +kernel

set_option maxHeartbeats 1000000 in
theorem isNaN_nan (d : Nat) (h : ∃ a b, Ieee.double.read d = .nan a b) (w : World) :
    Calls Tryz.prog 225 #[.float .f64 d] w fun e w' => e = .returned (.bool true) ∧ w = w' := by
  have h1 : FloatKind.f64.format.order d d = none := by
    obtain ⟨a, b, h⟩ := h
    show Ieee.double.order d d = none
    unfold Ieee.Format.order; rw [h]; rfl
  clear h
  go_enter Tryz.func225, Tryz.ntmps225
  go_wp2
  go_ret
  exact ⟨rfl, rfl⟩

set_option maxHeartbeats 1000000 in
theorem isNaN_no (d : Nat) (h : Ieee.double.order d d = some .eq) (w : World) :
    Calls Tryz.prog 225 #[.float .f64 d] w fun e w' => e = .returned (.bool false) ∧ w = w' := by
  have h1 : FloatKind.f64.format.order d d = some .eq := h
  clear h
  go_enter Tryz.func225, Tryz.ntmps225
  go_wp2
  go_ret
  exact ⟨rfl, rfl⟩

set_option maxHeartbeats 800000 in
theorem isInf_yes (d : Nat) (hd : d < 18446744073709551616) (h : (Ieee.double.order (d % 9223372036854775808) 9218868437227405311 == some .gt) = true) (w : World) :
    Calls Tryz.prog 226 #[.float .f64 d, .int .i64 0] w fun e w' => e = .returned (.bool true) ∧ w = w' := by
  have h1 : (FloatKind.f64.format.order (d % 9223372036854775808) 9218868437227405311 == some .gt) = true := h
  clear h
  go_enter Tryz.func226, Tryz.ntmps226
  go_wp2_with (go_at_call 228; refine (abs_any d hd _).mono ?_; rintro e w' ⟨rfl, rfl⟩)
  go_ret
  exact ⟨rfl, rfl⟩

set_option maxHeartbeats 1000000 in
theorem isFinite_nan {x : Nat} {a : Bool} {b : Nat} (h : Ieee.single.read x = .nan a b) (w : World) :
    Calls Tryz.prog 204 #[.float .f32 x] w fun e w' => e = .returned (.bool false) ∧ w' = w.drew := by
  obtain ⟨d, c1, hd⟩ := run_nan64 h w
  have K1 := Lib.hid (isNaN_nan d hd)
  clear h hd
  go_enter Tryz.func204, Tryz.ntmps204
  go_wp2_with (go_at_call 225; refine (K1.out _).mono ?_; rintro e w' ⟨rfl, rfl⟩)
  go_ret
  exact ⟨rfl, rfl⟩

set_option maxHeartbeats 1000000 in
theorem isFinite_inf {x : Nat} {s : Bool} (h : Ieee.single.read x = .infinity s) (w : World) :
    Calls Tryz.prog 204 #[.float .f32 x] w fun e w' => e = .returned (.bool false) ∧ w' = w := by
  obtain ⟨d, c1, hd, h1, h2⟩ := run_inf64 h
  have K1 := Lib.hid (isNaN_no d h1)
  have K2 := Lib.hid (isInf_yes d hd h2)
  clear h hd h1 h2
  go_enter Tryz.func204, Tryz.ntmps204
  go_wp2_with (first | (go_at_call 225; refine (K1.out _).mono ?_; rintro e w' ⟨rfl, rfl⟩) | (go_at_call 226; refine (K2.out _).mono ?_; rintro e w' ⟨rfl, rfl⟩))
  go_ret
  exact ⟨rfl, rfl⟩

set_option maxHeartbeats 1000000 in
theorem isFinite_num {x : Nat} {s : Bool} {v : Nat} (hx : x < 2 ^ 32) (h : IsNum Ieee.single x s v) (hv : v ≤ 16777215 * 2 ^ 253) (w : World) :
    Calls Tryz.prog 204 #[.float .f32 x] w fun e w' => e = .returned (.bool true) ∧ w' = w := by
  have hv2 : v < 2 ^ 277 := Nat.lt_of_le_of_lt hv (by decide +kernel)
  obtain ⟨d, h1, h2⟩ := toF64 277 h hv2 (by omega)
  have hd := isNum_lt (s := s) (v := 0) h1 hx
  have hb : v * 2 ^ 925 ≤ (2 ^ 53 - 1) * 2 ^ 2045 := by
    generalize hu : (925 : Nat) = u
    exact max64_ge (pow_split hv2) (by omega)
  have c1 := run_to64 h1
  have K1 := Lib.hid (isNaN_any d s _ h2)
  have K2 := Lib.hid (isInf_any d s _ h2 hd hb)
  clear h h1 h2 hd hv hx hb hv2
  go_enter Tryz.func204, Tryz.ntmps204
  go_wp2_with (first | (go_at_call 225; refine (K1.out _).mono ?_; rintro e w' ⟨rfl, rfl⟩) | (go_at_call 226; refine (K2.out _).mono ?_; rintro e w' ⟨rfl, rfl⟩))
  go_ret
  exact ⟨rfl, rfl⟩

set_option maxHeartbeats 1000000 in
theorem isMultiple_num {x : Nat} {s : Bool} {v : Nat} (h : IsNum Ieee.single x s v) (hv : v ≤ 16777215 * 2 ^ 253) (w : World) :
    Calls Tryz.prog 205 #[.float .f32 x, .float .f64 4652218415073722368] w fun e w' => e = .returned (.bool (decide (v ≤ 1024 * 2 ^ 149 ∧ v % 2 ^ 145 = 0))) ∧ w' = w := by
  obtain ⟨d, n, t, h1, h2, n1, t1, t2, q1, q2⟩ := multiple_words h hv
  have hn := floatBits_lt n1
  have c1 := run_to64 h1
  have c2 := run_mul 293 n1
  have c3 := run_trunc t1 t2
  have hm : floatBits .mul .f64 4652218415073722368 4625196817309499392 = some 4670232813583204352 := by decide +kernel
  have c5 := run_mul 293 hm
  have K1 := Lib.hid (trunc_any n t c3)
  have K2 := Lib.hid (abs_any n hn)
  clear h h1 h2 n1 t1 t2 hm hn c3 hv
  by_cases f1 : v % 2 ^ 145 = 0
  · rw [decide_eq_true f1] at q1
    by_cases f2 : v ≤ 1024 * 2 ^ 149
    · rw [decide_eq_true f2] at q2
      rw [decide_eq_true (show v ≤ 1024 * 2 ^ 149 ∧ v % 2 ^ 145 = 0 from ⟨f2, f1⟩)]
      have c4 : (FloatKind.f64.format.order n t == some .eq) = true := q1
      have c6 : (FloatKind.f64.format.order (n % 9223372036854775808) 4670232813583204352 == some .lt || FloatKind.f64.format.order (n % 9223372036854775808) 4670232813583204352 == some .eq) = true := q2
      clear f1 f2 q1 q2
      go_enter Tryz.func205, Tryz.ntmps205
      go_wp2_with (first | (go_at_call 227; refine (K1.out _).mono ?_; rintro e w' ⟨rfl, rfl⟩) | (go_at_call 228; refine (K2.out _).mono ?_; rintro e w' ⟨rfl, rfl⟩))
      go_ret
      exact ⟨rfl, rfl⟩
    · rw [decide_eq_false f2] at q2
      rw [decide_eq_false (show ¬ (v ≤ 1024 * 2 ^ 149 ∧ v % 2 ^ 145 = 0) from fun hh => f2 hh.1)]
      have c4 : (FloatKind.f64.format.order n t == some .eq) = true := q1
      have c6 : (FloatKind.f64.format.order (n % 9223372036854775808) 4670232813583204352 == some .lt || FloatKind.f64.format.order (n % 9223372036854775808) 4670232813583204352 == some .eq) = false := q2
      clear f1 f2 q1 q2
      go_enter Tryz.func205, Tryz.ntmps205
      go_wp2_with (first | (go_at_call 227; refine (K1.out _).mono ?_; rintro e w' ⟨rfl, rfl⟩) | (go_at_call 228; refine (K2.out _).mono ?_; rintro e w' ⟨rfl, rfl⟩))
      go_ret
      exact ⟨rfl, rfl⟩
  · rw [decide_eq_false f1] at q1
    rw [decide_eq_false (show ¬ (v ≤ 1024 * 2 ^ 149 ∧ v % 2 ^ 145 = 0) from fun hh => f1 hh.2)]
    have c4 : (FloatKind.f64.format.order n t == some .eq) = false := q1
    clear f1 q1 q2
    go_enter Tryz.func205, Tryz.ntmps205
    go_wp2_with (first | (go_at_call 227; refine (K1.out _).mono ?_; rintro e w' ⟨rfl, rfl⟩) | (go_at_call 228; refine (K2.out _).mono ?_; rintro e w' ⟨rfl, rfl⟩))
    go_ret
    exact ⟨rfl, rfl⟩

set_option maxHeartbeats 800000 in
theorem checkSample_all (x : Nat) (hx : x < 2 ^ 32) (w : World) :
    Calls Tryz.prog 156 #[.float .f32 x] w fun e w' => e = .returned (.int .i64 (smpErr x)) ∧ (w = w' ∨ w.drew = w') := by
  rcases smp_class x with ⟨a, b, hd⟩ | ⟨s, hd⟩ | ⟨s, v, hn, hv⟩
  · rw [smpErr_nan hd]
    have K1 := Lib.hid (isFinite_nan hd)
    clear hd hx
    go_enter Tryz.func156, Tryz.ntmps156
    go_wp2_with (go_at_call 204; refine (K1.out _).mono ?_; rintro e w' ⟨rfl, rfl⟩)
    go_ret
    exact ⟨rfl, .inr rfl⟩
  · rw [smpErr_inf hd]
    have K1 := Lib.hid (isFinite_inf hd)
    clear hd hx
    go_enter Tryz.func156, Tryz.ntmps156
    go_wp2_with (go_at_call 204; refine (K1.out _).mono ?_; rintro e w' ⟨rfl, rfl⟩)
    go_ret
    exact ⟨rfl, .inl rfl⟩
  · rw [smpErr_num hn]
    have K1 := Lib.hid (isFinite_num hx hn hv)
    have K2 := Lib.hid (isMultiple_num hn hv)
    clear hn hx hv
    by_cases f : v ≤ 1024 * 2 ^ 149 ∧ v % 2 ^ 145 = 0
    · rw [decide_eq_true f] at K2
      rw [if_pos f]
      clear f
      go_enter Tryz.func156, Tryz.ntmps156
      go_wp2_with (first | (go_at_call 204; refine (K1.out _).mono ?_; rintro e w' ⟨rfl, rfl⟩) | (go_at_call 205; refine (K2.out _).mono ?_; rintro e w' ⟨rfl, rfl⟩))
      go_ret
      exact ⟨rfl, .inl rfl⟩
    · rw [decide_eq_false f] at K2
      rw [if_neg f]
      clear f
      go_enter Tryz.func156, Tryz.ntmps156
      go_wp2_with (first | (go_at_call 204; refine (K1.out _).mono ?_; rintro e w' ⟨rfl, rfl⟩) | (go_at_call 205; refine (K2.out _).mono ?_; rintro e w' ⟨rfl, rfl⟩))
      go_ret
      exact ⟨rfl, .inl rfl⟩
end Go.Proofs.YtpmjiifdnnhecaaGreatDoor
