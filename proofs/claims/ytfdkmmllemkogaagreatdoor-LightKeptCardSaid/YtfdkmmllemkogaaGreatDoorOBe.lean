/-
  Contracts of At and Total for every map: the error of the map, or of the place, or the sample and the light.
-/
import Derived.Test.YtfdkmmllemkogaaGreatDoorOBd
import Derived.Test.YtfdkmmllemkogaaGreatDoorOZa
import Derived.Test.YtfdkmmllemkogaaGreatDoorOWv
import Derived.BigQuiet
import Derived.Test.YtfdkmmllemkogaaGreatDoorOZk
namespace Go.Proofs.YtfdkmmllemkogaaGreatDoor
open Go.RowKit
open Ieee (Format single)
set_option linter.unusedVariables false
set_option linter.unusedSimpArgs false

/-- The integer of a sample's word. -/
def kOf (x : Nat) : Int :=
  match single.read x with
  | .number s m e => sgn s (m * 2 ^ (e - single.leastPlace).toNat / 2 ^ 145)
  | _ => 0

theorem smp_kOf {x : Nat} (h : smpErr x = 0) : Smp x (kOf x) ∧ (kOf x).natAbs ≤ 16384 := by
  rcases smp_class x with ⟨a, b, hd⟩ | ⟨s, hd⟩ | ⟨s, v, hn, _⟩
  · rw [smpErr_nan hd] at h; cases h
  · rw [smpErr_inf hd] at h; cases h
  · rw [smpErr_num hn] at h
    split at h
    · rename_i hh
      obtain ⟨h1, h2⟩ := hh
      have e : v = v / 2 ^ 145 * 2 ^ 145 := by
        have := Nat.div_add_mod v (2 ^ 145)
        rw [h2, Nat.add_zero, Nat.mul_comm] at this; exact this.symm
      have hq : v / 2 ^ 145 ≤ 16384 := by
        have := Nat.div_le_div_right (c := 2 ^ 145) h1
        have e2 : 1024 * 2 ^ 149 = 16384 * 2 ^ 145 := by decide +kernel
        rwa [e2, Nat.mul_div_cancel _ (Nat.two_pow_pos _)] at this
      have hk : kOf x = sgn s (v / 2 ^ 145) := by
        obtain ⟨m, i, k1, _, _, k4⟩ := hn
        unfold kOf
        rw [k1]
        dsimp only
        rw [k4]
      rw [hk]
      generalize v / 2 ^ 145 = p at e hq
      have hpa : (sgn s p).natAbs = p := by unfold sgn; cases s <;> simp
      refine ⟨⟨s, ?_, ?_, ?_⟩, by rw [hpa]; exact hq⟩
      · rw [hpa, ← e]; exact hn
      · intro hs; unfold sgn at hs; cases s
        · simp only [Bool.false_eq_true, if_false] at hs; omega
        · rfl
      · intro hs; unfold sgn at hs; cases s
        · rfl
        · simp only [if_true] at hs; omega
    · cases h

theorem mapErr_smps {W H : Int} {n : Nat} {xs : List Nat} (hx : xs.length = n) (h : mapErr W H n xs = 0) : ∀ j, j < n → smpErr (xs[j]?.getD 0) = 0 := by
  intro j hj
  unfold mapErr at h
  split at h
  · split at h
    · refine firstNZ_all h _ (List.mem_map.2 ⟨xs[j]?.getD 0, ?_, rfl⟩)
      rw [List.getElem?_eq_getElem (by omega)]
      exact List.getElem_mem _
    · cases h
  · rename_i h0; exact absurd h h0

theorem AnyMap.rightK {w : World} {W H : Int} {a : Option Addr} {n c : Nat} {xs : List Nat} (h : AnyMap w a n c xs) (h0 : mapErr W H n xs = 0) :
    ∃ b o, a = some ⟨b, o, none⟩ ∧ b < w.heap.size ∧ RightMap w W H b o n xs (xs.map kOf) := by
  obtain ⟨b, o, ks, ha, hb, hr⟩ := h.right h0
  have hk : ∀ j, j < n → (xs.map kOf)[j]?.getD 0 = kOf (xs[j]?.getD 0) := fun j hj => by
    have := hr.len
    rw [List.getElem?_map, List.getElem?_eq_getElem (by omega)]; rfl
  have hs := mapErr_smps h.len h0
  exact ⟨b, o, ha, hb, ⟨⟨hr.len, by rw [List.length_map]; exact hr.len, hr.small, hr.cells, hr.words, fun j hj => by rw [hk j hj]; exact (smp_kOf (hs j hj)).1, fun j hj => by rw [hk j hj]; exact (smp_kOf (hs j hj)).2⟩, hr.wid, hr.hei, hr.area⟩⟩

/-- CheckMap, in the words of AnyMap. -/
theorem checkMap_map (W H : Int) (a : Option Addr) (n c : Nat) (xs : List Nat) (w : World) (h : AnyMap w a n c xs) :
    Calls Tryz.prog 47 #[.agg #[.int .i64 W, .int .i64 H, .slice a n c]] w fun e w' => e = .returned (.int .i64 (mapErr W H n xs)) ∧ Below w.heap.size w w' :=
  checkMap_all W H a n c xs h.len w h.words h.cells
theorem refCheckMap_map (W H : Int) (a : Option Addr) (n c : Nat) (xs : List Nat) (w : World) (h : AnyMap w a n c xs) :
    Calls Tryz.prog 41 #[.agg #[.int .i64 W, .int .i64 H, .slice a n c]] w fun e w' => e = .returned (.int .i64 (mapErr W H n xs)) ∧ Below w.heap.size w w' :=
  refCheckMap_all W H a n c xs h.len w h.cells

/-! ### At -/

def inPlace (W H X Y : Int) : Prop := 0 ≤ X ∧ X < W ∧ 0 ≤ Y ∧ Y < H
instance (W H X Y : Int) : Decidable (inPlace W H X Y) := by unfold inPlace; infer_instance
def atErr (W H X Y : Int) (n : Nat) (xs : List Nat) : Int := if mapErr W H n xs = 0 then if inPlace W H X Y then 0 else 10 else mapErr W H n xs
def atK (W X Y : Int) (xs : List Nat) : Int := kOf (xs[(Y * W + X).toNat]?.getD 0)

set_option maxRecDepth 100000 in
set_option maxHeartbeats 3200000 in
theorem at_bad (W H : Int) (a : Option Addr) (n c : Nat) (xs : List Nat) (X Y r : Int) (hr0 : r ≠ 0) (w : World)
    (hC : ∀ w1 : World, Below w.heap.size w w1 → Calls Tryz.prog 47 #[.agg #[.int .i64 W, .int .i64 H, .slice a n c]] w1 fun e w' => e = .returned (.int .i64 r) ∧ Below w1.heap.size w1 w') :
    Calls Tryz.prog 37 #[.agg #[.int .i64 W, .int .i64 H, .slice a n c], .agg #[.int .i64 X, .int .i64 Y]] w fun e w' =>
      e = .returned (.tuple #[.float .f32 0, .int .i64 r]) ∧ Below w.heap.size w w' := by
  have e0 : (r != 0) = true := by simp [hr0]
  have HC := Lib.hid hC
  clear hr0 hC
  have hB0 : ∀ o1 o2, Below w.heap.size w ((w.alloc o1).alloc o2) := fun o1 o2 => ((Below.refl _ w).alloc (Nat.le_refl _) _).alloc (by simp) _
  have HB0 := Lib.hid hB0
  clear hB0
  go_enter Tryz.func37, Tryz.ntmps37
  go_wp2_with (go_at_call 47; refine (HC.out _ (HB0.out _ _)).mono ?_; rintro e w1 ⟨rfl, hb1⟩)
  go_ret2
  exact ⟨rfl, (HB0.out _ _).trans (hb1.mono (by simp; omega))⟩

set_option maxRecDepth 100000 in
set_option maxHeartbeats 3200000 in
theorem total_bad (W H : Int) (a : Option Addr) (n c : Nat) (r : Int) (hr0 : r ≠ 0) (w : World)
    (hC : ∀ w1 : World, Below w.heap.size w w1 → Calls Tryz.prog 47 #[.agg #[.int .i64 W, .int .i64 H, .slice a n c]] w1 fun e w' => e = .returned (.int .i64 r) ∧ Below w1.heap.size w1 w') :
    Calls Tryz.prog 39 #[.agg #[.int .i64 W, .int .i64 H, .slice a n c]] w fun e w' =>
      e = .returned (.tuple #[.int .i64 0, .int .i64 r]) ∧ Below w.heap.size w w' := by
  have e0 : (r != 0) = true := by simp [hr0]
  have HC := Lib.hid hC
  clear hr0 hC
  have hB0 : ∀ o1, Below w.heap.size w (w.alloc o1) := fun o1 => (Below.refl _ w).alloc (Nat.le_refl _) _
  have HB0 := Lib.hid hB0
  clear hB0
  go_enter Tryz.func39, Tryz.ntmps39
  go_wp2_with (go_at_call 47; refine (HC.out _ (HB0.out _)).mono ?_; rintro e w1 ⟨rfl, hb1⟩)
  go_ret2
  exact ⟨rfl, (HB0.out _).trans (hb1.mono (by simp))⟩

set_option maxRecDepth 100000 in
set_option maxHeartbeats 3200000 in
theorem at_out (W H : Nat) (b o n c : Nat) (xs : List Nat) (ks : List Int) (w : World) (hA : RightMap w W H b o n xs ks) (hb : b < w.heap.size) (X Y : Int) (hin : insideB W H (X, Y) = false) :
    Calls Tryz.prog 37 #[.agg #[.int .i64 W, .int .i64 H, .slice (some ⟨b, o, none⟩) n c], .agg #[.int .i64 X, .int .i64 Y]] w fun e w' =>
      e = .returned (.tuple #[.float .f32 0, .int .i64 10]) ∧ Below w.heap.size w w' := by
  obtain ⟨W0, hW0⟩ : ∃ W0, (w.alloc (.cells #[.int .i64 W, .int .i64 H, .slice (some ⟨b, o, none⟩) n c] 54)).alloc (.cells #[.int .i64 X, .int .i64 Y] 50) = W0 := ⟨_, rfl⟩
  have hB0 : Below w.heap.size w W0 := by rw [← hW0]; exact ((Below.refl _ w).alloc (Nat.le_refl _) _).alloc (by simp) _
  have hS0 : W0.heap.size = w.heap.size + 2 := by rw [← hW0]; simp
  have a0 : W0.cell? ⟨w.heap.size, 0, none⟩ = some (.int .i64 W) := by rw [← hW0]; simp [go_sem]
  have a1 : W0.cell? ⟨w.heap.size, 1, none⟩ = some (.int .i64 H) := by rw [← hW0]; simp [go_sem]
  have a2 : W0.cell? ⟨w.heap.size, 2, none⟩ = some (.slice (some ⟨b, o, none⟩) n c) := by rw [← hW0]; simp [go_sem]
  have p0 : W0.cell? ⟨w.heap.size + 1, 0, none⟩ = some (.int .i64 X) := by rw [← hW0]; simp [go_sem]
  have p1 : W0.cell? ⟨w.heap.size + 1, 1, none⟩ = some (.int .i64 Y) := by rw [← hW0]; simp [go_sem]
  have K1 := Lib.hid (checkMap_any W H b o n c xs ks W0 (hA.below hB0 hb) (by omega))
  have K2 : Hid (∀ w1 : World, Below W0.heap.size W0 w1 → Calls Tryz.prog 123 #[.agg #[.int .i64 W, .int .i64 H, .slice (some ⟨b, o, none⟩) n c]] w1 fun e w' =>
      ∃ g, e = .returned (.agg #[.int .i64 W, .int .i64 H, .slice (some ⟨g, 0, none⟩) n n]) ∧ w1.heap.size ≤ g ∧ RowAt w' g n ks ∧ Below w1.heap.size w1 w') := Lib.hid (fun w1 h => by
    have h1 := h.size
    have h2 := hB0.trans (h.mono (by omega))
    exact grid_row W H b o n c xs ks w1 (hA.below h2 hb).toWords (by omega))
  have HB0 := Lib.hid hB0
  have HS0 := Lib.hid hS0
  clear hA hB0
  go_enter Tryz.func37, Tryz.ntmps37
  go_upto_region 1 with fail
  try rw [hW0]
  clear hW0
  go_wp2_with (first
    | ((go_at_call 47; refine K1.out.mono ?_; rintro e w1 ⟨rfl, hb1⟩
        have hs1 := hb1.size
        have a0' := (hb1.cell (p := ⟨w.heap.size, 0, none⟩) (by show w.heap.size < _; omega)).trans a0
        have a1' := (hb1.cell (p := ⟨w.heap.size, 1, none⟩) (by show w.heap.size < _; omega)).trans a1
        have a2' := (hb1.cell (p := ⟨w.heap.size, 2, none⟩) (by show w.heap.size < _; omega)).trans a2
        have K3 := Lib.hid (K2.out w1 hb1)))
    | ((go_at_call 123; refine K3.out.mono ?_; rintro e w2 ⟨ga, rfl, hga, hRA, hb2⟩
        have hs2 := hb2.size
        obtain ⟨W3, hW3⟩ : ∃ W3, w2.alloc (.cells #[.int .i64 W, .int .i64 H, .slice (some ⟨ga, 0, none⟩) n n] 188) = W3 := ⟨_, rfl⟩
        have hB23 : Below w2.heap.size w2 W3 := by rw [← hW3]; exact (Below.refl _ _).alloc (Nat.le_refl _) _
        have hS3 : W3.heap.size = w2.heap.size + 1 := by rw [← hW3]; simp
        have hB3 : Below W0.heap.size W0 W3 := (hb1.trans (hb2.mono hs1)).trans (hB23.mono (by omega))
        have g0 : W3.cell? ⟨w2.heap.size, 0, none⟩ = some (.int .i64 W) := by rw [← hW3]; simp [go_sem]
        have g1 : W3.cell? ⟨w2.heap.size, 1, none⟩ = some (.int .i64 H) := by rw [← hW3]; simp [go_sem]
        have g2 : W3.cell? ⟨w2.heap.size, 2, none⟩ = some (.slice (some ⟨ga, 0, none⟩) n n) := by rw [← hW3]; simp [go_sem]
        have p0' := (hB3.cell (p := ⟨w.heap.size + 1, 0, none⟩) (by show w.heap.size + 1 < _; omega)).trans p0
        have p1' := (hB3.cell (p := ⟨w.heap.size + 1, 1, none⟩) (by show w.heap.size + 1 < _; omega)).trans p1
        have HB3 := Lib.hid hB3
        clear hRA hB23 hb2 hB3 a0 a1 a2 a0' a1' a2' hb1))
    | ((go_at_call 124; refine (has_any W H X Y _ _ _ W3).mono ?_; rintro e w4 ⟨rfl, hb4⟩
        have HB4 := Lib.hid (HB3.out.trans (hb4.mono (by omega)))
        clear hb4)))
  go_ret2
  exact ⟨rfl, HB0.out.trans (HB4.out.mono (by have := HS0.out; omega))⟩

theorem lightAt_all (W H : Int) (a : Option Addr) (n c : Nat) (xs : List Nat) (X Y : Int) (w : World) (hM : AnyMap w a n c xs) :
    Calls Tryz.prog 37 #[.agg #[.int .i64 W, .int .i64 H, .slice a n c], .agg #[.int .i64 X, .int .i64 Y]] w fun e w' =>
      e = .returned (.tuple #[.float .f32 (if atErr W H X Y n xs = 0 then smpOf (atK W X Y xs) else 0), .int .i64 (atErr W H X Y n xs)]) ∧ Below w.heap.size w w' := by
  by_cases h0 : mapErr W H n xs = 0
  · obtain ⟨b, o, rfl, hb, hR⟩ := hM.rightK h0
    obtain ⟨Wn, rfl⟩ := Int.eq_ofNat_of_zero_le (show 0 ≤ W by have := hR.wid; omega)
    obtain ⟨Hn, rfl⟩ := Int.eq_ofNat_of_zero_le (show 0 ≤ H by have := hR.hei; omega)
    unfold atErr
    rw [if_pos h0]
    by_cases hi : inPlace Wn Hn X Y
    · rw [if_pos hi, if_pos rfl]
      obtain ⟨i1, i2, i3, i4⟩ := hi
      obtain ⟨Xn, rfl⟩ := Int.eq_ofNat_of_zero_le i1
      obtain ⟨Yn, rfl⟩ := Int.eq_ofNat_of_zero_le i3
      have h := lightAt_any Wn Hn b o n c xs (xs.map kOf) w hR hb Xn Yn (by omega) (by omega)
      have e : (xs.map kOf)[Yn * Wn + Xn]?.getD 0 = atK Wn Xn Yn xs := by
        have hN : Wn * Hn = n := by have := hR.area; exact_mod_cast this
        have hlt : Yn * Wn + Xn < n := idx_lt (p := (Xn, Yn)) (by omega) (by omega) hN
        have hl := hM.len
        unfold atK
        have e1 : ((Yn : Int) * (Wn : Int) + (Xn : Int)).toNat = Yn * Wn + Xn := by
          have e2 : (Yn : Int) * (Wn : Int) = ((Yn * Wn : Nat) : Int) := by push_cast; rfl
          rw [e2]; omega
        rw [e1, List.getElem?_map, List.getElem?_eq_getElem (by omega)]; rfl
      rw [e] at h
      exact h
    · rw [if_neg hi, if_neg (by decide)]
      refine at_out Wn Hn b o n c xs (xs.map kOf) w hR hb X Y ?_
      unfold inPlace at hi
      simp [insideB]
      omega
  · unfold atErr
    rw [if_neg h0, if_neg h0]
    exact at_bad W H a n c xs X Y _ h0 w fun w1 h1 => checkMap_map W H a n c xs w1 (hM.below h1 (Nat.le_refl _))

theorem lightTotal_all (W H : Int) (a : Option Addr) (n c : Nat) (xs : List Nat) (w : World) (hM : AnyMap w a n c xs) :
    Calls Tryz.prog 39 #[.agg #[.int .i64 W, .int .i64 H, .slice a n c]] w fun e w' =>
      e = .returned (.tuple #[.int .i64 (if mapErr W H n xs = 0 then (xs.map kOf).sum else 0), .int .i64 (mapErr W H n xs)]) ∧ Below w.heap.size w w' := by
  by_cases h0 : mapErr W H n xs = 0
  · obtain ⟨b, o, rfl, hb, hR⟩ := hM.rightK h0
    rw [if_pos h0, h0]
    exact total_any W H b o n c xs (xs.map kOf) w hR hb
  · rw [if_neg h0]
    exact total_bad W H a n c _ h0 w fun w1 h1 => checkMap_map W H a n c xs w1 (hM.below h1 (Nat.le_refl _))
end Go.Proofs.YtfdkmmllemkogaaGreatDoor

/-
  Contracts of the reference's Total and Level of a right map, and of number.
-/
namespace Go.Proofs.YtfdkmmllemkogaaGreatDoor
open Go.RowKit
set_option linter.unusedVariables false
set_option linter.unusedSimpArgs false

set_option maxRecDepth 100000 in
set_option maxHeartbeats 3200000 in
theorem refTotal_any (W H : Int) (b o n c : Nat) (xs : List Nat) (ks : List Int) (w : World) (hw : RightMap w W H b o n xs ks) (hb : b < w.heap.size) :
    Calls Tryz.prog 43 #[.agg #[.int .i64 W, .int .i64 H, .slice (some ⟨b, o, none⟩) n c]] w fun e w' => e = .returned (.int .i64 ks.sum) ∧ Below w.heap.size w w' := by
  have HBD := Lib.hid (sum_take_bd hw.lenk hw.sizes)
  have hsm := hw.small
  have HW := Lib.hid hw
  clear hw
  go_enter Tryz.func43, Tryz.ntmps43
  go_wp2
  go_loop [3, 4] (fun x i => ∃ k : Nat, k ≤ n ∧ i = .int .i64 k ∧ x = .int .i64 (ks.take k).sum) (fun _ i => n - (intOf i).toNat)
  case atStart => exact ⟨0, Nat.zero_le _, rfl, rfl⟩
  case round =>
    obtain ⟨k, hk, rfl, rfl⟩ := hrel
    have hbd := HBD.out k hk
    by_cases hlt : k < n
    · have hcell := HW.out.cells k hlt
      have hz := HW.out.sizes k hlt
      have HS := Lib.hid (sum_take_succ ks k (by have := HW.out.lenk; omega))
      have K := Lib.hid (HW.out.smps k hlt)
      have K2 := Lib.hid (Nat.lt_of_le_of_lt hz (show 16384 < 2 ^ 40 by decide))
      have hb3 : -67108864 ≤ (ks.take k).sum ∧ (ks.take k).sum ≤ 67108864 := by
        have : 16384 * k ≤ 67108864 := by omega
        omega
      clear hbd
      go_wp2_with (go_at_call 99; refine (sixteenths_any _ _ K.out K2.out _).mono ?_; rintro e w' ⟨rfl, rfl⟩)
      go_round
      case rel => exact ⟨k + 1, by omega, by go_num, by rw [HS.out]⟩
      case measure => simp [intOf]; omega
    · go_wp2
      go_ret
      obtain rfl : k = n := by omega
      exact ⟨by rw [List.take_of_length_le (by have := HW.out.lenk; omega)]; rfl, (Below.refl _ w).alloc (Nat.le_refl _) _⟩

set_option maxRecDepth 100000 in
set_option maxHeartbeats 3200000 in
theorem refLevel_any (W H : Nat) (b o n c : Nat) (xs : List Nat) (ks : List Int) (w : World) (hw : RightMap w W H b o n xs ks) (hb : b < w.heap.size) (X Y : Nat) (hX : X < W) (hY : Y < H) :
    Calls Tryz.prog 46 #[.agg #[.int .i64 W, .int .i64 H, .slice (some ⟨b, o, none⟩) n c], .int .i64 X, .int .i64 Y] w fun e w' => e = .returned (.int .i64 (ks[Y * W + X]?.getD 0)) ∧ Below w.heap.size w w' := by
  have hW := hw.wid
  have hH := hw.hei
  have hN : W * H = n := by have := hw.area; exact_mod_cast this
  have hlt : Y * W + X < n := idx_lt (p := (X, Y)) hX hY hN
  have hsm := hw.small
  have hcell := hw.cells _ hlt
  have K := Lib.hid (hw.smps _ hlt)
  have K2 := Lib.hid (Nat.lt_of_le_of_lt (hw.sizes _ hlt) (show 16384 < 2 ^ 40 by decide))
  have m1 : Y * W ≤ 64 * 64 := Nat.mul_le_mul (by omega) (by omega)
  have e2 : (Y : Int) * (W : Int) = ((Y * W : Nat) : Int) := by push_cast; rfl
  have w2 : IntKind.wrap .i64 (((Y * W : Nat) : Int)) = ((Y * W : Nat) : Int) := IntWalk.i64_in _ (by omega)
  have e1 : (((Y * W : Nat) : Int) + (X : Int)) = ((Y * W + X : Nat) : Int) := by push_cast; rfl
  clear hw
  have t1 : ((X : Int) < 0) = False := by simp
  have t2 : ((W : Int) ≤ (X : Int)) = False := by simp; omega
  have t3 : ((Y : Int) < 0) = False := by simp
  have t4 : ((H : Int) ≤ (Y : Int)) = False := by simp; omega
  generalize hp : Y * W + X = P at *
  have w1 : IntKind.wrap .i64 (P : Int) = (P : Int) := IntWalk.i64_in _ (by omega)
  generalize hq : Y * W = Q at *
  go_enter Tryz.func46, Tryz.ntmps46
  go_wp2_with (go_at_call 99; refine (sixteenths_any _ _ K.out K2.out _).mono ?_; rintro e w' ⟨rfl, rfl⟩)
  go_ret
  exact ⟨rfl, (Below.refl _ w).alloc (Nat.le_refl _) _⟩

set_option maxHeartbeats 800000 in
theorem number_same (v r : Int) (w : World) :
    Calls Tryz.prog 48 #[.int .i64 (if r = 0 then v else 0), .int .i64 r, .int .i64 r, .int .i64 (if r = 0 then v else 0)] w fun e w' => e = .returned (.bool true) ∧ w = w' := by
  by_cases h : r = 0
  · subst h
    simp only [if_true]
    go_enter Tryz.func48, Tryz.ntmps48
    go_wp2
    go_ret
    exact ⟨rfl, rfl⟩
  · have e0 : (r != 0) = true := by simp [h]
    have e1 : (r == r) = true := by simp
    rw [if_neg h]
    clear h
    go_enter Tryz.func48, Tryz.ntmps48
    go_wp2
    go_ret
    exact ⟨rfl, rfl⟩
end Go.Proofs.YtfdkmmllemkogaaGreatDoor

/-
  Contracts of Peak, of the reference for a right map and of the program for every map.
-/
namespace Go.Proofs.YtfdkmmllemkogaaGreatDoor
open Go.RowKit
set_option linter.unusedVariables false
set_option linter.unusedSimpArgs false

/-- The first index of the greatest integer among the first m. -/
def pkTo (ks : List Int) : Nat → Nat
  | 0 => 0
  | m + 1 => if ks[pkTo ks m]?.getD 0 < ks[m]?.getD 0 then m else pkTo ks m

theorem pkTo_lt (ks : List Int) : ∀ m, 1 ≤ m → pkTo ks m < m
  | 0, h => by omega
  | m + 1, _ => by
    unfold pkTo
    split
    · omega
    · rcases Nat.eq_zero_or_pos m with rfl | hm
      · simp [pkTo]
      · have := pkTo_lt ks m hm; omega

theorem peakTo_pk (W : Nat) (ks : List Int) (hW : 0 < W) : ∀ m, peakTo W ks (placesTo W m) = (pkTo ks m % W, pkTo ks m / W)
  | 0 => by simp [placesTo, peakTo, pkTo]
  | m + 1 => by
    have e : placesTo W (m + 1) = placesTo W m ++ [(m % W, m / W)] := by simp [placesTo, List.range_succ]
    have hi : ∀ j : Nat, j / W * W + j % W = j := fun j => by rw [Nat.mul_comm]; exact Nat.div_add_mod j W
    rw [e, peakTo_snoc, peakTo_pk W ks hW m]
    unfold peak1
    dsimp only
    rw [hi, hi, pkTo]
    split <;> rfl

theorem order_gt {x y : Nat} {k l : Int} (hx : Smp x k) (hy : Smp y l) : (Ieee.single.order x y == some .gt) = decide (l < k) := by
  rw [hx.order hy]
  by_cases h : l < k
  · rw [cmp_gt_of h, decide_eq_true h]; rfl
  · rw [decide_eq_false h]
    have : compare k l ≠ .gt := by
      show compareOfLessAndEq _ _ ≠ _
      unfold compareOfLessAndEq
      split
      · simp
      · split
        · simp
        · omega
    cases hc : compare k l <;> simp_all

theorem results_tmp_row {P : Program} {fn : Func} {s p : Tmp} {ty : TypeId} (h : fn.results = #[.tmp s, .cell p ty]) (tmps : Array Value) (w : World) (g : Nat) (t : TypeId) (cs : Array Value) (fr : Nat × Nat) (d : TypeDesc)
    (hp : tmps.getD p undef = .pointer (some ⟨g, 0, none⟩)) (hg : w.heap[g]? = some (.cells cs t fr))
    (hu : P.underlying ty = some d) (hd : (match d with | .struct _ | .array _ _ => true | _ => false) = true) (hi : (P.info? ty).map (·.size) = some cs.size) :
    (results fn tmps).run P w = .ok (.tuple #[tmps.getD s undef, .agg cs]) w := by
  have hp' : tmps[p]?.getD undef = .pointer (some ⟨g, 0, none⟩) := by simpa using hp
  simp [results, h, hp', asAddr, Sem.run_bind, Result.andThen, run_loadVar_row w g t ty cs fr d hg hu hd hi]

set_option maxRecDepth 100000 in
set_option maxHeartbeats 3200000 in
theorem refPeak_any (W H : Nat) (b o n c : Nat) (xs : List Nat) (ks : List Int) (w : World) (hw : RightMap w W H b o n xs ks) (hb : b < w.heap.size) :
    Calls Tryz.prog 44 #[.agg #[.int .i64 W, .int .i64 H, .slice (some ⟨b, o, none⟩) n c]] w fun e w' =>
      e = .returned (.tuple #[.float .f32 (xs[pkTo ks n]?.getD 0), .agg #[.int .i64 ((pkTo ks n % W : Nat) : Int), .int .i64 ((pkTo ks n / W : Nat) : Int)]]) ∧ Below w.heap.size w w' := by
  have hWd := hw.wid
  have hHt := hw.hei
  have hN : W * H = n := by have := hw.area; exact_mod_cast this
  have hn1 : 1 ≤ n := by rw [← hN]; exact Nat.mul_pos (by omega) (by omega)
  have hsm := hw.small
  have HW := Lib.hid hw
  clear hw hN
  obtain ⟨W0, hW0⟩ : ∃ W0, (w.alloc (.cells #[.int .i64 W, .int .i64 H, .slice (some ⟨b, o, none⟩) n c] 48)).alloc (.cells #[.int .i64 0, .int .i64 0] 50) = W0 := ⟨_, rfl⟩
  have hB0 : Below w.heap.size w W0 := by rw [← hW0]; exact ((Below.refl _ w).alloc (Nat.le_refl _) _).alloc (by simp) _
  have hS0 : W0.heap.size = w.heap.size + 2 := by rw [← hW0]; simp
  have bM0 : W0.heap[w.heap.size]? = some (.cells #[.int .i64 W, .int .i64 H, .slice (some ⟨b, o, none⟩) n c] 48 (0, 0)) := by rw [← hW0]; exact blk_alloc_other (blk_alloc_new _ _) _
  have bP0 : W0.heap[w.heap.size + 1]? = some (.cells #[.int .i64 0, .int .i64 0] 50 (0, 0)) := by rw [← hW0]; exact blk_alloc_new1 _ _ _
  have HB0 := Lib.hid hB0
  have HS0 := Lib.hid hS0
  have HBM := Lib.hid bM0
  have HBP := Lib.hid bP0
  clear hB0 hS0 bM0 bP0
  go_enter Tryz.func44, Tryz.ntmps44
  go_upto_region 3 with fail
  try rw [hW0]
  clear hW0
  go_loopw [4, 5] (fun av iv wr => ∃ k : Nat, 1 ≤ k ∧ k ≤ n ∧ iv = .int .i64 k ∧ av = .int .i64 (pkTo ks k) ∧ Below W0.heap.size W0 wr) (fun _ i _ => n - (intOf i).toNat)
  case atStart => exact ⟨1, Nat.le_refl _, hn1, rfl, by simp [pkTo], Below.refl _ _⟩
  case round =>
    obtain ⟨k, hk1, hk, rfl, rfl, hnx⟩ := hrel
    have hsz := hnx.size
    have hS0 := HS0.out
    have bM := (hnx.block w.heap.size (by omega)).trans HBM.out
    have bP := (hnx.block (w.heap.size + 1) (by omega)).trans HBP.out
    have c0 : wr.cell? ⟨w.heap.size, 0, none⟩ = some (.int .i64 W) := by rw [cell_of_row wr _ 0 _ _ (0, 0) bM]; rfl
    have c2 : wr.cell? ⟨w.heap.size, 2, none⟩ = some (.slice (some ⟨b, o, none⟩) n c) := by rw [cell_of_row wr _ 2 _ _ (0, 0) bM]; rfl
    have hpl := pkTo_lt ks k hk1
    obtain ⟨p, hp⟩ : ∃ p, pkTo ks k = p := ⟨_, rfl⟩
    rw [hp] at hpl ⊢
    have hcp : wr.cell? ⟨b, o + p, none⟩ = some (.float .f32 (xs[p]?.getD 0)) := (hnx.cell (p := ⟨b, o + p, none⟩) (by show b < _; omega)).trans ((HB0.out.cell (p := ⟨b, o + p, none⟩) hb).trans (HW.out.cells p (by omega)))
    have hp0 : (0 : Int) ≤ (p : Int) := by omega
    have hpn : (p : Int) < (n : Int) := by omega
    by_cases hlt : k < n
    · have hck : wr.cell? ⟨b, o + k, none⟩ = some (.float .f32 (xs[k]?.getD 0)) := (hnx.cell (p := ⟨b, o + k, none⟩) (by show b < _; omega)).trans ((HB0.out.cell (p := ⟨b, o + k, none⟩) hb).trans (HW.out.cells k hlt))
      have hgt := order_gt (HW.out.smps k hlt) (HW.out.smps p (by omega))
      have h4 : (k : Int) < (n : Int) := by omega
      have h5 : (0 : Int) ≤ (k : Int) := by omega
      have hnext : pkTo ks (k + 1) = if ks[p]?.getD 0 < ks[k]?.getD 0 then k else p := by rw [pkTo, hp]
      have HNX := Lib.hid hnext
      have HNW := Lib.hid hnx
      have HP := Lib.hid hp
      clear hnext hnx hp bM bP
      by_cases hg : ks[p]?.getD 0 < ks[k]?.getD 0
      · rw [decide_eq_true hg] at hgt
        have hgt' : (FloatKind.f32.format.order (xs[k]?.getD 0) (xs[p]?.getD 0) == some .gt) = true := hgt
        have HG := Lib.hid hg
        clear hg hgt
        go_wp2_with fail
        go_quiet (fail)
        go_wp2
        go_roundw
        case rel => exact ⟨k + 1, by omega, by omega, by go_num, by rw [HNX.out, if_pos HG.out], below_drewN HNW.out _⟩
        case measure => simp [intOf]; omega
      · rw [decide_eq_false hg] at hgt
        have hgt' : (FloatKind.f32.format.order (xs[k]?.getD 0) (xs[p]?.getD 0) == some .gt) = false := hgt
        have HG := Lib.hid hg
        clear hg hgt
        go_wp2_with fail
        go_quiet (fail)
        go_wp2
        go_roundw
        case rel => exact ⟨k + 1, by omega, by omega, by go_num, by rw [HNX.out, if_neg (by have := HG.out; omega)], below_drewN HNW.out _⟩
        case measure => simp [intOf]; omega
    · obtain rfl : k = n := by omega
      have hWn : ¬ (W = 0) := by omega
      have hWi : ¬ ((W : Int) = 0) := by omega
      have eR : (p : Int).tmod (W : Int) = ((p % W : Nat) : Int) := by rw [Int.tmod_eq_emod_of_nonneg (by omega)]; rfl
      have eQ : (p : Int).tdiv (W : Int) = ((p / W : Nat) : Int) := by rw [Int.tdiv_eq_ediv_of_nonneg (by omega)]; rfl
      have hq : p / W ≤ p := Nat.div_le_self _ _
      have hr : p % W ≤ p := Nat.mod_le _ _
      have HBPW := Lib.hid bP
      have HNW := Lib.hid hnx
      have HP := Lib.hid hp
      have p0 : wr.cell? ⟨w.heap.size + 1, 0, none⟩ = some (.int .i64 0) := by rw [cell_of_row wr _ 0 _ _ (0, 0) bP]; rfl
      have p1 : wr.cell? ⟨w.heap.size + 1, 1, none⟩ = some (.int .i64 0) := by rw [cell_of_row wr _ 1 _ _ (0, 0) bP]; rfl
      have q0 : wr.frozen? ⟨w.heap.size + 1, 0, none⟩ = false := by simp [World.frozen?, bP]
      have q1 : wr.frozen? ⟨w.heap.size + 1, 1, none⟩ = false := by simp [World.frozen?, bP]
      clear hnx hp bM bP
      obtain ⟨dq, hdq⟩ : ∃ dq, p / W = dq := ⟨_, rfl⟩
      obtain ⟨dr, hdr⟩ : ∃ dr, p % W = dr := ⟨_, rfl⟩
      rw [hdq] at eQ hq
      rw [hdr] at eR hr
      have wQ : IntKind.wrap .i64 (dq : Int) = (dq : Int) := IntWalk.i64_in _ (by omega)
      have wR : IntKind.wrap .i64 (dr : Int) = (dr : Int) := IntWalk.i64_in _ (by omega)
      have nb : ¬ (b = w.heap.size + 1) := by omega
      have nb' : ¬ (w.heap.size + 1 = b) := by omega
      have HDQ := Lib.hid hdq
      have HDR := Lib.hid hdr
      clear hdq hdr
      go_wp2_with fail
      go_region_held3 (fun w' => w'.cell? ⟨w.heap.size, 0, none⟩ = some (.int .i64 W) ∧ w'.cell? ⟨w.heap.size, 2, none⟩ = some (.slice (some ⟨b, o, none⟩) k c) ∧ w'.cell? ⟨b, o + p, none⟩ = some (.float .f32 (xs[p]?.getD 0)))
        (go_keep)
        (fail)
      all_goals
        go_wp2_with fail
        obtain ⟨WF, hWF⟩ : ∃ WF, ((wr.setCell ⟨w.heap.size + 1, 0, none⟩ (.int .i64 dr)).setCell ⟨w.heap.size + 1, 1, none⟩ (.int .i64 dq)).drew = WF := ⟨_, rfl⟩
        have rF : WF.heap[w.heap.size + 1]? = some (.cells #[.int .i64 dr, .int .i64 dq] 50 (0, 0)) := by rw [← hWF]; exact blk_set2 HBPW.out _ _
        have bF : Below w.heap.size w WF := by
          rw [← hWF]
          exact (((HB0.out.trans (HNW.out.mono (by omega))).setCell (p := ⟨w.heap.size + 1, 0, none⟩) (by show w.heap.size ≤ w.heap.size + 1; omega) _).setCell (p := ⟨w.heap.size + 1, 1, none⟩) (by show w.heap.size ≤ w.heap.size + 1; omega) _).drew
        rw [hWF]
        refine bodyPost_ret (v := .tuple #[.float .f32 (xs[p]?.getD 0), .agg #[.int .i64 dr, .int .i64 dq]]) (results_tmp_row Tryz.results44 _ _ (w.heap.size + 1) 50 _ (0, 0) _ rfl rF Tryz.underlying50 rfl (by kernel_rfl)) rfl ⟨?_, bF⟩
        rw [HP.out, HDR.out, HDQ.out]

set_option maxRecDepth 100000 in
set_option maxHeartbeats 3200000 in
theorem peak_bad (W H : Int) (a : Option Addr) (n c : Nat) (r : Int) (hr0 : r ≠ 0) (w : World)
    (hC : ∀ w1 : World, Below w.heap.size w w1 → Calls Tryz.prog 47 #[.agg #[.int .i64 W, .int .i64 H, .slice a n c]] w1 fun e w' => e = .returned (.int .i64 r) ∧ Below w1.heap.size w1 w') :
    Calls Tryz.prog 40 #[.agg #[.int .i64 W, .int .i64 H, .slice a n c]] w fun e w' =>
      e = .returned (.tuple #[.float .f32 0, .agg #[.int .i64 0, .int .i64 0], .int .i64 r]) ∧ Below w.heap.size w w' := by
  have e0 : (r != 0) = true := by simp [hr0]
  obtain ⟨W0, hW0⟩ : ∃ W0, (w.alloc (.cells #[.int .i64 W, .int .i64 H, .slice a n c] 54)).alloc (.cells #[.int .i64 0, .int .i64 0] 50) = W0 := ⟨_, rfl⟩
  have hB0 : Below w.heap.size w W0 := by rw [← hW0]; exact ((Below.refl _ w).alloc (Nat.le_refl _) _).alloc (by simp) _
  have hS0 : W0.heap.size = w.heap.size + 2 := by rw [← hW0]; simp
  have a0 : W0.cell? ⟨w.heap.size, 0, none⟩ = some (.int .i64 W) := by rw [← hW0]; simp [go_sem]
  have a1 : W0.cell? ⟨w.heap.size, 1, none⟩ = some (.int .i64 H) := by rw [← hW0]; simp [go_sem]
  have a2 : W0.cell? ⟨w.heap.size, 2, none⟩ = some (.slice a n c) := by rw [← hW0]; simp [go_sem]
  have bP0 : W0.heap[w.heap.size + 1]? = some (.cells #[.int .i64 0, .int .i64 0] 50 (0, 0)) := by rw [← hW0]; exact blk_alloc_new1 _ _ _
  have HC := Lib.hid (hC W0 hB0)
  have HB0 := Lib.hid hB0
  have HBP := Lib.hid bP0
  clear hr0 hC hB0 bP0
  go_enter Tryz.func40, Tryz.ntmps40
  go_upto_region 1 with fail
  try rw [hW0]
  clear hW0
  go_wp2_with (first
    | ((go_at_call 47; refine HC.out.mono ?_; rintro e w1 ⟨rfl, hb1⟩
        have hs1 := hb1.size
        have bP := (hb1.block (w.heap.size + 1) (by omega)).trans HBP.out
        have q0 : w1.frozen? ⟨w.heap.size + 1, 0, none⟩ = false := by simp [World.frozen?, bP]
        have q1 : w1.frozen? ⟨w.heap.size + 1, 1, none⟩ = false := by simp [World.frozen?, bP]
        have p0 : w1.cell? ⟨w.heap.size + 1, 0, none⟩ = some (.int .i64 0) := by rw [cell_of_row w1 _ 0 _ _ (0, 0) bP]; rfl
        have p1 : w1.cell? ⟨w.heap.size + 1, 1, none⟩ = some (.int .i64 0) := by rw [cell_of_row w1 _ 1 _ _ (0, 0) bP]; rfl
        have HBPW := Lib.hid bP
        have HB1 := Lib.hid hb1
        clear bP hb1)))
  obtain ⟨WF, hWF⟩ : ∃ WF, ((w1.setCell ⟨w.heap.size + 1, 0, none⟩ (.int .i64 0)).setCell ⟨w.heap.size + 1, 1, none⟩ (.int .i64 0)) = WF := ⟨_, rfl⟩
  have rF : WF.heap[w.heap.size + 1]? = some (.cells #[.int .i64 0, .int .i64 0] 50 (0, 0)) := by rw [← hWF]; exact blk_set2 HBPW.out _ _
  have bF : Below w.heap.size w WF := by
    rw [← hWF]
    exact ((HB0.out.trans (HB1.out.mono (by omega))).setCell (p := ⟨w.heap.size + 1, 0, none⟩) (by show w.heap.size ≤ w.heap.size + 1; omega) _).setCell (p := ⟨w.heap.size + 1, 1, none⟩) (by show w.heap.size ≤ w.heap.size + 1; omega) _
  rw [hWF]
  exact bodyPost_ret (v := .tuple #[.float .f32 0, .agg #[.int .i64 0, .int .i64 0], .int .i64 r]) (results_tmp_row_tmp Tryz.results40 _ _ (w.heap.size + 1) 50 _ (0, 0) _ rfl rF Tryz.underlying50 rfl (by kernel_rfl)) rfl ⟨rfl, bF⟩
end Go.Proofs.YtfdkmmllemkogaaGreatDoor
