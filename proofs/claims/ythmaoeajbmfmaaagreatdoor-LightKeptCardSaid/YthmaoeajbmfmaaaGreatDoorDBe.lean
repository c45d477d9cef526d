/-
  Contracts of At and Total for every map: the error of the map, or of the place, or the sample and the light.
-/
import Derived.Test.YthmaoeajbmfmaaaGreatDoorDBd
import Derived.Test.YthmaoeajbmfmaaaGreatDoorDXe
import Derived.Test.YthmaoeajbmfmaaaGreatDoorDFlo
import Derived.Test.YthmaoeajbmfmaaaGreatDoorDWg
import Derived.Test.YthmaoeajbmfmaaaGreatDoorDWx
import Derived.Laws.BytesArg
import Derived.Lib.SlBytesConst
import Derived.Deep.CutBlock
import Derived.Deep.QuietTactic
import Derived.BigQuiet
import Derived.Deep.DeepCutAuto
import Derived.Lib.AppendStr
namespace Go.Proofs.YthmaoeajbmfmaaaGreatDoor
open Go.RowKit
open Ieee (Format single)
set_option linter.unusedVariables false
set_option linter.unusedSimpArgs false

/-- The integer of a sample's word. -/
def kOf (x : Nat) : Int :=
  match single.read x with
  | .number s m e => sgn s (m * 2 ^ (e - single.leastPlace).toNat / 2 ^ 145)
  | _ => 0

theorem smp_kOf {x : Nat} (h : smpErr x = 0) : Smp x (kOf x) ∧ (kOf x).natAbs ≤ 16384 := by
  rcases smp_class x with ⟨a, b, hd⟩ | ⟨s, hd⟩ | ⟨s, v, hn, _⟩
  · rw [smpErr_nan hd] at h; cases h
  · rw [smpErr_inf hd] at h; cases h
  · rw [smpErr_num hn] at h
    split at h
    · rename_i hh
      obtain ⟨h1, h2⟩ := hh
      have e : v = v / 2 ^ 145 * 2 ^ 145 := by
        have := Nat.div_add_mod v (2 ^ 145)
        rw [h2, Nat.add_zero, Nat.mul_comm] at this; exact this.symm
      have hq : v / 2 ^ 145 ≤ 16384 := by
        have := Nat.div_le_div_right (c := 2 ^ 145) h1
        have e2 : 1024 * 2 ^ 149 = 16384 * 2 ^ 145 := by decide +kernel
        rwa [e2, Nat.mul_div_cancel _ (Nat.two_pow_pos _)] at this
      have hk : kOf x = sgn s (v / 2 ^ 145) := by
        obtain ⟨m, i, k1, _, _, k4⟩ := hn
        unfold kOf
        rw [k1]
        dsimp only
        rw [k4]
      rw [hk]
      generalize v / 2 ^ 145 = p at e hq
      have hpa : (sgn s p).natAbs = p := by unfold sgn; cases s <;> simp
      refine ⟨⟨s, ?_, ?_, ?_⟩, by rw [hpa]; exact hq⟩
      · rw [hpa, ← e]; exact hn
      · intro hs; unfold sgn at hs; cases s
        · simp only [Bool.false_eq_true, if_false] at hs; omega
        · rfl
      · intro hs; unfold sgn at hs; cases s
        · rfl
        · simp only [if_true] at hs; omega
    · cases h

theorem mapErr_smps {W H : Int} {n : Nat} {xs : List Nat} (hx : xs.length = n) (h : mapErr W H n xs = 0) : ∀ j, j < n → smpErr (xs[j]?.getD 0) = 0 := by
  intro j hj
  unfold mapErr at h
  split at h
  · split at h
    · refine firstNZ_all h _ (List.mem_map.2 ⟨xs[j]?.getD 0, ?_, rfl⟩)
      rw [List.getElem?_eq_getElem (by omega)]
      exact List.getElem_mem _
    · cases h
  · rename_i h0; exact absurd h h0

theorem AnyMap.rightK {w : World} {W H : Int} {a : Option Addr} {n c : Nat} {xs : List Nat} (h : AnyMap w a n c xs) (h0 : mapErr W H n xs = 0) :
    ∃ b o, a = some ⟨b, o, none⟩ ∧ b < w.heap.size ∧ RightMap w W H b o n xs (xs.map kOf) := by
  obtain ⟨b, o, ks, ha, hb, hr⟩ := h.right h0
  have hk : ∀ j, j < n → (xs.map kOf)[j]?.getD 0 = kOf (xs[j]?.getD 0) := fun j hj => by
    have := hr.len
    rw [List.getElem?_map, List.getElem?_eq_getElem (by omega)]; rfl
  have hs := mapErr_smps h.len h0
  exact ⟨b, o, ha, hb, ⟨⟨hr.len, by rw [List.length_map]; exact hr.len, hr.small, hr.cells, hr.words, fun j hj => by rw [hk j hj]; exact (smp_kOf (hs j hj)).1, fun j hj => by rw [hk j hj]; exact (smp_kOf (hs j hj)).2⟩, hr.wid, hr.hei, hr.area⟩⟩

/-- CheckMap, in the words of AnyMap. -/
theorem checkMap_map (W H : Int) (a : Option Addr) (n c : Nat) (xs : List Nat) (w : World) (h : AnyMap w a n c xs) :
    Calls Tryz.prog 89 #[.agg #[.int .i64 W, .int .i64 H, .slice a n c]] w fun e w' => e = .returned (.int .i64 (mapErr W H n xs)) ∧ Below w.heap.size w w' :=
  checkMap_all W H a n c xs h.len w h.words h.cells
theorem refCheckMap_map (W H : Int) (a : Option Addr) (n c : Nat) (xs : List Nat) (w : World) (h : AnyMap w a n c xs) :
    Calls Tryz.prog 32 #[.agg #[.int .i64 W, .int .i64 H, .slice a n c]] w fun e w' => e = .returned (.int .i64 (mapErr W H n xs)) ∧ Below w.heap.size w w' :=
  refCheckMap_all W H a n c xs h.len w h.cells

/-! ### At -/

def inPlace (W H X Y : Int) : Prop := 0 ≤ X ∧ X < W ∧ 0 ≤ Y ∧ Y < H
instance (W H X Y : Int) : Decidable (inPlace W H X Y) := by unfold inPlace; infer_instance
def atErr (W H X Y : Int) (n : Nat) (xs : List Nat) : Int := if mapErr W H n xs = 0 then if inPlace W H X Y then 0 else 10 else mapErr W H n xs
def atK (W X Y : Int) (xs : List Nat) : Int := kOf (xs[(Y * W + X).toNat]?.getD 0)

set_option maxRecDepth 100000 in
set_option maxHeartbeats 3200000 in
theorem at_bad (W H : Int) (a : Option Addr) (n c : Nat) (xs : List Nat) (X Y r : Int) (hr0 : r ≠ 0) (w : World)
    (hC : ∀ w1 : World, Below w.heap.size w w1 → Calls Tryz.prog 89 #[.agg #[.int .i64 W, .int .i64 H, .slice a n c]] w1 fun e w' => e = .returned (.int .i64 r) ∧ Below w1.heap.size w1 w') :
    Calls Tryz.prog 43 #[.agg #[.int .i64 W, .int .i64 H, .slice a n c], .agg #[.int .i64 X, .int .i64 Y]] w fun e w' =>
      e = .returned (.tuple #[.float .f32 0, .int .i64 r]) ∧ Below w.heap.size w w' := by
  have e0 : (r != 0) = true := by simp [hr0]
  have HC := Lib.hid hC
  clear hr0 hC
  have hB0 : ∀ o1 o2, Below w.heap.size w ((w.alloc o1).alloc o2) := fun o1 o2 => ((Below.refl _ w).alloc (Nat.le_refl _) _).alloc (by simp) _
  have HB0 := Lib.hid hB0
  clear hB0
  go_enter Tryz.func43, Tryz.ntmps43
  go_wp2_with (go_at_call 89; refine (HC.out _ (HB0.out _ _)).mono ?_; rintro e w1 ⟨rfl, hb1⟩)
  go_ret2
  exact ⟨rfl, (HB0.out _ _).trans (hb1.mono (by simp; omega))⟩

set_option maxRecDepth 100000 in
set_option maxHeartbeats 3200000 in
theorem total_bad (W H : Int) (a : Option Addr) (n c : Nat) (r : Int) (hr0 : r ≠ 0) (w : World)
    (hC : ∀ w1 : World, Below w.heap.size w w1 → Calls Tryz.prog 89 #[.agg #[.int .i64 W, .int .i64 H, .slice a n c]] w1 fun e w' => e = .returned (.int .i64 r) ∧ Below w1.heap.size w1 w') :
    Calls Tryz.prog 44 #[.agg #[.int .i64 W, .int .i64 H, .slice a n c]] w fun e w' =>
      e = .returned (.tuple #[.int .i64 0, .int .i64 r]) ∧ Below w.heap.size w w' := by
  have e0 : (r != 0) = true := by simp [hr0]
  have HC := Lib.hid hC
  clear hr0 hC
  have hB0 : ∀ o1, Below w.heap.size w (w.alloc o1) := fun o1 => (Below.refl _ w).alloc (Nat.le_refl _) _
  have HB0 := Lib.hid hB0
  clear hB0
  go_enter Tryz.func44, Tryz.ntmps44
  go_wp2_with (go_at_call 89; refine (HC.out _ (HB0.out _)).mono ?_; rintro e w1 ⟨rfl, hb1⟩)
  go_ret2
  exact ⟨rfl, (HB0.out _).trans (hb1.mono (by simp))⟩

set_option maxRecDepth 100000 in
set_option maxHeartbeats 3200000 in
theorem at_out (W H : Nat) (b o n c : Nat) (xs : List Nat) (ks : List Int) (w : World) (hA : RightMap w W H b o n xs ks) (hb : b < w.heap.size) (X Y : Int) (hin : insideB W H (X, Y) = false) :
    Calls Tryz.prog 43 #[.agg #[.int .i64 W, .int .i64 H, .slice (some ⟨b, o, none⟩) n c], .agg #[.int .i64 X, .int .i64 Y]] w fun e w' =>
      e = .returned (.tuple #[.float .f32 0, .int .i64 10]) ∧ Below w.heap.size w w' := by
  obtain ⟨W0, hW0⟩ : ∃ W0, (w.alloc (.cells #[.int .i64 W, .int .i64 H, .slice (some ⟨b, o, none⟩) n c] 70)).alloc (.cells #[.int .i64 X, .int .i64 Y] 99) = W0 := ⟨_, rfl⟩
  have hB0 : Below w.heap.size w W0 := by rw [← hW0]; exact ((Below.refl _ w).alloc (Nat.le_refl _) _).alloc (by simp) _
  have hS0 : W0.heap.size = w.heap.size + 2 := by rw [← hW0]; simp
  have a0 : W0.cell? ⟨w.heap.size, 0, none⟩ = some (.int .i64 W) := by rw [← hW0]; simp [go_sem]
  have a1 : W0.cell? ⟨w.heap.size, 1, none⟩ = some (.int .i64 H) := by rw [← hW0]; simp [go_sem]
  have a2 : W0.cell? ⟨w.heap.size, 2, none⟩ = some (.slice (some ⟨b, o, none⟩) n c) := by rw [← hW0]; simp [go_sem]
  have p0 : W0.cell? ⟨w.heap.size + 1, 0, none⟩ = some (.int .i64 X) := by rw [← hW0]; simp [go_sem]
  have p1 : W0.cell? ⟨w.heap.size + 1, 1, none⟩ = some (.int .i64 Y) := by rw [← hW0]; simp [go_sem]
  have K1 := Lib.hid (checkMap_any W H b o n c xs ks W0 (hA.below hB0 hb) (by omega))
  have K2 : Hid (∀ w1 : World, Below W0.heap.size W0 w1 → Calls Tryz.prog 91 #[.agg #[.int .i64 W, .int .i64 H, .slice (some ⟨b, o, none⟩) n c]] w1 fun e w' =>
      ∃ g, e = .returned (.agg #[.int .i64 W, .int .i64 H, .slice (some ⟨g, 0, none⟩) n n]) ∧ w1.heap.size ≤ g ∧ RowAt w' g n ks ∧ Below w1.heap.size w1 w') := Lib.hid (fun w1 h => by
    have h1 := h.size
    have h2 := hB0.trans (h.mono (by omega))
    exact grid_row W H b o n c xs ks w1 (hA.below h2 hb).toWords (by omega))
  have HB0 := Lib.hid hB0
  have HS0 := Lib.hid hS0
  clear hA hB0
  go_enter Tryz.func43, Tryz.ntmps43
  go_upto_region 1 with fail
  try rw [hW0]
  clear hW0
  go_wp2_with (first
    | ((go_at_call 89; refine K1.out.mono ?_; rintro e w1 ⟨rfl, hb1⟩
        have hs1 := hb1.size
        have a0' := (hb1.cell (p := ⟨w.heap.size, 0, none⟩) (by show w.heap.size < _; omega)).trans a0
        have a1' := (hb1.cell (p := ⟨w.heap.size, 1, none⟩) (by show w.heap.size < _; omega)).trans a1
        have a2' := (hb1.cell (p := ⟨w.heap.size, 2, none⟩) (by show w.heap.size < _; omega)).trans a2
        have K3 := Lib.hid (K2.out w1 hb1)))
    | ((go_at_call 91; refine K3.out.mono ?_; rintro e w2 ⟨ga, rfl, hga, hRA, hb2⟩
        have hs2 := hb2.size
        obtain ⟨W3, hW3⟩ : ∃ W3, w2.alloc (.cells #[.int .i64 W, .int .i64 H, .slice (some ⟨ga, 0, none⟩) n n] 162) = W3 := ⟨_, rfl⟩
        have hB23 : Below w2.heap.size w2 W3 := by rw [← hW3]; exact (Below.refl _ _).alloc (Nat.le_refl _) _
        have hS3 : W3.heap.size = w2.heap.size + 1 := by rw [← hW3]; simp
        have hB3 : Below W0.heap.size W0 W3 := (hb1.trans (hb2.mono hs1)).trans (hB23.mono (by omega))
        have g0 : W3.cell? ⟨w2.heap.size, 0, none⟩ = some (.int .i64 W) := by rw [← hW3]; simp [go_sem]
        have g1 : W3.cell? ⟨w2.heap.size, 1, none⟩ = some (.int .i64 H) := by rw [← hW3]; simp [go_sem]
        have g2 : W3.cell? ⟨w2.heap.size, 2, none⟩ = some (.slice (some ⟨ga, 0, none⟩) n n) := by rw [← hW3]; simp [go_sem]
        have p0' := (hB3.cell (p := ⟨w.heap.size + 1, 0, none⟩) (by show w.heap.size + 1 < _; omega)).trans p0
        have p1' := (hB3.cell (p := ⟨w.heap.size + 1, 1, none⟩) (by show w.heap.size + 1 < _; omega)).trans p1
        have HB3 := Lib.hid hB3
        clear hRA hB23 hb2 hB3 a0 a1 a2 a0' a1' a2' hb1))
    | ((go_at_call 120; refine (has_any W H X Y _ _ _ W3).mono ?_; rintro e w4 ⟨rfl, hb4⟩
        have HB4 := Lib.hid (HB3.out.trans (hb4.mono (by omega)))
        clear hb4)))
  go_ret2
  exact ⟨rfl, HB0.out.trans (HB4.out.mono (by have := HS0.out; omega))⟩

theorem lightAt_all (W H : Int) (a : Option Addr) (n c : Nat) (xs : List Nat) (X Y : Int) (w : World) (hM : AnyMap w a n c xs) :
    Calls Tryz.prog 43 #[.agg #[.int .i64 W, .int .i64 H, .slice a n c], .agg #[.int .i64 X, .int .i64 Y]] w fun e w' =>
      e = .returned (.tuple #[.float .f32 (if atErr W H X Y n xs = 0 then smpOf (atK W X Y xs) else 0), .int .i64 (atErr W H X Y n xs)]) ∧ Below w.heap.size w w' := by
  by_cases h0 : mapErr W H n xs = 0
  · obtain ⟨b, o, rfl, hb, hR⟩ := hM.rightK h0
    obtain ⟨Wn, rfl⟩ := Int.eq_ofNat_of_zero_le (show 0 ≤ W by have := hR.wid; omega)
    obtain ⟨Hn, rfl⟩ := Int.eq_ofNat_of_zero_le (show 0 ≤ H by have := hR.hei; omega)
    unfold atErr
    rw [if_pos h0]
    by_cases hi : inPlace Wn Hn X Y
    · rw [if_pos hi, if_pos rfl]
      obtain ⟨i1, i2, i3, i4⟩ := hi
      obtain ⟨Xn, rfl⟩ := Int.eq_ofNat_of_zero_le i1
      obtain ⟨Yn, rfl⟩ := Int.eq_ofNat_of_zero_le i3
      have h := lightAt_any Wn Hn b o n c xs (xs.map kOf) w hR hb Xn Yn (by omega) (by omega)
      have e : (xs.map kOf)[Yn * Wn + Xn]?.getD 0 = atK Wn Xn Yn xs := by
        have hN : Wn * Hn = n := by have := hR.area; exact_mod_cast this
        have hlt : Yn * Wn + Xn < n := idx_lt (p := (Xn, Yn)) (by omega) (by omega) hN
        have hl := hM.len
        unfold atK
        have e1 : ((Yn : Int) * (Wn : Int) + (Xn : Int)).toNat = Yn * Wn + Xn := by
          have e2 : (Yn : Int) * (Wn : Int) = ((Yn * Wn : Nat) : Int) := by push_cast; rfl
          rw [e2]; omega
        rw [e1, List.getElem?_map, List.getElem?_eq_getElem (by omega)]; rfl
      rw [e] at h
      exact h
    · rw [if_neg hi, if_neg (by decide)]
      refine at_out Wn Hn b o n c xs (xs.map kOf) w hR hb X Y ?_
      unfold inPlace at hi
      simp [insideB]
      omega
  · unfold atErr
    rw [if_neg h0, if_neg h0]
    exact at_bad W H a n c xs X Y _ h0 w fun w1 h1 => checkMap_map W H a n c xs w1 (hM.below h1 (Nat.le_refl _))

theorem lightTotal_all (W H : Int) (a : Option Addr) (n c : Nat) (xs : List Nat) (w : World) (hM : AnyMap w a n c xs) :
    Calls Tryz.prog 44 #[.agg #[.int .i64 W, .int .i64 H, .slice a n c]] w fun e w' =>
      e = .returned (.tuple #[.int .i64 (if mapErr W H n xs = 0 then (xs.map kOf).sum else 0), .int .i64 (mapErr W H n xs)]) ∧ Below w.heap.size w w' := by
  by_cases h0 : mapErr W H n xs = 0
  · obtain ⟨b, o, rfl, hb, hR⟩ := hM.rightK h0
    rw [if_pos h0, h0]
    exact total_any W H b o n c xs (xs.map kOf) w hR hb
  · rw [if_neg h0]
    exact total_bad W H a n c _ h0 w fun w1 h1 => checkMap_map W H a n c xs w1 (hM.below h1 (Nat.le_refl _))
end Go.Proofs.YthmaoeajbmfmaaaGreatDoor

/-
  What a stream of bytes gives as a map: its error, and the integers of its samples.
-/
namespace Go.Proofs.YthmaoeajbmfmaaaGreatDoor
open Go.RowKit
set_option linter.unusedVariables false

def unW (S : List Int) : Int := byteAt S 4
def unH (S : List Int) : Int := byteAt S 5
/-- How many samples a stream tells. -/
def unN (S : List Int) : Nat := ((unW S).toNat * (unH S).toNat)
def unEnd (S : List Int) : Nat := 6 + 4 * unN S
def magicL : List Int := [76, 77, 65, 80]
def unErr0 (S : List Int) : Int :=
  if S.length < 4 then 28 else if S.take 4 ≠ magicL then 1 else if S.length < 6 then 28 else if S.length < unEnd S + 4 then 28 else if unEnd S + 4 < S.length then 2
  else if numOf (S.drop (unEnd S)) ≠ chkOf (S.take (unEnd S)) then 27 else 0
def quad (S : List Int) (i : Nat) : List Int := (S.drop (6 + 4 * i)).take 4
def wordAt (S : List Int) (i : Nat) : Nat := (numOf (quad S i)).toNat
def unXs (S : List Int) : List Nat := (List.range (unN S)).map (wordAt S)
def zeroErr (x : Nat) : Int := if x = 2147483648 then 1 else 0
def unErr (S : List Int) : Int :=
  if unErr0 S = 0 then if mapErr (unW S) (unH S) (unN S) (unXs S) = 0 then firstNZ ((unXs S).map zeroErr) else mapErr (unW S) (unH S) (unN S) (unXs S) else unErr0 S
def unErrN (S : List Int) (n : Nat) : Int := if 400000 < n then 26 else unErr S
def unL (S : List Int) : List Int := (unXs S).map kOf

theorem quad_bytes {S : List Int} {n : Nat} (h : BytesV S n) (i : Nat) (hi : 6 + 4 * i + 4 ≤ n) : (quad S i).length = 4 ∧ ∀ j, j < 4 → 0 ≤ (quad S i)[j]?.getD 0 ∧ (quad S i)[j]?.getD 0 ≤ 255 := by
  have hl : (quad S i).length = 4 := by unfold quad; rw [List.length_take, List.length_drop, h.1]; omega
  refine ⟨hl, fun j hj => ?_⟩
  rw [List.getElem?_eq_getElem (by omega)]
  exact h.2 _ (List.mem_of_mem_drop (List.mem_of_mem_take (List.getElem_mem _)))
theorem list4 {F : List Int} (h : F.length = 4) : ∃ a b c d, F = [a, b, c, d] := by
  match F, h with
  | [a, b, c, d], _ => exact ⟨a, b, c, d, rfl⟩
theorem numOf_4 {F : List Int} (h : F.length = 4) (hb : ∀ j, j < 4 → 0 ≤ F[j]?.getD 0 ∧ F[j]?.getD 0 ≤ 255) : 0 ≤ numOf F ∧ numOf F ≤ 4294967295 := by
  obtain ⟨a, b, c, d, rfl⟩ := list4 h
  have h0 := hb 0 (by omega); have h1 := hb 1 (by omega); have h2 := hb 2 (by omega); have h3 := hb 3 (by omega)
  simp at h0 h1 h2 h3
  simp [numOf]
  omega
theorem word_bd {S : List Int} {n : Nat} (h : BytesV S n) (i : Nat) (hi : 6 + 4 * i + 4 ≤ n) : wordAt S i < 2 ^ 32 ∧ numOf (quad S i) = (wordAt S i : Int) := by
  obtain ⟨h1, h2⟩ := quad_bytes h i hi
  have := numOf_4 h1 h2
  unfold wordAt
  omega
theorem unXs_len (S : List Int) : (unXs S).length = unN S := by simp [unXs]
theorem unXs_get (S : List Int) (i : Nat) (hi : i < unN S) : (unXs S)[i]?.getD 0 = wordAt S i := by
  unfold unXs; rw [List.getElem?_map, List.getElem?_range hi]; rfl
theorem unXs_take (S : List Int) (k : Nat) (hk : k < unN S) : (unXs S).take (k + 1) = (unXs S).take k ++ [wordAt S k] := by
  rw [List.take_succ_eq_append_getElem (by rw [unXs_len]; exact hk)]
  congr 2
  have h := unXs_get S k hk
  rw [List.getElem?_eq_getElem (by rw [unXs_len]; exact hk)] at h
  exact h
/-- Where a stream has no error, a word is the one that its integer gives. -/
theorem un_smpOf {S : List Int} {n : Nat} (hS : BytesV S n) (h0 : unErr S = 0) (hn : unEnd S + 4 ≤ n) :
    mapErr (unW S) (unH S) (unN S) (unXs S) = 0 ∧ (∀ j, j < unN S → (unXs S)[j]?.getD 0 = smpOf ((unL S)[j]?.getD 0)) ∧ ∀ j, j < unN S → ((unL S)[j]?.getD 0).natAbs ≤ 16384 := by
  have e0 : unErr0 S = 0 := by
    refine Classical.byContradiction fun h => ?_
    unfold unErr at h0
    rw [if_neg h] at h0
    exact h h0
  have e1 : mapErr (unW S) (unH S) (unN S) (unXs S) = 0 := by
    refine Classical.byContradiction fun h => ?_
    unfold unErr at h0
    rw [if_pos e0, if_neg h] at h0
    exact h h0
  have e2 : firstNZ ((unXs S).map zeroErr) = 0 := by
    unfold unErr at h0
    rwa [if_pos e0, if_pos e1] at h0
  have hs := mapErr_smps (unXs_len S) e1
  have hl := unXs_len S
  have hL : ∀ j, j < unN S → (unL S)[j]?.getD 0 = kOf ((unXs S)[j]?.getD 0) := fun j hj => by
    unfold unL
    rw [List.getElem?_map, List.getElem?_eq_getElem (by omega)]; rfl
  have hz : ∀ j, j < unN S → (unXs S)[j]?.getD 0 ≠ 2147483648 := fun j hj he => by
    have h := firstNZ_all e2 (zeroErr ((unXs S)[j]?.getD 0)) (by
      refine List.mem_map.2 ⟨(unXs S)[j]?.getD 0, ?_, rfl⟩
      rw [List.getElem?_eq_getElem (by omega)]
      exact List.getElem_mem _)
    rw [he] at h
    exact absurd h (by decide)
  refine ⟨e1, fun j hj => ?_, fun j hj => by rw [hL j hj]; exact (smp_kOf (hs j hj)).2⟩
  obtain ⟨k1, k2⟩ := smp_kOf (hs j hj)
  have hx : (unXs S)[j]?.getD 0 < 2 ^ 32 := by
    rw [unXs_get S j hj]
    exact (word_bd hS j (by unfold unEnd at hn; omega)).1
  rw [hL j hj]
  have hz' := hz j hj
  generalize (unXs S)[j]?.getD 0 = x at k1 k2 hx hz'
  by_cases hk : kOf x = 0
  · rw [hk] at k1 ⊢
    rw [smpOf_zero]
    rcases smp_zero hx k1 with h | h
    · exact h
    · exact absurd h hz'
  · exact smp_word hx k1 hk (by omega) (by
      have := floatBits_wf (smpOf_run (kOf x) (by omega))
      simpa [Lit.wf] using this)
end Go.Proofs.YthmaoeajbmfmaaaGreatDoor

/-
  Contracts of streamSize and of appendNumber: four bytes of a number behind a row of bytes that the caller owns.
-/
namespace Go.Proofs.YthmaoeajbmfmaaaGreatDoor
open Go.RowKit
set_option linter.unusedVariables false

/-- The four bytes of a number, the greatest one first. -/
def wordOf (x : Int) : List Int := [byt x 3, byt x 2, byt x 1, byt x 0]
theorem blk_set4 {w : World} {B : Nat} {T : TypeId} {x y z u : Value} (h : w.heap[B]? = some (.cells #[x, y, z, u] T (0, 0))) (a b c d : Value) :
    ((((w.setCell ⟨B, 3, none⟩ d).setCell ⟨B, 2, none⟩ c).setCell ⟨B, 1, none⟩ b).setCell ⟨B, 0, none⟩ a).heap[B]? = some (.cells #[a, b, c, d] T (0, 0)) := by
  simp only [World.setCell, Array.getElem?_modify, if_true, h, Option.map_some]
  simp
theorem Tryz.infoByte : (Tryz.prog.info? 5).map (fun i => (i.zero, i.size, i.bytes)) = some (some (.int .u8 0), 1, 1) := by kernel_rfl

set_option maxHeartbeats 800000 in
theorem streamSize_any (W H : Nat) (hW : W ≤ 64) (hH : H ≤ 64) (w : World) :
    Calls Tryz.prog 90 #[.int .i64 W, .int .i64 H] w fun e w' => e = .returned (.int .i64 ((10 + 4 * (W * H) : Nat) : Int)) ∧ w = w' := by
  have hm : W * H ≤ 64 * 64 := Nat.mul_le_mul hW hH
  have e1 : 4 * (W : Int) * (H : Int) = ((4 * (W * H) : Nat) : Int) := by push_cast; rw [Int.mul_assoc]
  have i1 : IntKind.i64.wrap (4 * (W : Int)) = 4 * (W : Int) := IntWalk.i64_in _ ⟨by omega, by omega⟩
  obtain ⟨q, hq⟩ : ∃ q : Nat, 4 * (W * H) = q := ⟨_, rfl⟩
  rw [hq] at e1
  have hq4 : q ≤ 16384 := by omega
  have e2 : ((10 + 4 * (W * H) : Nat) : Int) = 6 + (q : Int) + 4 := by omega
  rw [e2]
  have i2 : IntKind.i64.wrap (q : Int) = (q : Int) := IntWalk.i64_in _ ⟨by omega, by omega⟩
  have i3 : IntKind.i64.wrap (6 + (q : Int)) = 6 + (q : Int) := IntWalk.i64_in _ ⟨by omega, by omega⟩
  have i4 : IntKind.i64.wrap (6 + (q : Int) + 4) = 6 + (q : Int) + 4 := IntWalk.i64_in _ ⟨by omega, by omega⟩
  clear hq e2 hm
  go_enter Tryz.func90, Tryz.ntmps90
  go_wp2
  go_ret
  exact ⟨rfl, rfl⟩

set_option maxRecDepth 100000 in
set_option maxHeartbeats 3200000 in
theorem appendNumber_any (B : Nat) (v : Value) (n : Nat) (xs : List Value) (x : Int) (h0 : 0 ≤ x) (h1 : x ≤ 4294967295) (hn : n ≤ 100000) (w : World) (h : w.ownsRow B 5 1 v n xs) (hB : B ≤ w.heap.size) :
    Calls Tryz.prog 92 #[v, .int .i64 x] w fun e w' => ∃ v', e = .returned v' ∧ w'.ownsRow B 5 1 v' (n + 4) (xs ++ (wordOf x).map (Value.int .u8)) ∧ Below B w w' ∧ (∀ k, k < w.heap.size → v.ownBlock ≠ some k → w'.heap[k]? = w.heap[k]?) := by
  obtain ⟨i0, hi, hz0, hz1, hz2⟩ := info_parts Tryz.infoByte
  obtain ⟨ao, c, rfl⟩ := owns_slice h
  obtain ⟨W1, hW1⟩ : ∃ W1, w.alloc (.cells #[.int .u8 0, .int .u8 0, .int .u8 0, .int .u8 0] 119) = W1 := ⟨_, rfl⟩
  have hB1 : Below w.heap.size w W1 := by rw [← hW1]; exact (Below.refl _ w).alloc (Nat.le_refl _) _
  have b1 : W1.heap[w.heap.size]? = some (.cells #[.int .u8 0, .int .u8 0, .int .u8 0, .int .u8 0] 119 (0, 0)) := by rw [← hW1]; exact blk_alloc_new _ _
  have f1 : ∀ j, W1.frozen? ⟨w.heap.size, j, none⟩ = false := fun j => by simp [World.frozen?, b1]
  have K := Lib.hid (write4_any W1 w.heap.size 0 4 x h0 h1 (by rw [cell_of_row W1 _ 0 _ _ (0, 0) b1]; rfl) (by rw [cell_of_row W1 _ 1 _ _ (0, 0) b1]; rfl) (by rw [cell_of_row W1 _ 2 _ _ (0, 0) b1]; rfl) (by rw [cell_of_row W1 _ 3 _ _ (0, 0) b1]; rfl) (f1 0) (f1 1) (f1 2) (f1 3))
  have hO1 : W1.ownsRow B 5 1 (.slice ao n c) n xs := by rw [← hW1]; exact h.alloc _
  have hlt := h.lt
  have hO2 : ((((W1.setCell ⟨w.heap.size, 3, none⟩ (.int .u8 (byt x 0))).setCell ⟨w.heap.size, 2, none⟩ (.int .u8 (byt x 1))).setCell ⟨w.heap.size, 1, none⟩ (.int .u8 (byt x 2))).setCell ⟨w.heap.size, 0, none⟩ (.int .u8 (byt x 3))).ownsRow B 5 1 (.slice ao n c) n xs := by
    have nb : (Value.slice ao n c).ownBlock = none ∨ (Value.slice ao n c).ownBlock ≠ some w.heap.size := by
      cases e : (Value.slice ao n c).ownBlock with
      | none => exact .inl rfl
      | some k => exact .inr fun e' => by have := (hlt k e).2; have := Option.some.inj e'; omega
    exact (((hO1.kept (OnlyBlk.set _ _ _ _).1 nb).kept (OnlyBlk.set _ _ _ _).1 nb).kept (OnlyBlk.set _ _ _ _).1 nb).kept (OnlyBlk.set _ _ _ _).1 nb
  have b2 := blk_set4 b1 (.int .u8 (byt x 3)) (.int .u8 (byt x 2)) (.int .u8 (byt x 1)) (.int .u8 (byt x 0))
  have hB2 : Below w.heap.size w ((((W1.setCell ⟨w.heap.size, 3, none⟩ (.int .u8 (byt x 0))).setCell ⟨w.heap.size, 2, none⟩ (.int .u8 (byt x 1))).setCell ⟨w.heap.size, 1, none⟩ (.int .u8 (byt x 2))).setCell ⟨w.heap.size, 0, none⟩ (.int .u8 (byt x 3))) :=
    ((((hB1.setCell (p := ⟨w.heap.size, 3, none⟩) (Nat.le_refl _) _).setCell (p := ⟨w.heap.size, 2, none⟩) (Nat.le_refl _) _).setCell (p := ⟨w.heap.size, 1, none⟩) (Nat.le_refl _) _).setCell (p := ⟨w.heap.size, 0, none⟩) (Nat.le_refl _) _)
  obtain ⟨W2, hW2⟩ : ∃ W2, ((((W1.setCell ⟨w.heap.size, 3, none⟩ (.int .u8 (byt x 0))).setCell ⟨w.heap.size, 2, none⟩ (.int .u8 (byt x 1))).setCell ⟨w.heap.size, 1, none⟩ (.int .u8 (byt x 2))).setCell ⟨w.heap.size, 0, none⟩ (.int .u8 (byt x 3))) = W2 := ⟨_, rfl⟩
  rw [hW2] at hO2 b2 hB2
  have K' : Hid (Calls Tryz.prog 146 #[.slice (some ⟨w.heap.size, 0, none⟩) 4 4, .int .i64 x] W1 fun e w' => e = .returned (.tuple #[]) ∧ w' = W2) := Lib.hid (by
    have k := K.out
    simp only [Nat.zero_add] at k
    rw [hW2] at k
    exact k)
  have HC : Hid (∀ j u, ((wordOf x).map (Value.int .u8))[j]? = some u → W2.cell? ((⟨w.heap.size, 0, none⟩ : Addr).add j) = some u) := Lib.hid fun j u hu => by
    rw [Addr.add_mid, Nat.zero_add, cell_of_row W2 _ j _ _ (0, 0) b2]
    simpa [wordOf] using hu
  have HO2 := Lib.hid hO2
  have HB2 := Lib.hid hB2
  clear K hW2 f1 b1 b2 hO1 hO2 hB1 hB2 h
  go_enter Tryz.func92, Tryz.ntmps92
  go_upto_region 2 with fail
  try rw [hW1]
  clear hW1
  go_wp2_with (first
    | (go_at_call 146; refine K'.out.mono ?_; rintro e w' ⟨rfl, rfl⟩)
    | (at_builtin; refine wpList_append_own _ rfl (.tmp 9) (.tmp 10) 45 rfl B 5 i0 (.int .u8 0) 1 1 Tryz.underlying45 hi hz0 hz1 hz2 rfl (by decide) _ _ _ rfl HO2.out ⟨w.heap.size, 0, none⟩ 4 4 ((wordOf x).map (Value.int .u8)) rfl rfl HC.out (by intro u hu; obtain ⟨y, _, rfl⟩ := List.mem_map.1 hu; rfl) (by unfold maxLen; omega) (by omega) (by have := HB2.out.size; omega) ?_; intro v' w3 hown3 hgrow3 _))
  go_ret
  exact ⟨_, rfl, hown3, (HB2.out.mono hB).grown hgrow3 (by have := HB2.out.size; omega) (fun k hk => (HO2.out.lt k hk).1), fun k hk hne => (hgrow3.block k (by have := HB2.out.size; omega) (fun e => hne e.symm)).trans (HB2.out.block k hk)⟩
end Go.Proofs.YthmaoeajbmfmaaaGreatDoor

/-
  Contracts of bytes.Equal and bytes.HasPrefix at slices of bytes, of streamSize at any two bytes, and of checkStream at any bytes.
-/
namespace Go.Proofs.YthmaoeajbmfmaaaGreatDoor
open Go.RowKit
set_option linter.unusedVariables false
set_option linter.unusedSimpArgs false

theorem str_eq {xs ys : List Int} (hx : ∀ x ∈ xs, 0 ≤ x ∧ x ≤ 255) (hy : ∀ y ∈ ys, 0 ≤ y ∧ y ≤ 255) : ((strOfNums xs).toList == (strOfNums ys).toList) = decide (xs = ys) := by
  rw [ByteArray.toList_eq, ByteArray.toList_eq, strOfNums_data, strOfNums_data]
  by_cases h : xs = ys
  · subst h; simp
  · rw [decide_eq_false h]
    refine beq_eq_false_iff_ne.2 fun e => h ?_
    clear h
    induction xs generalizing ys with
    | nil =>
      cases ys with
      | nil => rfl
      | cons y ys => simp at e
    | cons x xs ih =>
      cases ys with
      | nil => simp at e
      | cons y ys =>
        simp only [List.map_cons, List.cons.injEq] at e
        obtain ⟨e1, e2⟩ := e
        have bx := hx x (by simp)
        have bY := hy y (by simp)
        have e3 : x = y := by
          have := congrArg UInt8.toNat e1
          simp [UInt8.toNat_ofNat'] at this
          omega
        rw [e3, ih (fun z hz => hx z (by simp [hz])) (fun z hz => hy z (by simp [hz])) e2]

theorem range_cells {w : World} {b q : Nat} {xs : List Int} (h : w.rangeAt b q (xs.map (Value.int .u8))) : ∀ i, i < xs.length → w.cell? ⟨b, q + i, none⟩ = some (.int .u8 (xs.getD i 0)) := fun i hi =>
  h i _ (by rw [List.getElem?_map, List.getElem?_eq_getElem hi, List.getD_eq_getElem?_getD, List.getElem?_eq_getElem hi]; rfl)
theorem range_take {w : World} {b q : Nat} {xs : List Int} (k : Nat) (h : w.rangeAt b q (xs.map (Value.int .u8))) : w.rangeAt b q ((xs.take k).map (Value.int .u8)) := fun i v hv => by
  refine h i v ?_
  rw [List.map_take, List.getElem?_take] at hv
  split at hv
  · exact hv
  · cases hv
theorem range_drop {w : World} {b q : Nat} {xs : List Int} (k : Nat) (h : w.rangeAt b q (xs.map (Value.int .u8))) : w.rangeAt b (q + k) ((xs.drop k).map (Value.int .u8)) := fun i v hv => by
  rw [List.map_drop, List.getElem?_drop] at hv
  have := h (k + i) v hv
  rwa [show q + k + i = q + (k + i) by omega]
theorem range_below {w w' : World} {B b q : Nat} {V : List Value} (h : w.rangeAt b q V) (hb : Below B w w') (hB : b < B) : w'.rangeAt b q V := fun i v hv => by
  rw [hb.cell (by exact hB)]; exact h i v hv

set_option maxHeartbeats 1600000 in
theorem bytesEqual_any (b q n c b2 q2 n2 c2 : Nat) (xs ys : List Int) (hx : xs.length = n) (hy : ys.length = n2) (bx : ∀ x ∈ xs, 0 ≤ x ∧ x ≤ 255) (bY : ∀ y ∈ ys, 0 ≤ y ∧ y ≤ 255) (w : World)
    (h1 : w.rangeAt b q (xs.map (Value.int .u8))) (h2 : w.rangeAt b2 q2 (ys.map (Value.int .u8))) :
    Calls Tryz.prog 173 #[.slice (some ⟨b, q, none⟩) n c, .slice (some ⟨b2, q2, none⟩) n2 c2] w fun e w' => e = .returned (.bool (decide (xs = ys))) ∧ w = w' := by
  have c1 := run_convert_bytes_arg (P := Tryz.prog) w 45 5 Tryz.underlying45 Tryz.underlying5 b q n c xs hx (by rw [← hx]; exact range_cells h1) 9 Tryz.underlying9
  have k2 := run_convert_bytes_arg (P := Tryz.prog) w 45 5 Tryz.underlying45 Tryz.underlying5 b2 q2 n2 c2 ys hy (by rw [← hy]; exact range_cells h2) 9 Tryz.underlying9
  have e1 := str_eq bx bY
  obtain ⟨r, hr⟩ : ∃ r, decide (xs = ys) = r := ⟨_, rfl⟩
  obtain ⟨s, hs⟩ : ∃ s, strOfNums xs = s := ⟨_, rfl⟩
  obtain ⟨t, ht⟩ : ∃ t, strOfNums ys = t := ⟨_, rfl⟩
  rw [hr, hs, ht] at e1
  rw [hs] at c1
  rw [ht] at k2
  rw [hr]
  clear hr hs ht hx hy bx bY h1 h2
  go_enter Tryz.func173, Tryz.ntmps173
  go_wp2
  go_ret
  exact ⟨rfl, rfl⟩

set_option maxHeartbeats 1600000 in
theorem hasPrefix_any (S : List Int) (b q n c b2 : Nat) (hS : BytesV S n) (hn : 4 ≤ n) (hm : n ≤ 100000) (hcp : n ≤ c) (hcq : c ≤ 9223372036854775807) (w : World)
    (h1 : w.rangeAt b q (S.map (Value.int .u8))) (h2 : w.rangeAt b2 0 (magicL.map (Value.int .u8))) :
    Calls Tryz.prog 150 #[.slice (some ⟨b, q, none⟩) n c, .slice (some ⟨b2, 0, none⟩) 4 4] w fun e w' => e = .returned (.bool (decide (S.take 4 = magicL))) ∧ w = w' := by
  have K := Lib.hid (bytesEqual_any b q 4 c b2 0 4 4 (S.take 4) magicL (by rw [List.length_take, hS.1]; omega) rfl (fun x hx => hS.2 x (List.mem_of_mem_take hx)) (by decide) w (range_take 4 h1) h2)
  have i1 : (4 : Int) ≤ (n : Int) := by omega
  have i2 : (n : Int) ≤ 100000 := by omega
  have i3 : (4 : Int) ≤ (c : Int) := by omega
  have i4 : (c : Int) ≤ 9223372036854775807 := by omega
  have i5 : 4 ≤ c := by omega
  clear h1 h2 hS
  go_enter Tryz.func150, Tryz.ntmps150
  go_wp2_with (go_at_call 173; refine K.out.mono ?_; rintro e w' ⟨rfl, rfl⟩)
  go_ret
  exact ⟨rfl, rfl⟩

set_option maxHeartbeats 800000 in
theorem streamSize_wide (W H : Nat) (hW : W ≤ 255) (hH : H ≤ 255) (w : World) :
    Calls Tryz.prog 90 #[.int .i64 W, .int .i64 H] w fun e w' => e = .returned (.int .i64 ((10 + 4 * (W * H) : Nat) : Int)) ∧ w = w' := by
  have hm : W * H ≤ 255 * 255 := Nat.mul_le_mul hW hH
  have e1 : 4 * (W : Int) * (H : Int) = ((4 * (W * H) : Nat) : Int) := by push_cast; rw [Int.mul_assoc]
  have i1 : IntKind.i64.wrap (4 * (W : Int)) = 4 * (W : Int) := IntWalk.i64_in _ ⟨by omega, by omega⟩
  obtain ⟨q, hq⟩ : ∃ q : Nat, 4 * (W * H) = q := ⟨_, rfl⟩
  rw [hq] at e1
  have hq4 : q ≤ 260100 := by omega
  have e2 : ((10 + 4 * (W * H) : Nat) : Int) = 6 + (q : Int) + 4 := by omega
  rw [e2]
  have i2 : IntKind.i64.wrap (q : Int) = (q : Int) := IntWalk.i64_in _ ⟨by omega, by omega⟩
  have i3 : IntKind.i64.wrap (6 + (q : Int)) = 6 + (q : Int) := IntWalk.i64_in _ ⟨by omega, by omega⟩
  have i4 : IntKind.i64.wrap (6 + (q : Int) + 4) = 6 + (q : Int) + 4 := IntWalk.i64_in _ ⟨by omega, by omega⟩
  clear hq e2 hm
  go_enter Tryz.func90, Tryz.ntmps90
  go_wp2
  go_ret
  exact ⟨rfl, rfl⟩

theorem checkStream_long (a : Option Addr) (n cp : Nat) (hm : 400000 < n) (hl : n ≤ 1000000) (w : World) :
    Calls Tryz.prog 97 #[.slice a n cp] w fun e w' => e = .returned (.int .i64 26) ∧ Below w.heap.size w w' := by
  have i1 : (400000 : Int) < (n : Int) := by omega
  have i2 : (n : Int) ≤ 1000000 := by omega
  go_enter Tryz.func97, Tryz.ntmps97
  go_wp2
  go_ret
  exact ⟨rfl, Below.refl _ _⟩
theorem checkStream_short (a : Option Addr) (n cp : Nat) (hm : n < 4) (w : World) :
    Calls Tryz.prog 97 #[.slice a n cp] w fun e w' => e = .returned (.int .i64 28) ∧ Below w.heap.size w w' := by
  have i1 : ¬ ((400000 : Int) < (n : Int)) := by omega
  have i2 : (n : Int) < 4 := by omega
  go_enter Tryz.func97, Tryz.ntmps97
  go_wp2
  go_ret
  exact ⟨rfl, Below.refl _ _⟩

/-- The literal's row, made of a constant. -/
theorem magic_row (w : World) : (w.alloc (.cells #[.int .u8 76, .int .u8 77, .int .u8 65, .int .u8 80] 5 (4, 5))).rangeAt w.heap.size 0 (magicL.map (Value.int .u8)) := fun i v hv => by
  rw [Nat.zero_add, cell_of_row _ _ i _ _ (4, 5) (heap_alloc_new w _)]
  simpa [magicL] using hv
end Go.Proofs.YthmaoeajbmfmaaaGreatDoor

/-
  Contract of checkStream for any bytes.
-/
namespace Go.Proofs.YthmaoeajbmfmaaaGreatDoor
open Go.RowKit
set_option linter.unusedVariables false
set_option linter.unusedSimpArgs false

theorem magic_const (w : World) : (convert 45 45 (.slice (some ⟨w.heap.size, 0, none⟩) 4 4)).run Tryz.prog (w.alloc (.cells #[.int .u8 76, .int .u8 77, .int .u8 65, .int .u8 80] 5)) = .ok (.slice (some ⟨w.heap.size, 0, none⟩) 4 4) (w.alloc (.cells #[.int .u8 76, .int .u8 77, .int .u8 65, .int .u8 80] 5 (4, 5))) :=
  Lib.run_convert_bytes_const w 45 5 #[.int .u8 76, .int .u8 77, .int .u8 65, .int .u8 80] 4 4 Tryz.underlying45 Tryz.underlying5

set_option maxHeartbeats 3200000 in
theorem checkStream_form (S : List Int) (b q n cp : Nat) (hS : BytesV S n) (h4 : 4 ≤ n) (hn : n ≤ 400) (hcp : n ≤ cp) (hcq : cp ≤ 9223372036854775807) (w : World) (hb : b < w.heap.size) (hr : w.rangeAt b q (S.map (Value.int .u8))) (hne : S.take 4 ≠ magicL) :
    Calls Tryz.prog 97 #[.slice (some ⟨b, q, none⟩) n cp] w fun e w' => e = .returned (.int .i64 1) ∧ Below w.heap.size w w' := by
  have i1 : ¬ ((400000 : Int) < (n : Int)) := by omega
  have i2 : ¬ ((n : Int) < 4) := by omega
  obtain ⟨W1, hW1⟩ : ∃ W1, w.alloc (.cells #[.int .u8 76, .int .u8 77, .int .u8 65, .int .u8 80] 5 (4, 5)) = W1 := ⟨_, rfl⟩
  have hB1 : Below w.heap.size w W1 := by rw [← hW1]; exact (Below.refl _ w).alloc (Nat.le_refl _) _
  have kc := magic_const w
  have hm := magic_row w
  rw [hW1] at kc hm
  have K := hasPrefix_any S b q n cp w.heap.size hS h4 (by omega) hcp hcq W1 (range_below hr hB1 hb) hm
  rw [decide_eq_false hne] at K
  have HK := Lib.hid K
  have HB := Lib.hid hB1
  clear K hB1 hW1 hr hm hS hne
  go_enter Tryz.func97, Tryz.ntmps97
  go_wp2_with (go_at_call 150; refine HK.out.mono ?_; rintro e w' ⟨rfl, rfl⟩)
  go_ret
  exact ⟨rfl, HB.out⟩

set_option maxHeartbeats 3200000 in
theorem checkStream_head (S : List Int) (b q n cp : Nat) (hS : BytesV S n) (h4 : 4 ≤ n) (hn : n < 6) (hcp : n ≤ cp) (hcq : cp ≤ 9223372036854775807) (w : World) (hb : b < w.heap.size) (hr : w.rangeAt b q (S.map (Value.int .u8))) (hne : S.take 4 = magicL) :
    Calls Tryz.prog 97 #[.slice (some ⟨b, q, none⟩) n cp] w fun e w' => e = .returned (.int .i64 28) ∧ Below w.heap.size w w' := by
  have i1 : ¬ ((400000 : Int) < (n : Int)) := by omega
  have i2 : ¬ ((n : Int) < 4) := by omega
  have i3 : (n : Int) < 6 := by omega
  obtain ⟨W1, hW1⟩ : ∃ W1, w.alloc (.cells #[.int .u8 76, .int .u8 77, .int .u8 65, .int .u8 80] 5 (4, 5)) = W1 := ⟨_, rfl⟩
  have hB1 : Below w.heap.size w W1 := by rw [← hW1]; exact (Below.refl _ w).alloc (Nat.le_refl _) _
  have kc := magic_const w
  have hm := magic_row w
  rw [hW1] at kc hm
  have K := hasPrefix_any S b q n cp w.heap.size hS h4 (by omega) hcp hcq W1 (range_below hr hB1 hb) hm
  rw [decide_eq_true hne] at K
  have HK := Lib.hid K
  have HB := Lib.hid hB1
  clear K hB1 hW1 hr hm hS hne
  go_enter Tryz.func97, Tryz.ntmps97
  go_upto_region 7 with (go_at_call 150; refine HK.out.mono ?_; rintro e w' ⟨rfl, rfl⟩)
  go_quiet (fail)
  go_wp2
  go_ret
  exact ⟨rfl, below_drewN HB.out _⟩

set_option maxRecDepth 100000 in
set_option maxHeartbeats 6400000 in
theorem checkStream_body (S : List Int) (b q n cp W H : Nat) (hS : BytesV S n) (eW : S[4]?.getD 0 = (W : Int)) (eH : S[5]?.getD 0 = (H : Int)) (h6 : 6 ≤ n) (hn : n ≤ 400) (hcp : n ≤ cp) (hcq : cp ≤ 9223372036854775807) (w : World) (hb : b < w.heap.size) (hr : w.rangeAt b q (S.map (Value.int .u8))) (hne : S.take 4 = magicL) :
    Calls Tryz.prog 97 #[.slice (some ⟨b, q, none⟩) n cp] w fun e w' => e = .returned (.int .i64 (if n < 10 + 4 * (W * H) then 28 else if 10 + 4 * (W * H) < n then 2 else if numOf (S.drop (n - 4)) ≠ chkOf (S.take (n - 4)) then 27 else 0)) ∧ Below w.heap.size w w' := by
  have i1 : ¬ ((400000 : Int) < (n : Int)) := by omega
  have i2 : ¬ ((n : Int) < 4) := by omega
  have i3 : ¬ ((n : Int) < 6) := by omega
  have i4 : (4 : Int) < (n : Int) := by omega
  have i5 : (5 : Int) < (n : Int) := by omega
  have i6 : (n : Int) ≤ 400 := by omega
  obtain ⟨W1, hW1⟩ : ∃ W1, w.alloc (.cells #[.int .u8 76, .int .u8 77, .int .u8 65, .int .u8 80] 5 (4, 5)) = W1 := ⟨_, rfl⟩
  have hB1 : Below w.heap.size w W1 := by rw [← hW1]; exact (Below.refl _ w).alloc (Nat.le_refl _) _
  have kc := magic_const w
  have hm := magic_row w
  rw [hW1] at kc hm
  have hr1 := range_below hr hB1 hb
  have K := hasPrefix_any S b q n cp w.heap.size hS (by omega) (by omega) hcp hcq W1 hr1 hm
  rw [decide_eq_true hne] at K
  have HK := Lib.hid K
  have HB := Lib.hid hB1
  have hl := hS.1
  have bd : ∀ j, j < n → 0 ≤ S[j]?.getD 0 ∧ S[j]?.getD 0 ≤ 255 := fun j hj => by
    rw [List.getElem?_eq_getElem (by omega)]; exact hS.2 _ (List.getElem_mem _)
  have c4 : W1.cell? ⟨b, q + 4, none⟩ = some (.int .u8 (W : Int)) := by
    have := range_cells hr1 4 (by omega)
    rwa [List.getD_eq_getElem?_getD, eW] at this
  have c5 : W1.cell? ⟨b, q + 5, none⟩ = some (.int .u8 (H : Int)) := by
    have := range_cells hr1 5 (by omega)
    rwa [List.getD_eq_getElem?_getD, eH] at this
  have bW := (bd 4 (by omega)); rw [eW] at bW
  have bH := (bd 5 (by omega)); rw [eH] at bH
  have hW : W ≤ 255 := by omega
  have hH : H ≤ 255 := by omega
  obtain ⟨bW0, bW1⟩ := bW
  obtain ⟨bH0, bH1⟩ := bH
  have wW : IntKind.i64.wrap (W : Int) = (W : Int) := IntWalk.i64_in _ ⟨by omega, by omega⟩
  have wH : IntKind.i64.wrap (H : Int) = (H : Int) := IntWalk.i64_in _ ⟨by omega, by omega⟩
  have KZ : Hid (∀ w1 : World, Calls Tryz.prog 90 #[.int .i64 W, .int .i64 H] w1 fun e w' => e = .returned (.int .i64 ((10 + 4 * (W * H) : Nat) : Int)) ∧ w1 = w') := Lib.hid (streamSize_wide W H hW hH)
  obtain ⟨E, hE⟩ : ∃ E : Nat, n = E + 4 := ⟨n - 4, by omega⟩
  have eE : n - 4 = E := by omega
  rw [eE]
  have eI : (n : Int) - 4 = (E : Int) := by omega
  have wI : IntKind.i64.wrap ((n : Int) - 4) = (E : Int) := by rw [eI]; exact IntWalk.i64_in _ ⟨by omega, by omega⟩
  have j1 : (E : Int) ≤ (n : Int) := by omega
  have j2 : (E : Int) ≤ (cp : Int) := by omega
  have j3 : (n : Int) ≤ (cp : Int) := by omega
  have j4 : E ≤ n := by omega
  have j5 : E ≤ cp := by omega
  have j6 : E < cp := by omega
  have j7 : (E : Int) < (cp : Int) := by omega
  have j8 : (E : Int) < (n : Int) := by omega
  have j9 : (0 : Int) ≤ (E : Int) := by omega
  have j10 : ¬ (cp = E) := by omega
  have KN : Hid (∀ w1 : World, Below w.heap.size w w1 → ∀ c', Calls Tryz.prog 98 #[.slice (some ⟨b, q + E, none⟩) (n - E) c'] w1 fun e w' => e = .returned (.int .i64 (numOf (S.drop E))) ∧ w1 = w') := Lib.hid fun w1 h c' => by
    refine readNumber_any b (q + E) (n - E) c' (S.drop E) w1 (by rw [List.length_drop, hl]) (by omega) (fun j hj => ?_) (fun j hj => ?_)
    · rw [List.getElem?_drop]; exact bd _ (by omega)
    · have := range_cells (range_drop E (range_below hr h hb)) j (by rw [List.length_drop, hl]; omega)
      rwa [List.getD_eq_getElem?_getD] at this
  have KC : Hid (∀ w1 : World, Below w.heap.size w w1 → ∀ c', Calls Tryz.prog 95 #[.slice (some ⟨b, q, none⟩) E c'] w1 fun e w' => e = .returned (.int .i64 (chkOf (S.take E))) ∧ w1 = w') := Lib.hid fun w1 h c' => by
    refine checksum_any b q E c' (S.take E) w1 (by rw [List.length_take, hl]; omega) (by omega) (fun j hj => ?_) (fun j hj => ?_)
    · rw [List.getElem?_take_of_lt hj]; exact bd _ (by omega)
    · have := range_cells (range_take E (range_below hr h hb)) j (by rw [List.length_take, hl]; omega)
      rwa [List.getD_eq_getElem?_getD] at this
  obtain ⟨Z, hZ⟩ : ∃ Z, 10 + 4 * (W * H) = Z := ⟨_, rfl⟩
  rw [hZ] at KZ ⊢
  obtain ⟨x, hx⟩ : ∃ x, numOf (S.drop E) = x := ⟨_, rfl⟩
  obtain ⟨y, hy⟩ : ∃ y, chkOf (S.take E) = y := ⟨_, rfl⟩
  rw [hx] at KN ⊢
  rw [hy] at KC ⊢
  have HE := Lib.hid hE
  have HI := Lib.hid wI
  clear K hB1 hW1 hr hm hS hne eW eH hr1 bd hl hZ hx hy hE wI eE eI
  have KQ : Hid (∀ w1 : World, Calls Tryz.prog 90 #[.int .i64 (IntKind.i64.wrap W), .int .i64 (IntKind.i64.wrap H)] w1 fun e w' => e = .returned (.int .i64 (Z : Int)) ∧ w' = w1) := Lib.hid fun w1 => by rw [wW, wH]; exact (KZ.out w1).mono fun e w' ⟨h1, h2⟩ => ⟨h1, h2.symm⟩
  have KQN : Hid (∀ w1 : World, Below w.heap.size w w1 → ∀ c', Calls Tryz.prog 98 #[.slice (some ⟨b, q + E, none⟩) (n - E) c'] w1 fun e w' => e = .returned (.int .i64 x) ∧ w' = w1) := Lib.hid fun w1 h c' => (KN.out w1 h c').mono fun e w' ⟨h1, h2⟩ => ⟨h1, h2.symm⟩
  have KQC : Hid (∀ w1 : World, Below w.heap.size w w1 → ∀ c', Calls Tryz.prog 95 #[.slice (some ⟨b, q, none⟩) E c'] w1 fun e w' => e = .returned (.int .i64 y) ∧ w' = w1) := Lib.hid fun w1 h c' => (KC.out w1 h c').mono fun e w' ⟨h1, h2⟩ => ⟨h1, h2.symm⟩
  clear KZ KN KC wW wH
  rcases Nat.lt_trichotomy n Z with hlt | heq | hgt
  · rw [if_pos hlt]
    have t1 : (n : Int) < (Z : Int) := by omega
    go_enter Tryz.func97, Tryz.ntmps97
    go_upto_region 7 with (go_at_call 150; refine HK.out.mono ?_; rintro e w' ⟨rfl, rfl⟩)
    go_quiet ((go_at_call 90; with_reducible exact Calls.quiet_of_same (KQ.out _)))
    go_wp2
    go_ret
    exact ⟨rfl, below_drewN HB.out _⟩
  · subst heq
    rw [if_neg (Nat.lt_irrefl _), if_neg (Nat.lt_irrefl _)]
    obtain ⟨r, hr⟩ : ∃ r : Int, (if x ≠ y then 27 else 0) = r := ⟨_, rfl⟩
    have hz : ((x != y) = false ∧ r = 0) ∨ ((x != y) = true ∧ r = 27) := by
      rw [← hr]
      by_cases h : x = y
      · exact .inl ⟨by simp [h], by simp [h]⟩
      · exact .inr ⟨by simp [h], by simp [h]⟩
    rw [hr]
    have HZ := Lib.hid hz
    clear hr hz
    have t1 : ¬ ((n : Int) < (n : Int)) := by omega
    go_enter Tryz.func97, Tryz.ntmps97
    go_upto_region 7 with (go_at_call 150; refine HK.out.mono ?_; rintro e w' ⟨rfl, rfl⟩)
    go_quiet ((go_at_call 90; with_reducible exact Calls.quiet_of_same (KQ.out _)))
    rename_i nq
    obtain ⟨W2, hW2⟩ : ∃ W2, W1.drewN nq = W2 := ⟨_, rfl⟩
    have HB2 : Hid (Below w.heap.size w W2) := Lib.hid (by rw [← hW2]; exact below_drewN HB.out _)
    have d4 : W2.cell? ⟨b, q + 4, none⟩ = some (.int .u8 (W : Int)) := by rw [← hW2]; exact c4
    have d5 : W2.cell? ⟨b, q + 5, none⟩ = some (.int .u8 (H : Int)) := by rw [← hW2]; exact c5
    rw [hW2]
    clear hW2 c4 c5
    go_upto_region 9 with fail
    go_quiet ((go_at_call 90; with_reducible exact Calls.quiet_of_same (KQ.out _)))
    generalize hW3 : World.drewN W2 _ = W3
    have HB3 : Hid (Below w.heap.size w W3) := Lib.hid (by rw [← hW3]; exact below_drewN HB2.out _)
    clear hW3 d4 d5
    have wI := HI.out
    have HB4 : Hid (∀ m, Below w.heap.size w (W3.drewN m)) := Lib.hid fun m => below_drewN HB3.out m
    rcases HZ.out with ⟨e1, e2⟩ | ⟨e1, e2⟩
    all_goals
      have E2 := Lib.hid e2
      clear e2
      go_upto_region 12 with fail
      go_quiet (first | (go_at_call 98; with_reducible exact Calls.quiet_of_same (KQN.out _ (HB4.out _) _)) | (go_at_call 95; with_reducible exact Calls.quiet_of_same (KQC.out _ (HB4.out _) _)))
      go_wp2
      go_ret
      exact ⟨ret_int E2.out.symm, HB4.out _⟩
  · rw [if_neg (by omega), if_pos hgt]
    have t1 : ¬ ((n : Int) < (Z : Int)) := by omega
    have t2 : (Z : Int) < (n : Int) := by omega
    go_enter Tryz.func97, Tryz.ntmps97
    go_upto_region 7 with (go_at_call 150; refine HK.out.mono ?_; rintro e w' ⟨rfl, rfl⟩)
    go_quiet ((go_at_call 90; with_reducible exact Calls.quiet_of_same (KQ.out _)))
    rename_i nq
    obtain ⟨W2, hW2⟩ : ∃ W2, W1.drewN nq = W2 := ⟨_, rfl⟩
    have HB2 : Hid (Below w.heap.size w W2) := Lib.hid (by rw [← hW2]; exact below_drewN HB.out _)
    have d4 : W2.cell? ⟨b, q + 4, none⟩ = some (.int .u8 (W : Int)) := by rw [← hW2]; exact c4
    have d5 : W2.cell? ⟨b, q + 5, none⟩ = some (.int .u8 (H : Int)) := by rw [← hW2]; exact c5
    rw [hW2]
    clear hW2 c4 c5
    go_upto_region 9 with fail
    go_quiet ((go_at_call 90; with_reducible exact Calls.quiet_of_same (KQ.out _)))
    go_wp2
    go_ret
    exact ⟨rfl, below_drewN HB2.out _⟩

theorem checkStream_all (S : List Int) (a : Option Addr) (n cp : Nat) (hn : n ≤ 400) (hcp : n ≤ cp) (hcq : cp ≤ 9223372036854775807) (w : World) (hA : AnyBytes w a n S) :
    Calls Tryz.prog 97 #[.slice a n cp] w fun e w' => e = .returned (.int .i64 (unErr0 S)) ∧ Below w.heap.size w w' := by
  have hS := hA.1
  have hl := hS.1
  by_cases h4 : n < 4
  · unfold unErr0
    rw [if_pos (by omega)]
    exact checkStream_short a n cp h4 w
  obtain ⟨b, q, rfl, hb, hr⟩ := hA.2 0 (by omega)
  by_cases hm : S.take 4 = magicL
  · by_cases h6 : n < 6
    · unfold unErr0
      rw [if_neg (by omega), if_neg (by simp [hm]), if_pos (by omega)]
      exact checkStream_head S b q n cp hS (by omega) h6 hcp hcq w hb hr hm
    · have bd : ∀ j, j < n → 0 ≤ S[j]?.getD 0 ∧ S[j]?.getD 0 ≤ 255 := fun j hj => by
        rw [List.getElem?_eq_getElem (by omega)]; exact hS.2 _ (List.getElem_mem _)
      obtain ⟨W, hW⟩ := Int.eq_ofNat_of_zero_le (bd 4 (by omega)).1
      obtain ⟨H, hH⟩ := Int.eq_ofNat_of_zero_le (bd 5 (by omega)).1
      have h := checkStream_body S b q n cp W H hS hW hH (by omega) hn hcp hcq w hb hr hm
      have e : unErr0 S = (if n < 10 + 4 * (W * H) then 28 else if 10 + 4 * (W * H) < n then 2 else if numOf (S.drop (n - 4)) ≠ chkOf (S.take (n - 4)) then 27 else 0) := by
        have eN : unEnd S = 6 + 4 * (W * H) := by unfold unEnd unN unW unH byteAt; rw [hW, hH]; rfl
        unfold unErr0
        rw [if_neg (by omega), if_neg (by simp [hm]), if_neg (by omega), eN, hl]
        by_cases h1 : n < 10 + 4 * (W * H)
        · rw [if_pos h1, if_pos (by omega)]
        · rw [if_neg h1, if_neg (by omega)]
          by_cases h2 : 10 + 4 * (W * H) < n
          · rw [if_pos h2, if_pos (by omega)]
          · rw [if_neg h2, if_neg (by omega), show n - 4 = 6 + 4 * (W * H) by omega]
      rw [e]
      exact h
  · unfold unErr0
    rw [if_neg (by omega), if_pos hm]
    exact checkStream_form S b q n cp hS (by omega) hn hcp hcq w hb hr hm
end Go.Proofs.YthmaoeajbmfmaaaGreatDoor

/-
  Contract of Pack for a right map: the bytes of its stream.
-/
namespace Go.Proofs.YthmaoeajbmfmaaaGreatDoor
open Go.RowKit
set_option linter.unusedVariables false

def packHead (W H : Nat) : List Int := [76, 77, 65, 80, W, H]
def packBody (ks : List Int) : List Int := ks.flatMap (fun k => wordOf (smpOf k))
def packS (W H : Nat) (ks : List Int) : List Int := packHead W H ++ packBody ks
def packL (W H : Nat) (ks : List Int) : List Int := packS W H ks ++ wordOf (chkOf (packS W H ks))
theorem packBody_len (ks : List Int) : (packBody ks).length = 4 * ks.length := by
  induction ks with
  | nil => rfl
  | cons k ks ih => simp [packBody, wordOf] at ih ⊢; omega
theorem packBody_succ (ks : List Int) (k : Nat) (hk : k < ks.length) : packBody (ks.take (k + 1)) = packBody (ks.take k) ++ wordOf (smpOf (ks[k]?.getD 0)) := by
  rw [List.take_succ_eq_append_getElem hk, packBody, List.flatMap_append, List.getElem?_eq_getElem hk]; simp [packBody]
theorem byte_bd {W H : Nat} {ks : List Int} (hW : W ≤ 64) (hH : H ≤ 64) : ∀ x ∈ packS W H ks, 0 ≤ x ∧ x ≤ 255 := by
  intro x hx
  rcases List.mem_append.1 hx with h | h
  · simp [packHead] at h; omega
  · obtain ⟨k, _, h⟩ := List.mem_flatMap.1 h
    simp [wordOf] at h
    rcases h with rfl | rfl | rfl | rfl <;> exact byt_bd _ _

theorem run_bits32 (d : Nat) : ∀ w : World, (callFunc 93 #[.float .f32 d]).run Tryz.prog w = .ok (.value (.int .u32 d)) w := fun w => by kernel_rfl
theorem smpOf_word (n : Int) (hn : n.natAbs < 2 ^ 24) : smpOf n < 2 ^ 32 := by
  have := floatBits_wf (smpOf_run n hn)
  simpa [Lit.wf] using this
theorem not_own {w : World} {B n ga : Nat} {v : Value} {x y : Int} {xs : List Value} (h : w.ownsRow B 5 1 v n (.int .u8 x :: xs)) (hr : w.cell? ⟨ga, 0, none⟩ = some (.int .i64 y)) : v.ownBlock ≠ some ga := by
  intro e
  have k := h.cells (g := ga) e 0 (.int .u8 x) rfl
  rw [Addr.add_mid] at k
  rw [hr] at k
  cases k
theorem row_same {w w' : World} {ga n : Nat} {ks : List Int} (h : RowAt w ga n ks) (hb : w'.heap[ga]? = w.heap[ga]?) : RowAt w' ga n ks :=
  ⟨(by
    have h1 := h.lt
    rcases Nat.lt_or_ge ga w'.heap.size with h2 | h2
    · exact h2
    · rw [Array.getElem?_eq_none h2] at hb
      rw [Array.getElem?_eq_getElem h1] at hb
      exact absurd hb (by simp)), fun j hj => (World.cell?_of_block (w := w) (w' := w') (a := ⟨ga, j, none⟩) hb).trans (h.cells j hj)⟩

set_option maxRecDepth 100000 in
set_option maxHeartbeats 6400000 in
theorem pack_any (W H : Nat) (b o c n : Nat) (xs : List Nat) (ks : List Int) (w : World) (hA : RightMap w W H b o n xs ks) (hb : b < w.heap.size) :
    Calls Tryz.prog 29 #[.agg #[.int .i64 W, .int .i64 H, .slice (some ⟨b, o, none⟩) n c]] w fun e w' =>
      ∃ v, e = .returned (.tuple #[v, .int .i64 0]) ∧ w'.ownsRow w.heap.size 5 1 v (10 + 4 * n) ((packL W H ks).map (Value.int .u8)) ∧ Below w.heap.size w w' := by
  obtain ⟨i0, hi, hz0, hz1, hz2⟩ := info_parts Tryz.infoByte
  obtain ⟨W0, hW0⟩ : ∃ W0, w.alloc (.cells #[.int .i64 W, .int .i64 H, .slice (some ⟨b, o, none⟩) n c] 70) = W0 := ⟨_, rfl⟩
  have hB0 : Below w.heap.size w W0 := by rw [← hW0]; exact (Below.refl _ w).alloc (Nat.le_refl _) _
  have hS0 : W0.heap.size = w.heap.size + 1 := by rw [← hW0]; simp
  have a0 : W0.cell? ⟨w.heap.size, 0, none⟩ = some (.int .i64 W) := by rw [← hW0]; simp [go_sem]
  have a1 : W0.cell? ⟨w.heap.size, 1, none⟩ = some (.int .i64 H) := by rw [← hW0]; simp [go_sem]
  have a2 : W0.cell? ⟨w.heap.size, 2, none⟩ = some (.slice (some ⟨b, o, none⟩) n c) := by rw [← hW0]; simp [go_sem]
  have K1 := Lib.hid (checkMap_any W H b o n c xs ks W0 (hA.below hB0 hb) (by omega))
  have K2 : Hid (∀ w1 : World, Below W0.heap.size W0 w1 → Calls Tryz.prog 91 #[.agg #[.int .i64 W, .int .i64 H, .slice (some ⟨b, o, none⟩) n c]] w1 fun e w' =>
      ∃ g, e = .returned (.agg #[.int .i64 W, .int .i64 H, .slice (some ⟨g, 0, none⟩) n n]) ∧ w1.heap.size ≤ g ∧ RowAt w' g n ks ∧ Below w1.heap.size w1 w') := Lib.hid (fun w1 h => by
    have h1 := h.size
    have h2 := hB0.trans (h.mono (by omega))
    exact grid_row W H b o n c xs ks w1 (hA.below h2 hb).toWords (by omega))
  have hWi := hA.wid
  have hHe := hA.hei
  have hW64 : W ≤ 64 := by omega
  have hH64 : H ≤ 64 := by omega
  have hN : W * H = n := by have := hA.area; exact_mod_cast this
  have hsm := hA.small
  have KSZ : Hid (∀ w1 : World, Calls Tryz.prog 90 #[.int .i64 W, .int .i64 H] w1 fun e w' => e = .returned (.int .i64 ((10 + 4 * n : Nat) : Int)) ∧ w1 = w') := Lib.hid fun w1 => by have h := streamSize_any W H hW64 hH64 w1; rw [hN] at h; exact h
  have HB0 := Lib.hid hB0
  have HS0 := Lib.hid hS0
  have HRA := Lib.hid hA
  have HN := Lib.hid hN
  clear hA hB0 hN
  go_enter Tryz.func29, Tryz.ntmps29
  go_upto_region 1 with fail
  try rw [hW0]
  clear hW0
  go_upto_region 4 with (
    ((go_at_call 89; refine K1.out.mono ?_; rintro e w1 ⟨rfl, hb1⟩)))
  have hs1 := hb1.size
  have a0' := (hb1.cell (p := ⟨w.heap.size, 0, none⟩) (by show w.heap.size < _; omega)).trans a0
  have a1' := (hb1.cell (p := ⟨w.heap.size, 1, none⟩) (by show w.heap.size < _; omega)).trans a1
  have a2' := (hb1.cell (p := ⟨w.heap.size, 2, none⟩) (by show w.heap.size < _; omega)).trans a2
  have HB1 := Lib.hid hb1
  clear a0 a1 a2 hb1
  go_upto_region 5 with (first
    | (go_at_call 90; refine (KSZ.out _).mono ?_; rintro e w9 ⟨rfl, rfl⟩)
    | (at_make; refine wpList_make_own _ rfl _ _ 45 rfl w1.heap.size 5 i0 (.int .u8 0) 1 Tryz.underlying45 hi hz0 hz1 _ _ _ (10 + 4 * n) rfl rfl (by omega) (by rw [hz2]; omega) (by unfold maxLen; omega) (Nat.le_refl _) ?_; intro w2 hown2 hgrow2))
  have hb2 : Below w1.heap.size w1 w2 := (Below.refl _ _).grown hgrow2 (Nat.le_refl _) (fun k h => by cases h)
  have hsz2 := hb2.size
  go_upto_region 6 with (
    (at_builtin; go_loud (refine Lib.wpList_append_own_string _ rfl (.tmp 19) (.const (.string ⟨#[76, 77, 65, 80]⟩)) 45 9 rfl w1.heap.size 5 i0 Tryz.underlying45 Tryz.underlying9 hi hz0 hz1 hz2 _ 0 [] rfl hown2 ⟨#[76, 77, 65, 80]⟩ rfl (by show 0 + 4 ≤ maxLen; unfold maxLen; omega) (by show 0 + 4 ≤ _; omega) (by omega) ?_; intro v3 w3 hown3 hgrow3 _)))
  have hown3' : w3.ownsRow w1.heap.size 5 1 v3 4 (([76, 77, 65, 80] : List Int).map (Value.int .u8)) := by
    have h := hown3
    rw [show ([] : List Value) ++ Lib.strCells ⟨#[76, 77, 65, 80]⟩ = ([76, 77, 65, 80] : List Int).map (Value.int .u8) from rfl] at h
    exact h
  have hb3 : Below w1.heap.size w1 w3 := hb2.grown hgrow3 (by omega) (fun k hk => (hown2.lt k hk).1)
  have hsz3 := hb3.size
  obtain ⟨ao3, c3, rfl⟩ := owns_slice hown3'
  have hlw : w.heap.size < w1.heap.size := by omega
  have q0 := (hb3.cell (p := ⟨w.heap.size, 0, none⟩) (by show w.heap.size < _; omega)).trans a0'
  have q1 := (hb3.cell (p := ⟨w.heap.size, 1, none⟩) (by show w.heap.size < _; omega)).trans a1'
  have q2 := (hb3.cell (p := ⟨w.heap.size, 2, none⟩) (by show w.heap.size < _; omega)).trans a2'
  have u1 : IntKind.u8.wrap (W : Int) = (W : Int) := IntWalk.u8_in _ ⟨by omega, by omega⟩
  have u2 : IntKind.u8.wrap (H : Int) = (H : Int) := IntWalk.u8_in _ ⟨by omega, by omega⟩
  have hown4 : (w3.alloc (.cells #[.int .u8 W, .int .u8 H] 5)).ownsRow w1.heap.size 5 1 (.slice ao3 4 c3) 4 (([76, 77, 65, 80] : List Int).map (Value.int .u8)) := hown3'.alloc _
  have bN : (w3.alloc (.cells #[.int .u8 W, .int .u8 H] 5)).heap[w3.heap.size]? = some (.cells #[.int .u8 W, .int .u8 H] 5 (0, 0)) := blk_alloc_new _ _
  have HC : Hid (∀ j u, ([.int .u8 W, .int .u8 H] : List Value)[j]? = some u → (w3.alloc (.cells #[.int .u8 W, .int .u8 H] 5)).cell? ((⟨w3.heap.size, 0, none⟩ : Addr).add j) = some u) := Lib.hid fun j u hu => by
    rw [Addr.add_mid, Nat.zero_add, cell_of_row _ _ j _ _ (0, 0) bN]
    simpa using hu
  have HO4 := Lib.hid hown4
  have HB3 := Lib.hid hb3
  clear hown2 hgrow2 hown3 hown3' hgrow3 hb2 hb3 a0' a1' a2' hown4 bN
  go_upto_region 7 with (
    (at_builtin; refine wpList_append_own _ rfl (.tmp 21) (.tmp 28) 45 rfl w1.heap.size 5 i0 (.int .u8 0) 1 1 Tryz.underlying45 hi hz0 hz1 hz2 rfl (by decide) _ _ _ rfl HO4.out ⟨w3.heap.size, 0, none⟩ 2 2 [.int .u8 W, .int .u8 H] rfl rfl HC.out (by intro u hu; simp at hu; rcases hu with rfl | rfl <;> rfl) (by unfold maxLen; omega) (by omega) (by simp; omega) ?_; intro v5 w5 hown5 hgrow5 _))
  have hown5' : w5.ownsRow w1.heap.size 5 1 v5 6 ((packHead W H).map (Value.int .u8)) := hown5
  have hb5 : Below w1.heap.size w1 w5 := (HB3.out.alloc (by omega) _).grown hgrow5 (by simp; omega) (fun k hk => (HO4.out.lt k hk).1)
  have hsz5 := hb5.size
  obtain ⟨ao5, c5, rfl⟩ := owns_slice hown5'
  have q0' := (hb5.cell (p := ⟨w.heap.size, 0, none⟩) (by show w.heap.size < _; omega)).trans ((HB3.out.cell (p := ⟨w.heap.size, 0, none⟩) (by show w.heap.size < _; omega)).symm.trans q0)
  have q1' := (hb5.cell (p := ⟨w.heap.size, 1, none⟩) (by show w.heap.size < _; omega)).trans ((HB3.out.cell (p := ⟨w.heap.size, 1, none⟩) (by show w.heap.size < _; omega)).symm.trans q1)
  have q2' := (hb5.cell (p := ⟨w.heap.size, 2, none⟩) (by show w.heap.size < _; omega)).trans ((HB3.out.cell (p := ⟨w.heap.size, 2, none⟩) (by show w.heap.size < _; omega)).symm.trans q2)
  have K3 := Lib.hid (K2.out w5 (HB1.out.trans (hb5.mono hs1)))
  have HO5 := Lib.hid hown5'
  have HB5 := Lib.hid hb5
  clear q0 q1 q2 hown5 hown5' hgrow5 hb5 HC
  go_upto_block 0 with (
    ((go_at_call 91; refine K3.out.mono ?_; rintro e w6 ⟨ga, rfl, hga, hRA, hb6⟩
      have hfld : ∀ u : World, (Instr.field 162 (.agg #[.int .i64 W, .int .i64 H, .slice (some ⟨ga, 0, none⟩) n n]) 2).run Tryz.prog u = .ok (.slice (some ⟨ga, 0, none⟩) n n) u := fun _ => by kernel_rfl)))
  have hsz6 := hb6.size
  have hown6 := owns_kept HO5.out hb6 (Nat.le_refl _)
  have hlt5 := HO5.out.lt
  have hne5 : ∀ k, (Value.slice ao5 6 c5).ownBlock = some k → k < w5.heap.size := fun k hk => (hlt5 k hk).2
  have hn1 : 1 ≤ n := by have := HN.out; have := Nat.mul_le_mul (show 1 ≤ W by omega) (show 1 ≤ H by omega); omega
  have HO6 := Lib.hid hown6
  have HB6 := Lib.hid (HB5.out.trans (hb6.mono hsz5))
  have HRW := Lib.hid hRA
  clear hown6 hlt5 hne5 hb6 hRA q0' q1' q2'
  go_cut [5] (fun s5 wr => ∃ v, s5 = v ∧ wr.ownsRow w1.heap.size 5 1 v (6 + 4 * n) ((packS W H ks).map (Value.int .u8)) ∧ Below w1.heap.size w1 wr)
  case first =>
    go_wp2_with fail
    go_loopw [5, 34] (fun v i wr => ∃ k : Nat, k ≤ n ∧ i = .int .i64 k ∧ wr.ownsRow w1.heap.size 5 1 v (6 + 4 * k) ((packHead W H ++ packBody (ks.take k)).map (Value.int .u8)) ∧ Below w1.heap.size w1 wr ∧ RowAt wr ga n ks)
      (fun _ i _ => n - (intOf i).toNat)
    case atStart => exact ⟨0, Nat.zero_le _, rfl, HO6.out, HB6.out, HRW.out⟩
    case round =>
      obtain ⟨k, hk, rfl, hown, hnx, hrw⟩ := hrel
      by_cases hlt : k < n
      · have hc := hrw.cells k hlt
        have hgl := hrw.lt
        have hne := not_own hown (hrw.cells 0 (by omega))
        have hb16 := HRA.out.sizes k hlt
        obtain ⟨kj, hkj⟩ : ∃ kj : Int, ks[k]?.getD 0 = kj := ⟨_, rfl⟩
        rw [hkj] at hc hb16
        have hsl := smpOf_word kj (Nat.lt_of_le_of_lt hb16 (by decide))
        have hsu := packBody_succ ks k (by rw [HRA.out.lenk]; exact hlt)
        rw [hkj] at hsu
        have KA := Lib.hid (appendNumber_any w1.heap.size _ (6 + 4 * k) _ (smpOf kj : Nat) (by omega) (by omega) (by omega) wr hown hnx.size)
        have hb32 := run_bits32 (smpOf kj)
        have HNX := Lib.hid hnx
        have HRR := Lib.hid hrw
        have HNE := Lib.hid hne
        have HSU := Lib.hid hsu
        have HB16 := Lib.hid hb16
        clear hown hnx hrw hne hsu hkj hb16
        go_wp2_with (first
          | (go_at_call 94; refine (sample_any _ (Nat.lt_of_le_of_lt HB16.out (by decide)) _).mono ?_; rintro e w9 ⟨rfl, rfl⟩)
          | (go_at_call 92; refine KA.out.mono ?_; rintro e w8 ⟨v8, rfl, hown8, hb8, hk8⟩))
        go_roundw
        case rel =>
          refine ⟨k + 1, by omega, by go_num, ?_, HNX.out.trans hb8, row_same HRR.out (hk8 ga hgl HNE.out)⟩
          rw [HSU.out, ← List.append_assoc, List.map_append]
          exact hown8
        case measure => simp [intOf]; omega
      · obtain rfl : k = n := by omega
        rw [List.take_of_length_le (by rw [HRA.out.lenk]; omega)] at hown
        go_wp2_with fail
        go_meet
        exact ⟨_, rfl, hown, hnx⟩
  case rest =>
    obtain ⟨v, rfl, hown, hbr⟩ := hcut
    obtain ⟨g7, c7, rfl, hg7, hgB7⟩ := owns_some hown (by omega)
    have hpl : (packS W H ks).length = 6 + 4 * n := by rw [packS, List.length_append, packBody_len, HRA.out.lenk]; rfl
    have hbyte := byte_bd (ks := ks) hW64 hH64
    have hck := chk_bd (packS W H ks)
    have hget : ∀ j, j < 6 + 4 * n → (packS W H ks)[j]?.getD 0 ∈ packS W H ks := fun j hj => by
      rw [List.getElem?_eq_getElem (by rw [hpl]; exact hj)]; exact List.getElem_mem _
    have KC := Lib.hid (checksum_any g7 0 (6 + 4 * n) c7 (packS W H ks) wc hpl (by omega) (fun j hj => hbyte _ (hget j hj)) (fun j hj => by
      rw [Nat.zero_add]
      exact owns_cell hown (by rw [List.getElem?_map, List.getElem?_eq_getElem (by rw [hpl]; exact hj)]; rfl)))
    have KA := Lib.hid (appendNumber_any w1.heap.size _ (6 + 4 * n) _ (chkOf (packS W H ks)) hck.1 (by omega) (by omega) wc hown hbr.size)
    have HBR := Lib.hid hbr
    clear hpl hbyte hck hget hown hbr
    go_wp2_with (first
      | (go_at_call 95; refine KC.out.mono ?_; rintro e w9 ⟨rfl, rfl⟩)
      | (go_at_call 92; refine KA.out.mono ?_; rintro e w8 ⟨v8, rfl, hown8, hb8, _⟩))
    go_ret2
    refine ⟨_, rfl, owns_base ?_ (show w.heap.size ≤ w1.heap.size by omega), (HB0.out.trans ((HB1.out.trans ((HBR.out.trans hb8).mono hs1)).mono (by have := HS0.out; omega)))⟩
    rw [show 10 + 4 * n = 6 + 4 * n + 4 by omega, packL, List.map_append]
    exact hown8
end Go.Proofs.YthmaoeajbmfmaaaGreatDoor
