/-
  Plain facts on words of float32: a finite word is known by its sign and by the number that it stands for; the word of a sample with an integer other than 0 is the one that its integer gives.
-/
import Derived.Test.YtfdkmmllemkogaaGreatDoorOWa
import Derived.Test.YtfdkmmllemkogaaGreatDoorOKa
import Derived.Test.YtfdkmmllemkogaaGreatDoorOWk
import Derived.Test.YtfdkmmllemkogaaGreatDoorOBe
import Derived.Test.YtfdkmmllemkogaaGreatDoorOZd
import Derived.Laws.BytesArg
import Derived.Lib.SlBytesConst
import Derived.Deep.CutBlock
import Derived.Deep.QuietTactic
import Derived.BigQuiet
import Derived.Deep.DeepCutAuto
import Derived.Test.YtfdkmmllemkogaaGreatDoorOHf
import Derived.ArgAppend
import Derived.Test.YtfdkmmllemkogaaGreatDoorOBn
namespace Go.Proofs.YtfdkmmllemkogaaGreatDoor
open Ieee
set_option linter.unusedVariables false

theorem read_number {x : Nat} {s : Bool} {m : Nat} {e : Int} (hx : x < 2 ^ 32) (h : single.read x = .number s m e) :
    ∃ r, r < 2 ^ 31 ∧ x = (if s then 2 ^ 31 else 0) + r ∧ ((r < 2 ^ 23 ∧ m = r ∧ e = -149) ∨ (2 ^ 23 ≤ r ∧ m = 2 ^ 23 + r % 2 ^ 23 ∧ e = -149 + (r / 2 ^ 23 - 1 : Nat))) := by
  have hw : single.signWeight = 2 ^ 31 := by decide
  have hb : single.binade = 2 ^ 23 := by decide
  have hL : single.leastPlace = -149 := by decide
  unfold Format.read at h
  rw [hw, hb, hL] at h
  have hd : x / 2 ^ 31 = 0 ∨ x / 2 ^ 31 = 1 := by omega
  refine ⟨x % 2 ^ 31, Nat.mod_lt _ (by decide), ?_⟩
  have hm := Nat.div_add_mod x (2 ^ 31)
  dsimp only at h
  split at h
  · rename_i h1
    simp only [Datum.number.injEq] at h
    obtain ⟨h2, h3, h4⟩ := h
    refine ⟨?_, .inl ⟨h1, h3.symm, h4.symm⟩⟩
    rcases hd with hd | hd <;> rw [hd] at h2 hm <;> subst h2 <;> simp <;> omega
  · rename_i h1
    split at h
    · rename_i h5
      simp only [Datum.number.injEq] at h
      obtain ⟨h2, h3, h4⟩ := h
      refine ⟨?_, .inr ⟨by omega, h3.symm, h4.symm⟩⟩
      rcases hd with hd | hd <;> rw [hd] at h2 hm <;> subst h2 <;> simp <;> omega
    · split at h <;> cases h

theorem log2_23 {a : Nat} (h0 : 2 ^ 23 ≤ a) (h1 : a < 2 ^ 24) : a.log2 = 23 := by
  have ha : a ≠ 0 := by omega
  have e1 := (Nat.log2_lt (k := 24) ha).2 h1
  have e2 : 23 ≤ a.log2 := (Nat.le_log2 ha).2 h0
  omega

theorem isNum_inj {x y : Nat} {s : Bool} {v : Nat} (hx : x < 2 ^ 32) (hy : y < 2 ^ 32) (h : IsNum single x s v) (g : IsNum single y s v) : x = y := by
  obtain ⟨m, i, h1, _, _, h4⟩ := h
  obtain ⟨n, j, g1, _, _, g4⟩ := g
  obtain ⟨r, hr, hxr, hc⟩ := read_number hx h1
  obtain ⟨q, hq, hyq, gc⟩ := read_number hy g1
  have hL : single.leastPlace = -149 := by decide
  rw [hL] at h4 g4
  suffices h : r = q by rw [hxr, hyq, h]
  rcases hc with ⟨hc1, rfl, rfl⟩ | ⟨hc1, hc2, rfl⟩ <;> rcases gc with ⟨gc1, rfl, rfl⟩ | ⟨gc1, gc2, rfl⟩
  · simp at h4 g4; omega
  · exfalso
    have e1 : m = v := by simpa using h4
    have e2 : 2 ^ 23 ≤ n := by omega
    have e3 : n ≤ v := by rw [← g4]; exact Nat.le_mul_of_pos_right _ (Nat.two_pow_pos _)
    omega
  · exfalso
    have e1 : n = v := by simpa using g4
    have e2 : 2 ^ 23 ≤ m := by omega
    have e3 : m ≤ v := by rw [← h4]; exact Nat.le_mul_of_pos_right _ (Nat.two_pow_pos _)
    omega
  · have e1 : (-149 + ((r / 2 ^ 23 - 1 : Nat) : Int) - -149).toNat = r / 2 ^ 23 - 1 := by omega
    have e2 : (-149 + ((q / 2 ^ 23 - 1 : Nat) : Int) - -149).toNat = q / 2 ^ 23 - 1 := by omega
    rw [e1] at h4
    rw [e2] at g4
    have k1 : m.log2 = 23 := log2_23 (by omega) (by omega)
    have k2 : n.log2 = 23 := log2_23 (by omega) (by omega)
    have l1 := log2_mul_pow m (r / 2 ^ 23 - 1) (by omega)
    have l2 := log2_mul_pow n (q / 2 ^ 23 - 1) (by omega)
    rw [h4, k1] at l1
    rw [g4, k2] at l2
    have e3 : r / 2 ^ 23 - 1 = q / 2 ^ 23 - 1 := by omega
    rw [e3, ← g4] at h4
    have e4 : m = n := Nat.eq_of_mul_eq_mul_right (Nat.two_pow_pos _) h4
    have := Nat.div_add_mod r (2 ^ 23)
    have := Nat.div_add_mod q (2 ^ 23)
    omega

/-- The word of a sample whose integer is not 0 is the one that the integer gives. -/
theorem smp_word {x : Nat} {k : Int} (hx : x < 2 ^ 32) (h : Smp x k) (hk : k ≠ 0) (hs : k.natAbs < 2 ^ 24) (hl : smpOf k < 2 ^ 32) : x = smpOf k := by
  obtain ⟨s, h1, h2, h3⟩ := h
  obtain ⟨t, g1, g2, g3⟩ := smpOf_smp k hs
  have e : s = t := by
    rcases Int.lt_or_gt_of_ne hk with h | h
    · rw [h2 h, g2 h]
    · rw [h3 h, g3 h]
  subst e
  exact isNum_inj hx hl h1 g1

theorem smpOf_zero : smpOf 0 = 0 := by decide +kernel
/-- The words that stand for 0. -/
theorem smp_zero {x : Nat} (hx : x < 2 ^ 32) (h : Smp x 0) : x = 0 ∨ x = 2147483648 := by
  obtain ⟨s, h1, _, _⟩ := h
  have e0 : IsNum single (single.word s 0) s 0 := by
    cases s
    · exact ⟨0, -149, by decide +kernel, by decide, by decide, by decide⟩
    · exact ⟨0, -149, by decide +kernel, by decide, by decide, by decide⟩
  have h1' : IsNum single x s 0 := by simpa using h1
  have e := isNum_inj hx (by cases s <;> decide) h1' e0
  cases s
  · exact .inl e
  · exact .inr e
end Go.Proofs.YtfdkmmllemkogaaGreatDoor

/-
  What a stream of bytes gives as a map: its error, and the integers of its samples.
-/
namespace Go.Proofs.YtfdkmmllemkogaaGreatDoor
open Go.RowKit
set_option linter.unusedVariables false

def unW (S : List Int) : Int := byteAt S 4
def unH (S : List Int) : Int := byteAt S 5
/-- How many samples a stream tells. -/
def unN (S : List Int) : Nat := ((unW S).toNat * (unH S).toNat)
def unEnd (S : List Int) : Nat := 6 + 4 * unN S
def magicL : List Int := [76, 77, 65, 80]
def unErr0 (S : List Int) : Int :=
  if S.length < 4 then 28 else if S.take 4 ≠ magicL then 1 else if S.length < 6 then 28 else if S.length < unEnd S + 4 then 28 else if unEnd S + 4 < S.length then 2
  else if numOf (S.drop (unEnd S)) ≠ chkOf (S.take (unEnd S)) then 27 else 0
def quad (S : List Int) (i : Nat) : List Int := (S.drop (6 + 4 * i)).take 4
def wordAt (S : List Int) (i : Nat) : Nat := (numOf (quad S i)).toNat
def unXs (S : List Int) : List Nat := (List.range (unN S)).map (wordAt S)
def zeroErr (x : Nat) : Int := if x = 2147483648 then 1 else 0
def unErr (S : List Int) : Int :=
  if unErr0 S = 0 then if mapErr (unW S) (unH S) (unN S) (unXs S) = 0 then firstNZ ((unXs S).map zeroErr) else mapErr (unW S) (unH S) (unN S) (unXs S) else unErr0 S
def unErrN (S : List Int) (n : Nat) : Int := if 400000 < n then 26 else unErr S
def unL (S : List Int) : List Int := (unXs S).map kOf

theorem quad_bytes {S : List Int} {n : Nat} (h : BytesV S n) (i : Nat) (hi : 6 + 4 * i + 4 ≤ n) : (quad S i).length = 4 ∧ ∀ j, j < 4 → 0 ≤ (quad S i)[j]?.getD 0 ∧ (quad S i)[j]?.getD 0 ≤ 255 := by
  have hl : (quad S i).length = 4 := by unfold quad; rw [List.length_take, List.length_drop, h.1]; omega
  refine ⟨hl, fun j hj => ?_⟩
  rw [List.getElem?_eq_getElem (by omega)]
  exact h.2 _ (List.mem_of_mem_drop (List.mem_of_mem_take (List.getElem_mem _)))
theorem list4 {F : List Int} (h : F.length = 4) : ∃ a b c d, F = [a, b, c, d] := by
  match F, h with
  | [a, b, c, d], _ => exact ⟨a, b, c, d, rfl⟩
theorem numOf_4 {F : List Int} (h : F.length = 4) (hb : ∀ j, j < 4 → 0 ≤ F[j]?.getD 0 ∧ F[j]?.getD 0 ≤ 255) : 0 ≤ numOf F ∧ numOf F ≤ 4294967295 := by
  obtain ⟨a, b, c, d, rfl⟩ := list4 h
  have h0 := hb 0 (by omega); have h1 := hb 1 (by omega); have h2 := hb 2 (by omega); have h3 := hb 3 (by omega)
  simp at h0 h1 h2 h3
  simp [numOf]
  omega
theorem word_bd {S : List Int} {n : Nat} (h : BytesV S n) (i : Nat) (hi : 6 + 4 * i + 4 ≤ n) : wordAt S i < 2 ^ 32 ∧ numOf (quad S i) = (wordAt S i : Int) := by
  obtain ⟨h1, h2⟩ := quad_bytes h i hi
  have := numOf_4 h1 h2
  unfold wordAt
  omega
theorem unXs_len (S : List Int) : (unXs S).length = unN S := by simp [unXs]
theorem unXs_get (S : List Int) (i : Nat) (hi : i < unN S) : (unXs S)[i]?.getD 0 = wordAt S i := by
  unfold unXs; rw [List.getElem?_map, List.getElem?_range hi]; rfl
theorem unXs_take (S : List Int) (k : Nat) (hk : k < unN S) : (unXs S).take (k + 1) = (unXs S).take k ++ [wordAt S k] := by
  rw [List.take_succ_eq_append_getElem (by rw [unXs_len]; exact hk)]
  congr 2
  have h := unXs_get S k hk
  rw [List.getElem?_eq_getElem (by rw [unXs_len]; exact hk)] at h
  exact h
/-- Where a stream has no error, a word is the one that its integer gives. -/
theorem un_smpOf {S : List Int} {n : Nat} (hS : BytesV S n) (h0 : unErr S = 0) (hn : unEnd S + 4 ≤ n) :
    mapErr (unW S) (unH S) (unN S) (unXs S) = 0 ∧ (∀ j, j < unN S → (unXs S)[j]?.getD 0 = smpOf ((unL S)[j]?.getD 0)) ∧ ∀ j, j < unN S → ((unL S)[j]?.getD 0).natAbs ≤ 16384 := by
  have e0 : unErr0 S = 0 := by
    refine Classical.byContradiction fun h => ?_
    unfold unErr at h0
    rw [if_neg h] at h0
    exact h h0
  have e1 : mapErr (unW S) (unH S) (unN S) (unXs S) = 0 := by
    refine Classical.byContradiction fun h => ?_
    unfold unErr at h0
    rw [if_pos e0, if_neg h] at h0
    exact h h0
  have e2 : firstNZ ((unXs S).map zeroErr) = 0 := by
    unfold unErr at h0
    rwa [if_pos e0, if_pos e1] at h0
  have hs := mapErr_smps (unXs_len S) e1
  have hl := unXs_len S
  have hL : ∀ j, j < unN S → (unL S)[j]?.getD 0 = kOf ((unXs S)[j]?.getD 0) := fun j hj => by
    unfold unL
    rw [List.getElem?_map, List.getElem?_eq_getElem (by omega)]; rfl
  have hz : ∀ j, j < unN S → (unXs S)[j]?.getD 0 ≠ 2147483648 := fun j hj he => by
    have h := firstNZ_all e2 (zeroErr ((unXs S)[j]?.getD 0)) (by
      refine List.mem_map.2 ⟨(unXs S)[j]?.getD 0, ?_, rfl⟩
      rw [List.getElem?_eq_getElem (by omega)]
      exact List.getElem_mem _)
    rw [he] at h
    exact absurd h (by decide)
  refine ⟨e1, fun j hj => ?_, fun j hj => by rw [hL j hj]; exact (smp_kOf (hs j hj)).2⟩
  obtain ⟨k1, k2⟩ := smp_kOf (hs j hj)
  have hx : (unXs S)[j]?.getD 0 < 2 ^ 32 := by
    rw [unXs_get S j hj]
    exact (word_bd hS j (by unfold unEnd at hn; omega)).1
  rw [hL j hj]
  have hz' := hz j hj
  generalize (unXs S)[j]?.getD 0 = x at k1 k2 hx hz'
  by_cases hk : kOf x = 0
  · rw [hk] at k1 ⊢
    rw [smpOf_zero]
    rcases smp_zero hx k1 with h | h
    · exact h
    · exact absurd h hz'
  · exact smp_word hx k1 hk (by omega) (by
      have := floatBits_wf (smpOf_run (kOf x) (by omega))
      simpa [Lit.wf] using this)
end Go.Proofs.YtfdkmmllemkogaaGreatDoor

/-
  Contracts of bytes.Equal and bytes.HasPrefix at slices of bytes, of streamSize at any two bytes, and of checkStream at any bytes.
-/
namespace Go.Proofs.YtfdkmmllemkogaaGreatDoor
open Go.RowKit
set_option linter.unusedVariables false
set_option linter.unusedSimpArgs false

theorem str_eq {xs ys : List Int} (hx : ∀ x ∈ xs, 0 ≤ x ∧ x ≤ 255) (hy : ∀ y ∈ ys, 0 ≤ y ∧ y ≤ 255) : ((strOfNums xs).toList == (strOfNums ys).toList) = decide (xs = ys) := by
  rw [ByteArray.toList_eq, ByteArray.toList_eq, strOfNums_data, strOfNums_data]
  by_cases h : xs = ys
  · subst h; simp
  · rw [decide_eq_false h]
    refine beq_eq_false_iff_ne.2 fun e => h ?_
    clear h
    induction xs generalizing ys with
    | nil =>
      cases ys with
      | nil => rfl
      | cons y ys => simp at e
    | cons x xs ih =>
      cases ys with
      | nil => simp at e
      | cons y ys =>
        simp only [List.map_cons, List.cons.injEq] at e
        obtain ⟨e1, e2⟩ := e
        have bx := hx x (by simp)
        have bY := hy y (by simp)
        have e3 : x = y := by
          have := congrArg UInt8.toNat e1
          simp [UInt8.toNat_ofNat'] at this
          omega
        rw [e3, ih (fun z hz => hx z (by simp [hz])) (fun z hz => hy z (by simp [hz])) e2]

theorem range_cells {w : World} {b q : Nat} {xs : List Int} (h : w.rangeAt b q (xs.map (Value.int .u8))) : ∀ i, i < xs.length → w.cell? ⟨b, q + i, none⟩ = some (.int .u8 (xs.getD i 0)) := fun i hi =>
  h i _ (by rw [List.getElem?_map, List.getElem?_eq_getElem hi, List.getD_eq_getElem?_getD, List.getElem?_eq_getElem hi]; rfl)
theorem range_take {w : World} {b q : Nat} {xs : List Int} (k : Nat) (h : w.rangeAt b q (xs.map (Value.int .u8))) : w.rangeAt b q ((xs.take k).map (Value.int .u8)) := fun i v hv => by
  refine h i v ?_
  rw [List.map_take, List.getElem?_take] at hv
  split at hv
  · exact hv
  · cases hv
theorem range_drop {w : World} {b q : Nat} {xs : List Int} (k : Nat) (h : w.rangeAt b q (xs.map (Value.int .u8))) : w.rangeAt b (q + k) ((xs.drop k).map (Value.int .u8)) := fun i v hv => by
  rw [List.map_drop, List.getElem?_drop] at hv
  have := h (k + i) v hv
  rwa [show q + k + i = q + (k + i) by omega]
theorem range_below {w w' : World} {B b q : Nat} {V : List Value} (h : w.rangeAt b q V) (hb : Below B w w') (hB : b < B) : w'.rangeAt b q V := fun i v hv => by
  rw [hb.cell (by exact hB)]; exact h i v hv

set_option maxHeartbeats 1600000 in
theorem bytesEqual_any (b q n c b2 q2 n2 c2 : Nat) (xs ys : List Int) (hx : xs.length = n) (hy : ys.length = n2) (bx : ∀ x ∈ xs, 0 ≤ x ∧ x ≤ 255) (bY : ∀ y ∈ ys, 0 ≤ y ∧ y ≤ 255) (w : World)
    (h1 : w.rangeAt b q (xs.map (Value.int .u8))) (h2 : w.rangeAt b2 q2 (ys.map (Value.int .u8))) :
    Calls Tryz.prog 233 #[.slice (some ⟨b, q, none⟩) n c, .slice (some ⟨b2, q2, none⟩) n2 c2] w fun e w' => e = .returned (.bool (decide (xs = ys))) ∧ w = w' := by
  have c1 := run_convert_bytes_arg (P := Tryz.prog) w 109 5 Tryz.underlying109 Tryz.underlying5 b q n c xs hx (by rw [← hx]; exact range_cells h1) 9 Tryz.underlying9
  have k2 := run_convert_bytes_arg (P := Tryz.prog) w 109 5 Tryz.underlying109 Tryz.underlying5 b2 q2 n2 c2 ys hy (by rw [← hy]; exact range_cells h2) 9 Tryz.underlying9
  have e1 := str_eq bx bY
  obtain ⟨r, hr⟩ : ∃ r, decide (xs = ys) = r := ⟨_, rfl⟩
  obtain ⟨s, hs⟩ : ∃ s, strOfNums xs = s := ⟨_, rfl⟩
  obtain ⟨t, ht⟩ : ∃ t, strOfNums ys = t := ⟨_, rfl⟩
  rw [hr, hs, ht] at e1
  rw [hs] at c1
  rw [ht] at k2
  rw [hr]
  clear hr hs ht hx hy bx bY h1 h2
  go_enter Tryz.func233, Tryz.ntmps233
  go_wp2
  go_ret
  exact ⟨rfl, rfl⟩

set_option maxHeartbeats 1600000 in
theorem hasPrefix_any (S : List Int) (b q n c b2 : Nat) (hS : BytesV S n) (hn : 4 ≤ n) (hm : n ≤ 100000) (hcp : n ≤ c) (hcq : c ≤ 9223372036854775807) (w : World)
    (h1 : w.rangeAt b q (S.map (Value.int .u8))) (h2 : w.rangeAt b2 0 (magicL.map (Value.int .u8))) :
    Calls Tryz.prog 211 #[.slice (some ⟨b, q, none⟩) n c, .slice (some ⟨b2, 0, none⟩) 4 4] w fun e w' => e = .returned (.bool (decide (S.take 4 = magicL))) ∧ w = w' := by
  have K := Lib.hid (bytesEqual_any b q 4 c b2 0 4 4 (S.take 4) magicL (by rw [List.length_take, hS.1]; omega) rfl (fun x hx => hS.2 x (List.mem_of_mem_take hx)) (by decide) w (range_take 4 h1) h2)
  have i1 : (4 : Int) ≤ (n : Int) := by omega
  have i2 : (n : Int) ≤ 100000 := by omega
  have i3 : (4 : Int) ≤ (c : Int) := by omega
  have i4 : (c : Int) ≤ 9223372036854775807 := by omega
  have i5 : 4 ≤ c := by omega
  clear h1 h2 hS
  go_enter Tryz.func211, Tryz.ntmps211
  go_wp2_with (go_at_call 233; refine K.out.mono ?_; rintro e w' ⟨rfl, rfl⟩)
  go_ret
  exact ⟨rfl, rfl⟩

set_option maxHeartbeats 800000 in
theorem streamSize_wide (W H : Nat) (hW : W ≤ 255) (hH : H ≤ 255) (w : World) :
    Calls Tryz.prog 174 #[.int .i64 W, .int .i64 H] w fun e w' => e = .returned (.int .i64 ((10 + 4 * (W * H) : Nat) : Int)) ∧ w = w' := by
  have hm : W * H ≤ 255 * 255 := Nat.mul_le_mul hW hH
  have e1 : 4 * (W : Int) * (H : Int) = ((4 * (W * H) : Nat) : Int) := by push_cast; rw [Int.mul_assoc]
  have i1 : IntKind.i64.wrap (4 * (W : Int)) = 4 * (W : Int) := IntWalk.i64_in _ ⟨by omega, by omega⟩
  obtain ⟨q, hq⟩ : ∃ q : Nat, 4 * (W * H) = q := ⟨_, rfl⟩
  rw [hq] at e1
  have hq4 : q ≤ 260100 := by omega
  have e2 : ((10 + 4 * (W * H) : Nat) : Int) = 6 + (q : Int) + 4 := by omega
  rw [e2]
  have i2 : IntKind.i64.wrap (q : Int) = (q : Int) := IntWalk.i64_in _ ⟨by omega, by omega⟩
  have i3 : IntKind.i64.wrap (6 + (q : Int)) = 6 + (q : Int) := IntWalk.i64_in _ ⟨by omega, by omega⟩
  have i4 : IntKind.i64.wrap (6 + (q : Int) + 4) = 6 + (q : Int) + 4 := IntWalk.i64_in _ ⟨by omega, by omega⟩
  clear hq e2 hm
  go_enter Tryz.func174, Tryz.ntmps174
  go_wp2
  go_ret
  exact ⟨rfl, rfl⟩

theorem checkStream_long (a : Option Addr) (n cp : Nat) (hm : 400000 < n) (hl : n ≤ 1000000) (w : World) :
    Calls Tryz.prog 178 #[.slice a n cp] w fun e w' => e = .returned (.int .i64 26) ∧ Below w.heap.size w w' := by
  have i1 : (400000 : Int) < (n : Int) := by omega
  have i2 : (n : Int) ≤ 1000000 := by omega
  go_enter Tryz.func178, Tryz.ntmps178
  go_wp2
  go_ret
  exact ⟨rfl, Below.refl _ _⟩
theorem checkStream_short (a : Option Addr) (n cp : Nat) (hm : n < 4) (w : World) :
    Calls Tryz.prog 178 #[.slice a n cp] w fun e w' => e = .returned (.int .i64 28) ∧ Below w.heap.size w w' := by
  have i1 : ¬ ((400000 : Int) < (n : Int)) := by omega
  have i2 : (n : Int) < 4 := by omega
  go_enter Tryz.func178, Tryz.ntmps178
  go_wp2
  go_ret
  exact ⟨rfl, Below.refl _ _⟩

/-- The literal's row, made of a constant. -/
theorem magic_row (w : World) : (w.alloc (.cells #[.int .u8 76, .int .u8 77, .int .u8 65, .int .u8 80] 5 (4, 5))).rangeAt w.heap.size 0 (magicL.map (Value.int .u8)) := fun i v hv => by
  rw [Nat.zero_add, cell_of_row _ _ i _ _ (4, 5) (heap_alloc_new w _)]
  simpa [magicL] using hv
end Go.Proofs.YtfdkmmllemkogaaGreatDoor

/-
  Contract of checkStream for any bytes.
-/
namespace Go.Proofs.YtfdkmmllemkogaaGreatDoor
open Go.RowKit
set_option linter.unusedVariables false
set_option linter.unusedSimpArgs false

theorem magic_const (w : World) : (convert 109 109 (.slice (some ⟨w.heap.size, 0, none⟩) 4 4)).run Tryz.prog (w.alloc (.cells #[.int .u8 76, .int .u8 77, .int .u8 65, .int .u8 80] 5)) = .ok (.slice (some ⟨w.heap.size, 0, none⟩) 4 4) (w.alloc (.cells #[.int .u8 76, .int .u8 77, .int .u8 65, .int .u8 80] 5 (4, 5))) :=
  Lib.run_convert_bytes_const w 109 5 #[.int .u8 76, .int .u8 77, .int .u8 65, .int .u8 80] 4 4 Tryz.underlying109 Tryz.underlying5

set_option maxHeartbeats 3200000 in
theorem checkStream_form (S : List Int) (b q n cp : Nat) (hS : BytesV S n) (h4 : 4 ≤ n) (hn : n ≤ 2000) (hcp : n ≤ cp) (hcq : cp ≤ 9223372036854775807) (w : World) (hb : b < w.heap.size) (hr : w.rangeAt b q (S.map (Value.int .u8))) (hne : S.take 4 ≠ magicL) :
    Calls Tryz.prog 178 #[.slice (some ⟨b, q, none⟩) n cp] w fun e w' => e = .returned (.int .i64 1) ∧ Below w.heap.size w w' := by
  have i1 : ¬ ((400000 : Int) < (n : Int)) := by omega
  have i2 : ¬ ((n : Int) < 4) := by omega
  obtain ⟨W1, hW1⟩ : ∃ W1, w.alloc (.cells #[.int .u8 76, .int .u8 77, .int .u8 65, .int .u8 80] 5 (4, 5)) = W1 := ⟨_, rfl⟩
  have hB1 : Below w.heap.size w W1 := by rw [← hW1]; exact (Below.refl _ w).alloc (Nat.le_refl _) _
  have kc := magic_const w
  have hm := magic_row w
  rw [hW1] at kc hm
  have K := hasPrefix_any S b q n cp w.heap.size hS h4 (by omega) hcp hcq W1 (range_below hr hB1 hb) hm
  rw [decide_eq_false hne] at K
  have HK := Lib.hid K
  have HB := Lib.hid hB1
  clear K hB1 hW1 hr hm hS hne
  go_enter Tryz.func178, Tryz.ntmps178
  go_wp2_with (go_at_call 211; refine HK.out.mono ?_; rintro e w' ⟨rfl, rfl⟩)
  go_ret
  exact ⟨rfl, HB.out⟩

set_option maxHeartbeats 3200000 in
theorem checkStream_head (S : List Int) (b q n cp : Nat) (hS : BytesV S n) (h4 : 4 ≤ n) (hn : n < 6) (hcp : n ≤ cp) (hcq : cp ≤ 9223372036854775807) (w : World) (hb : b < w.heap.size) (hr : w.rangeAt b q (S.map (Value.int .u8))) (hne : S.take 4 = magicL) :
    Calls Tryz.prog 178 #[.slice (some ⟨b, q, none⟩) n cp] w fun e w' => e = .returned (.int .i64 28) ∧ Below w.heap.size w w' := by
  have i1 : ¬ ((400000 : Int) < (n : Int)) := by omega
  have i2 : ¬ ((n : Int) < 4) := by omega
  have i3 : (n : Int) < 6 := by omega
  obtain ⟨W1, hW1⟩ : ∃ W1, w.alloc (.cells #[.int .u8 76, .int .u8 77, .int .u8 65, .int .u8 80] 5 (4, 5)) = W1 := ⟨_, rfl⟩
  have hB1 : Below w.heap.size w W1 := by rw [← hW1]; exact (Below.refl _ w).alloc (Nat.le_refl _) _
  have kc := magic_const w
  have hm := magic_row w
  rw [hW1] at kc hm
  have K := hasPrefix_any S b q n cp w.heap.size hS h4 (by omega) hcp hcq W1 (range_below hr hB1 hb) hm
  rw [decide_eq_true hne] at K
  have HK := Lib.hid K
  have HB := Lib.hid hB1
  clear K hB1 hW1 hr hm hS hne
  go_enter Tryz.func178, Tryz.ntmps178
  go_upto_region 7 with (go_at_call 211; refine HK.out.mono ?_; rintro e w' ⟨rfl, rfl⟩)
  go_quiet (fail)
  go_wp2
  go_ret
  exact ⟨rfl, below_drewN HB.out _⟩

set_option maxRecDepth 100000 in
set_option maxHeartbeats 6400000 in
theorem checkStream_body (S : List Int) (b q n cp W H : Nat) (hS : BytesV S n) (eW : S[4]?.getD 0 = (W : Int)) (eH : S[5]?.getD 0 = (H : Int)) (h6 : 6 ≤ n) (hn : n ≤ 2000) (hcp : n ≤ cp) (hcq : cp ≤ 9223372036854775807) (w : World) (hb : b < w.heap.size) (hr : w.rangeAt b q (S.map (Value.int .u8))) (hne : S.take 4 = magicL) :
    Calls Tryz.prog 178 #[.slice (some ⟨b, q, none⟩) n cp] w fun e w' => e = .returned (.int .i64 (if n < 10 + 4 * (W * H) then 28 else if 10 + 4 * (W * H) < n then 2 else if numOf (S.drop (n - 4)) ≠ chkOf (S.take (n - 4)) then 27 else 0)) ∧ Below w.heap.size w w' := by
  have i1 : ¬ ((400000 : Int) < (n : Int)) := by omega
  have i2 : ¬ ((n : Int) < 4) := by omega
  have i3 : ¬ ((n : Int) < 6) := by omega
  have i4 : (4 : Int) < (n : Int) := by omega
  have i5 : (5 : Int) < (n : Int) := by omega
  have i6 : (n : Int) ≤ 2000 := by omega
  obtain ⟨W1, hW1⟩ : ∃ W1, w.alloc (.cells #[.int .u8 76, .int .u8 77, .int .u8 65, .int .u8 80] 5 (4, 5)) = W1 := ⟨_, rfl⟩
  have hB1 : Below w.heap.size w W1 := by rw [← hW1]; exact (Below.refl _ w).alloc (Nat.le_refl _) _
  have kc := magic_const w
  have hm := magic_row w
  rw [hW1] at kc hm
  have hr1 := range_below hr hB1 hb
  have K := hasPrefix_any S b q n cp w.heap.size hS (by omega) (by omega) hcp hcq W1 hr1 hm
  rw [decide_eq_true hne] at K
  have HK := Lib.hid K
  have HB := Lib.hid hB1
  have hl := hS.1
  have bd : ∀ j, j < n → 0 ≤ S[j]?.getD 0 ∧ S[j]?.getD 0 ≤ 255 := fun j hj => by
    rw [List.getElem?_eq_getElem (by omega)]; exact hS.2 _ (List.getElem_mem _)
  have c4 : W1.cell? ⟨b, q + 4, none⟩ = some (.int .u8 (W : Int)) := by
    have := range_cells hr1 4 (by omega)
    rwa [List.getD_eq_getElem?_getD, eW] at this
  have c5 : W1.cell? ⟨b, q + 5, none⟩ = some (.int .u8 (H : Int)) := by
    have := range_cells hr1 5 (by omega)
    rwa [List.getD_eq_getElem?_getD, eH] at this
  have bW := (bd 4 (by omega)); rw [eW] at bW
  have bH := (bd 5 (by omega)); rw [eH] at bH
  have hW : W ≤ 255 := by omega
  have hH : H ≤ 255 := by omega
  obtain ⟨bW0, bW1⟩ := bW
  obtain ⟨bH0, bH1⟩ := bH
  have wW : IntKind.i64.wrap (W : Int) = (W : Int) := IntWalk.i64_in _ ⟨by omega, by omega⟩
  have wH : IntKind.i64.wrap (H : Int) = (H : Int) := IntWalk.i64_in _ ⟨by omega, by omega⟩
  have KZ : Hid (∀ w1 : World, Calls Tryz.prog 174 #[.int .i64 W, .int .i64 H] w1 fun e w' => e = .returned (.int .i64 ((10 + 4 * (W * H) : Nat) : Int)) ∧ w1 = w') := Lib.hid (streamSize_wide W H hW hH)
  obtain ⟨E, hE⟩ : ∃ E : Nat, n = E + 4 := ⟨n - 4, by omega⟩
  have eE : n - 4 = E := by omega
  rw [eE]
  have eI : (n : Int) - 4 = (E : Int) := by omega
  have wI : IntKind.i64.wrap ((n : Int) - 4) = (E : Int) := by rw [eI]; exact IntWalk.i64_in _ ⟨by omega, by omega⟩
  have j1 : (E : Int) ≤ (n : Int) := by omega
  have j2 : (E : Int) ≤ (cp : Int) := by omega
  have j3 : (n : Int) ≤ (cp : Int) := by omega
  have j4 : E ≤ n := by omega
  have j5 : E ≤ cp := by omega
  have j6 : E < cp := by omega
  have j7 : (E : Int) < (cp : Int) := by omega
  have j8 : (E : Int) < (n : Int) := by omega
  have j9 : (0 : Int) ≤ (E : Int) := by omega
  have j10 : ¬ (cp = E) := by omega
  have KN : Hid (∀ w1 : World, Below w.heap.size w w1 → ∀ c', Calls Tryz.prog 179 #[.slice (some ⟨b, q + E, none⟩) (n - E) c'] w1 fun e w' => e = .returned (.int .i64 (numOf (S.drop E))) ∧ w1 = w') := Lib.hid fun w1 h c' => by
    refine readNumber_any b (q + E) (n - E) c' (S.drop E) w1 (by rw [List.length_drop, hl]) (by omega) (fun j hj => ?_) (fun j hj => ?_)
    · rw [List.getElem?_drop]; exact bd _ (by omega)
    · have := range_cells (range_drop E (range_below hr h hb)) j (by rw [List.length_drop, hl]; omega)
      rwa [List.getD_eq_getElem?_getD] at this
  have KC : Hid (∀ w1 : World, Below w.heap.size w w1 → ∀ c', Calls Tryz.prog 177 #[.slice (some ⟨b, q, none⟩) E c'] w1 fun e w' => e = .returned (.int .i64 (chkOf (S.take E))) ∧ w1 = w') := Lib.hid fun w1 h c' => by
    refine checksum_any b q E c' (S.take E) w1 (by rw [List.length_take, hl]; omega) (by omega) (fun j hj => ?_) (fun j hj => ?_)
    · rw [List.getElem?_take_of_lt hj]; exact bd _ (by omega)
    · have := range_cells (range_take E (range_below hr h hb)) j (by rw [List.length_take, hl]; omega)
      rwa [List.getD_eq_getElem?_getD] at this
  obtain ⟨Z, hZ⟩ : ∃ Z, 10 + 4 * (W * H) = Z := ⟨_, rfl⟩
  rw [hZ] at KZ ⊢
  obtain ⟨x, hx⟩ : ∃ x, numOf (S.drop E) = x := ⟨_, rfl⟩
  obtain ⟨y, hy⟩ : ∃ y, chkOf (S.take E) = y := ⟨_, rfl⟩
  rw [hx] at KN ⊢
  rw [hy] at KC ⊢
  have HE := Lib.hid hE
  have HI := Lib.hid wI
  clear K hB1 hW1 hr hm hS hne eW eH hr1 bd hl hZ hx hy hE wI eE eI
  have KQ : Hid (∀ w1 : World, Calls Tryz.prog 174 #[.int .i64 (IntKind.i64.wrap W), .int .i64 (IntKind.i64.wrap H)] w1 fun e w' => e = .returned (.int .i64 (Z : Int)) ∧ w' = w1) := Lib.hid fun w1 => by rw [wW, wH]; exact (KZ.out w1).mono fun e w' ⟨h1, h2⟩ => ⟨h1, h2.symm⟩
  have KQN : Hid (∀ w1 : World, Below w.heap.size w w1 → ∀ c', Calls Tryz.prog 179 #[.slice (some ⟨b, q + E, none⟩) (n - E) c'] w1 fun e w' => e = .returned (.int .i64 x) ∧ w' = w1) := Lib.hid fun w1 h c' => (KN.out w1 h c').mono fun e w' ⟨h1, h2⟩ => ⟨h1, h2.symm⟩
  have KQC : Hid (∀ w1 : World, Below w.heap.size w w1 → ∀ c', Calls Tryz.prog 177 #[.slice (some ⟨b, q, none⟩) E c'] w1 fun e w' => e = .returned (.int .i64 y) ∧ w' = w1) := Lib.hid fun w1 h c' => (KC.out w1 h c').mono fun e w' ⟨h1, h2⟩ => ⟨h1, h2.symm⟩
  clear KZ KN KC wW wH
  rcases Nat.lt_trichotomy n Z with hlt | heq | hgt
  · rw [if_pos hlt]
    have t1 : (n : Int) < (Z : Int) := by omega
    go_enter Tryz.func178, Tryz.ntmps178
    go_upto_region 7 with (go_at_call 211; refine HK.out.mono ?_; rintro e w' ⟨rfl, rfl⟩)
    go_quiet ((go_at_call 174; with_reducible exact Calls.quiet_of_same (KQ.out _)))
    go_wp2
    go_ret
    exact ⟨rfl, below_drewN HB.out _⟩
  · subst heq
    rw [if_neg (Nat.lt_irrefl _), if_neg (Nat.lt_irrefl _)]
    obtain ⟨r, hr⟩ : ∃ r : Int, (if x ≠ y then 27 else 0) = r := ⟨_, rfl⟩
    have hz : ((x != y) = false ∧ r = 0) ∨ ((x != y) = true ∧ r = 27) := by
      rw [← hr]
      by_cases h : x = y
      · exact .inl ⟨by simp [h], by simp [h]⟩
      · exact .inr ⟨by simp [h], by simp [h]⟩
    rw [hr]
    have HZ := Lib.hid hz
    clear hr hz
    have t1 : ¬ ((n : Int) < (n : Int)) := by omega
    go_enter Tryz.func178, Tryz.ntmps178
    go_upto_region 7 with (go_at_call 211; refine HK.out.mono ?_; rintro e w' ⟨rfl, rfl⟩)
    go_quiet ((go_at_call 174; with_reducible exact Calls.quiet_of_same (KQ.out _)))
    rename_i nq
    obtain ⟨W2, hW2⟩ : ∃ W2, W1.drewN nq = W2 := ⟨_, rfl⟩
    have HB2 : Hid (Below w.heap.size w W2) := Lib.hid (by rw [← hW2]; exact below_drewN HB.out _)
    have d4 : W2.cell? ⟨b, q + 4, none⟩ = some (.int .u8 (W : Int)) := by rw [← hW2]; exact c4
    have d5 : W2.cell? ⟨b, q + 5, none⟩ = some (.int .u8 (H : Int)) := by rw [← hW2]; exact c5
    rw [hW2]
    clear hW2 c4 c5
    go_upto_region 9 with fail
    go_quiet ((go_at_call 174; with_reducible exact Calls.quiet_of_same (KQ.out _)))
    generalize hW3 : World.drewN W2 _ = W3
    have HB3 : Hid (Below w.heap.size w W3) := Lib.hid (by rw [← hW3]; exact below_drewN HB2.out _)
    clear hW3 d4 d5
    have wI := HI.out
    have HB4 : Hid (∀ m, Below w.heap.size w (W3.drewN m)) := Lib.hid fun m => below_drewN HB3.out m
    rcases HZ.out with ⟨e1, e2⟩ | ⟨e1, e2⟩
    all_goals
      have E2 := Lib.hid e2
      clear e2
      go_upto_region 12 with fail
      go_quiet (first | (go_at_call 179; with_reducible exact Calls.quiet_of_same (KQN.out _ (HB4.out _) _)) | (go_at_call 177; with_reducible exact Calls.quiet_of_same (KQC.out _ (HB4.out _) _)))
      go_wp2
      go_ret
      exact ⟨ret_int E2.out.symm, HB4.out _⟩
  · rw [if_neg (by omega), if_pos hgt]
    have t1 : ¬ ((n : Int) < (Z : Int)) := by omega
    have t2 : (Z : Int) < (n : Int) := by omega
    go_enter Tryz.func178, Tryz.ntmps178
    go_upto_region 7 with (go_at_call 211; refine HK.out.mono ?_; rintro e w' ⟨rfl, rfl⟩)
    go_quiet ((go_at_call 174; with_reducible exact Calls.quiet_of_same (KQ.out _)))
    rename_i nq
    obtain ⟨W2, hW2⟩ : ∃ W2, W1.drewN nq = W2 := ⟨_, rfl⟩
    have HB2 : Hid (Below w.heap.size w W2) := Lib.hid (by rw [← hW2]; exact below_drewN HB.out _)
    have d4 : W2.cell? ⟨b, q + 4, none⟩ = some (.int .u8 (W : Int)) := by rw [← hW2]; exact c4
    have d5 : W2.cell? ⟨b, q + 5, none⟩ = some (.int .u8 (H : Int)) := by rw [← hW2]; exact c5
    rw [hW2]
    clear hW2 c4 c5
    go_upto_region 9 with fail
    go_quiet ((go_at_call 174; with_reducible exact Calls.quiet_of_same (KQ.out _)))
    go_wp2
    go_ret
    exact ⟨rfl, below_drewN HB2.out _⟩

theorem checkStream_all (S : List Int) (a : Option Addr) (n cp : Nat) (hn : n ≤ 2000) (hcp : n ≤ cp) (hcq : cp ≤ 9223372036854775807) (w : World) (hA : AnyBytes w a n S) :
    Calls Tryz.prog 178 #[.slice a n cp] w fun e w' => e = .returned (.int .i64 (unErr0 S)) ∧ Below w.heap.size w w' := by
  have hS := hA.1
  have hl := hS.1
  by_cases h4 : n < 4
  · unfold unErr0
    rw [if_pos (by omega)]
    exact checkStream_short a n cp h4 w
  obtain ⟨b, q, rfl, hb, hr⟩ := hA.2 0 (by omega)
  by_cases hm : S.take 4 = magicL
  · by_cases h6 : n < 6
    · unfold unErr0
      rw [if_neg (by omega), if_neg (by simp [hm]), if_pos (by omega)]
      exact checkStream_head S b q n cp hS (by omega) h6 hcp hcq w hb hr hm
    · have bd : ∀ j, j < n → 0 ≤ S[j]?.getD 0 ∧ S[j]?.getD 0 ≤ 255 := fun j hj => by
        rw [List.getElem?_eq_getElem (by omega)]; exact hS.2 _ (List.getElem_mem _)
      obtain ⟨W, hW⟩ := Int.eq_ofNat_of_zero_le (bd 4 (by omega)).1
      obtain ⟨H, hH⟩ := Int.eq_ofNat_of_zero_le (bd 5 (by omega)).1
      have h := checkStream_body S b q n cp W H hS hW hH (by omega) hn hcp hcq w hb hr hm
      have e : unErr0 S = (if n < 10 + 4 * (W * H) then 28 else if 10 + 4 * (W * H) < n then 2 else if numOf (S.drop (n - 4)) ≠ chkOf (S.take (n - 4)) then 27 else 0) := by
        have eN : unEnd S = 6 + 4 * (W * H) := by unfold unEnd unN unW unH byteAt; rw [hW, hH]; rfl
        unfold unErr0
        rw [if_neg (by omega), if_neg (by simp [hm]), if_neg (by omega), eN, hl]
        by_cases h1 : n < 10 + 4 * (W * H)
        · rw [if_pos h1, if_pos (by omega)]
        · rw [if_neg h1, if_neg (by omega)]
          by_cases h2 : 10 + 4 * (W * H) < n
          · rw [if_pos h2, if_pos (by omega)]
          · rw [if_neg h2, if_neg (by omega), show n - 4 = 6 + 4 * (W * H) by omega]
      rw [e]
      exact h
  · unfold unErr0
    rw [if_neg (by omega), if_pos hm]
    exact checkStream_form S b q n cp hS (by omega) hn hcp hcq w hb hr hm
end Go.Proofs.YtfdkmmllemkogaaGreatDoor

/-
  Contract of the reference's Pack for a right map: the bytes of its stream.
-/
namespace Go.Proofs.YtfdkmmllemkogaaGreatDoor
open Go.RowKit
set_option linter.unusedVariables false
set_option linter.unusedSimpArgs false

theorem smp_of_zero : Smp 0 0 := by have h := smpOf_smp 0 (by decide); rwa [smpOf_zero] at h
theorem order_zero {x : Nat} (h : Smp x 0) : (FloatKind.f32.format.order x 0 != some .eq) = false := order_eq_neq h smp_of_zero
theorem order_nonzero {x : Nat} {k : Int} (h : Smp x k) (hk : k ≠ 0) : (FloatKind.f32.format.order x 0 != some .eq) = true := by
  have e : Ieee.single.order x 0 = some (compare k 0) := h.order smp_of_zero
  show (Ieee.single.order x 0 != some .eq) = true
  rw [e]
  have e2 : compare k 0 ≠ .eq := by
    show compareOfLessAndEq k 0 ≠ .eq
    unfold compareOfLessAndEq
    split
    · simp
    · simp [hk]
  cases h2 : compare k 0 <;> simp_all
theorem one_bytes (L : List Int) : ∀ u ∈ L.map (Value.int .u8), u.oneCell' = true := by
  intro u hu; obtain ⟨y, _, rfl⟩ := List.mem_map.1 hu; rfl
theorem row_cells {w : World} {B : Nat} {T : TypeId} {x y z : Value} (h : w.heap[B]? = some (.cells #[x, y, z] T (0, 0))) :
    w.cell? ⟨B, 0, none⟩ = some x ∧ w.cell? ⟨B, 1, none⟩ = some y ∧ w.cell? ⟨B, 2, none⟩ = some z :=
  ⟨by rw [cell_of_row w _ 0 _ _ (0, 0) h]; rfl, by rw [cell_of_row w _ 1 _ _ (0, 0) h]; rfl, by rw [cell_of_row w _ 2 _ _ (0, 0) h]; rfl⟩
theorem word_bytes (v : Int) : bytesL v 4 4 = wordOf v := rfl
theorem run_toInt32 (d : Nat) : ∀ w : World, (convert 229 3 (.int .u32 d)).run Tryz.prog w = .ok (.int .i64 (IntKind.i64.wrap d)) w := fun w => by
  have hs := Tryz.underlying229
  have hd := Tryz.underlying3
  simp [convert, run_underlying hs, run_underlying hd, Conv.intToInt]

set_option maxRecDepth 100000 in
set_option maxHeartbeats 6400000 in
theorem refPack_any (W H : Nat) (b o c n : Nat) (xs : List Nat) (ks : List Int) (w : World) (hA : RightMap w W H b o n xs ks) (hb : b < w.heap.size) :
    Calls Tryz.prog 90 #[.agg #[.int .i64 W, .int .i64 H, .slice (some ⟨b, o, none⟩) n c]] w fun e w' =>
      ∃ v, e = .returned v ∧ w'.ownsRow w.heap.size 5 1 v (10 + 4 * n) ((packL W H ks).map (Value.int .u8)) ∧ Below w.heap.size w w' := by
  obtain ⟨i0, hi, hz0, hz1, hz2⟩ := info_parts Tryz.infoByte
  obtain ⟨W0, hW0⟩ : ∃ W0, w.alloc (.cells #[.int .i64 W, .int .i64 H, .slice (some ⟨b, o, none⟩) n c] 48) = W0 := ⟨_, rfl⟩
  have hB0 : Below w.heap.size w W0 := by rw [← hW0]; exact (Below.refl _ w).alloc (Nat.le_refl _) _
  have hS0 : W0.heap.size = w.heap.size + 1 := by rw [← hW0]; simp
  have r0 : W0.heap[w.heap.size]? = some (.cells #[.int .i64 W, .int .i64 H, .slice (some ⟨b, o, none⟩) n c] 48 (0, 0)) := by rw [← hW0]; exact blk_alloc_new _ _
  obtain ⟨W1, hW1⟩ : ∃ W1, W0.alloc (.cells #[.int .u8 76, .int .u8 77, .int .u8 65, .int .u8 80] 5 (4, 5)) = W1 := ⟨_, rfl⟩
  have kc := Lib.run_convert_bytes_const (P := Tryz.prog) W0 109 5 #[.int .u8 76, .int .u8 77, .int .u8 65, .int .u8 80] 4 4 Tryz.underlying109 Tryz.underlying5
  have hm1 := magic_row W0
  rw [hW1] at hm1
  have hB1 : Below w.heap.size w W1 := by rw [← hW1]; exact hB0.alloc (by omega) _
  have hS1 : W1.heap.size = w.heap.size + 2 := by rw [← hW1]; simp [hS0]
  have r1 : W1.heap[w.heap.size]? = some (.cells #[.int .i64 W, .int .i64 H, .slice (some ⟨b, o, none⟩) n c] 48 (0, 0)) := by rw [← hW1]; exact blk_alloc_other r0 _
  obtain ⟨c0, c1, c2⟩ := row_cells r1
  have kc' : (convert 109 109 (.slice (some ⟨W0.heap.size, 0, none⟩) 4 4)).run Tryz.prog (W0.alloc (.cells #[.int .u8 76, .int .u8 77, .int .u8 65, .int .u8 80] 5)) = .ok (.slice (some ⟨W0.heap.size, 0, none⟩) 4 4) W1 := by rw [← hW1]; exact kc
  have hWi := hA.wid
  have hHe := hA.hei
  have hW64 : W ≤ 64 := by omega
  have hH64 : H ≤ 64 := by omega
  have hN : W * H = n := by have := hA.area; exact_mod_cast this
  have hsm := hA.small
  have u1 : IntKind.u8.wrap (W : Int) = (W : Int) := IntWalk.u8_in _ ⟨by omega, by omega⟩
  have u2 : IntKind.u8.wrap (H : Int) = (H : Int) := IntWalk.u8_in _ ⟨by omega, by omega⟩
  have hn1 : 1 ≤ n := by have := Nat.mul_le_mul (show 1 ≤ W by omega) (show 1 ≤ H by omega); omega
  obtain ⟨W2, hW2⟩ : ∃ W2, W1.alloc (.cells #[.int .u8 W, .int .u8 H] 5) = W2 := ⟨_, rfl⟩
  have hB2 : Below w.heap.size w W2 := by rw [← hW2]; exact hB1.alloc (by omega) _
  have hS2 : W2.heap.size = w.heap.size + 3 := by rw [← hW2]; simp [hS1]
  have r2 : W2.heap[w.heap.size]? = some (.cells #[.int .i64 W, .int .i64 H, .slice (some ⟨b, o, none⟩) n c] 48 (0, 0)) := by rw [← hW2]; exact blk_alloc_other r1 _
  have hm2 : W2.rangeAt W0.heap.size 0 (magicL.map (Value.int .u8)) := range_below hm1 (show Below W1.heap.size W1 W2 by rw [← hW2]; exact (Below.refl _ W1).alloc (Nat.le_refl _) _) (by omega)
  have bN : W2.heap[W1.heap.size]? = some (.cells #[.int .u8 W, .int .u8 H] 5 (0, 0)) := by rw [← hW2]; exact blk_alloc_new _ _
  have HC : Hid (∀ j u, ([.int .u8 W, .int .u8 H] : List Value)[j]? = some u → W2.cell? ((⟨W1.heap.size, 0, none⟩ : Addr).add j) = some u) := Lib.hid fun j u hu => by
    rw [Addr.add_mid, Nat.zero_add, cell_of_row _ _ j _ _ (0, 0) bN]
    simpa using hu
  have HM2 : Hid (∀ bb : Addr, some (⟨W0.heap.size, 0, none⟩ : Addr) = some bb → ∀ j u, (magicL.map (Value.int .u8))[j]? = some u → W2.cell? (bb.add j) = some u) := Lib.hid fun bb hbb j u hu => by
    cases hbb
    rw [Addr.add_mid]
    exact hm2 j u hu
  have HB2 := Lib.hid hB2
  have HR2 := Lib.hid r2
  have HRA := Lib.hid hA
  have HN := Lib.hid hN
  have HW2 := Lib.hid hW2
  have HS1 := Lib.hid hS1
  rw [hS0] at kc' HM2
  rw [hS1] at HC
  have HW1 := Lib.hid hW1
  clear hA hB0 hB1 hB2 hW1 r0 r1 r2 hm1 hm2 bN kc hN hW2
  go_enter Tryz.func90, Tryz.ntmps90
  go_upto_region 1 with fail
  try rw [hW0]
  clear hW0
  go_upto_region 2 with (
    (at_builtin; try rw [HW2.out]; refine wpList_append_grows _ rfl (.tmp 8) (.tmp 15) 109 rfl 5 i0 (.int .u8 0) 1 1 Tryz.underlying109 hi hz0 hz1 hz2 rfl (by decide) (some ⟨w.heap.size + 1, 0, none⟩) 4 4 (magicL.map (Value.int .u8)) rfl (fun h => by cases h) rfl HM2.out ⟨w.heap.size + 2, 0, none⟩ 2 2 [.int .u8 W, .int .u8 H] rfl rfl HC.out (by intro u hu; simp at hu; rcases hu with rfl | rfl <;> rfl) (by omega) (by unfold maxLen; omega) (by omega) ?_; intro v3 w3 hown3 hgrow3))
  have hown3' : w3.ownsRow W2.heap.size 5 1 v3 6 ((packHead W H).map (Value.int .u8)) := hown3
  have hb3 : Below w.heap.size w w3 := HB2.out.grown hgrow3 (by omega) (fun k hk => by cases hk)
  have r3 : w3.heap[w.heap.size]? = some (.cells #[.int .i64 W, .int .i64 H, .slice (some ⟨b, o, none⟩) n c] 48 (0, 0)) := (hgrow3.block _ (by omega) (by simp)).trans HR2.out
  have hs3 : W2.heap.size ≤ w3.heap.size := hgrow3.size
  have HO3 := Lib.hid hown3'
  have HB3 := Lib.hid hb3
  have HR3 := Lib.hid r3
  clear hown3 hown3' hgrow3 hb3 r3 HC HM2
  go_wp2_with fail
  go_loopw [3, 4, 5] (fun v i _ wr => ∃ k : Nat, k ≤ n ∧ i = .int .i64 k ∧ wr.ownsRow W2.heap.size 5 1 v (6 + 4 * k) ((packHead W H ++ packBody (ks.take k)).map (Value.int .u8)) ∧ Below w.heap.size w wr ∧ W2.heap.size ≤ wr.heap.size ∧ wr.heap[w.heap.size]? = some (.cells #[.int .i64 W, .int .i64 H, .slice (some ⟨b, o, none⟩) n c] 48 (0, 0)))
    (fun _ i _ _ => n - (intOf i).toNat)
  case atStart => exact ⟨0, Nat.zero_le _, rfl, HO3.out, HB3.out, hs3, HR3.out⟩
  case round =>
    obtain ⟨k, hk, rfl, hown, hnx, hsz, hrow⟩ := hrel
    obtain ⟨_, _, m2⟩ := row_cells hrow
    obtain ⟨ga, ca, rfl, hga, hgB⟩ := owns_some hown (by omega)
    by_cases hlt : k < n
    · have hcell : wr.cell? ⟨b, o + k, none⟩ = some (.float .f32 (xs[k]?.getD 0)) := (hnx.cell (by exact hb)).trans (HRA.out.cells k hlt)
      have hsmp := HRA.out.smps k hlt
      have hwd := HRA.out.words k hlt
      have hb16 := HRA.out.sizes k hlt
      obtain ⟨kj, hkj⟩ : ∃ kj : Int, ks[k]?.getD 0 = kj := ⟨_, rfl⟩
      obtain ⟨xj, hxj⟩ : ∃ xj : Nat, xs[k]?.getD 0 = xj := ⟨_, rfl⟩
      rw [hkj] at hsmp hb16
      rw [hxj] at hcell hsmp hwd
      have hsl := smpOf_word kj (Nat.lt_of_le_of_lt hb16 (by decide))
      have hsu := packBody_succ ks k (by rw [HRA.out.lenk]; exact hlt)
      rw [hkj] at hsu
      have KB := Lib.hid (refBytes_any (smpOf kj : Nat) 4 (by omega) (by omega) (by omega))
      have HSU := Lib.hid hsu
      have HO := Lib.hid hown
      have HNX := Lib.hid hnx
      have HRW := Lib.hid hrow
      have h4 : (k : Int) < (n : Int) := by omega
      have h5 : (0 : Int) ≤ (k : Int) := by omega
      by_cases h0 : kj = 0
      · subst h0
        have t1 := order_zero hsmp
        rw [smpOf_zero] at KB
        clear hown hnx hsu hkj hxj hsmp hwd hb16 hsl
        rw [show ((0 : Nat) : Int) = 0 from rfl] at KB
        go_wp2_with (first
          | (go_at_call 167; refine (KB.out _).mono ?_; rintro e w8 ⟨v8, rfl, hown8, hb8⟩;
             obtain ⟨g8, c8, rfl, hg8, _⟩ := owns_some hown8 (by omega);
             have ho8 := owns_kept HO.out hb8 (Nat.le_refl _);
             have hz8 := hb8.size)
          | (at_builtin; refine wpList_append_own _ rfl (.tmp 37) (.tmp 39) 109 rfl W2.heap.size 5 i0 (.int .u8 0) 1 1 Tryz.underlying109 hi hz0 hz1 hz2 rfl (by decide) _ (6 + 4 * k) _ rfl ho8 ⟨g8, 0, none⟩ 4 c8 ((bytesL 0 4 4).map (Value.int .u8)) rfl rfl (fun j u hu => by rw [Addr.add_mid, Nat.zero_add]; exact owns_cell hown8 hu) (one_bytes _) (by unfold maxLen; omega) (by omega) (by omega) ?_; intro v9 w9 hown9 hgrow9 _))
        have hlw := ho8.lt
        have r9 : w9.heap[w.heap.size]? = some (.cells #[.int .i64 W, .int .i64 H, .slice (some ⟨b, o, none⟩) n c] 48 (0, 0)) := (hgrow9.block _ (by omega) (fun e => by have := (hlw _ e.symm).1; omega)).trans ((hb8.block _ (by omega)).trans HRW.out)
        have hb9 : Below w.heap.size w w9 := ((HNX.out.trans (hb8.mono HNX.out.size))).grown hgrow9 (by omega) (fun j hj => by have := (hlw _ hj).1; omega)
        have hs9 := hgrow9.size
        have HO9 := Lib.hid hown9
        have HB9 := Lib.hid hb9
        have HR9 := Lib.hid r9
        clear hown9 hb9 r9 hgrow9 hown8 hb8 ho8 hlw
        go_roundw
        case rel =>
          refine ⟨k + 1, by omega, by go_num, ?_, HB9.out, by omega, HR9.out⟩
          rw [HSU.out, smpOf_zero, ← List.append_assoc, List.map_append]
          exact HO9.out
        case measure => simp [intOf]; omega
      · have t1 := order_nonzero hsmp h0
        have hxe : xj = smpOf kj := smp_word hwd hsmp h0 (by omega) hsl
        have hb32 := run_bits32 xj
        have hcv := run_toInt32 xj
        have hwr : IntKind.i64.wrap (xj : Int) = (xj : Int) := IntWalk.i64_in _ ⟨by omega, by omega⟩
        rw [hwr] at hcv
        rw [← hxe] at KB
        have HXE := Lib.hid hxe
        clear hown hnx hsu hkj hxj hsmp hwd hb16 hsl hxe h0
        go_wp2_with (first
          | (go_at_call 167; refine (KB.out _).mono ?_; rintro e w8 ⟨v8, rfl, hown8, hb8⟩;
             obtain ⟨g8, c8, rfl, hg8, _⟩ := owns_some hown8 (by omega);
             have ho8 := owns_kept HO.out hb8 (Nat.le_refl _);
             have hz8 := hb8.size)
          | (at_builtin; refine wpList_append_own _ rfl (.tmp 37) (.tmp 39) 109 rfl W2.heap.size 5 i0 (.int .u8 0) 1 1 Tryz.underlying109 hi hz0 hz1 hz2 rfl (by decide) _ (6 + 4 * k) _ rfl ho8 ⟨g8, 0, none⟩ 4 c8 ((bytesL xj 4 4).map (Value.int .u8)) rfl rfl (fun j u hu => by rw [Addr.add_mid, Nat.zero_add]; exact owns_cell hown8 hu) (one_bytes _) (by unfold maxLen; omega) (by omega) (by omega) ?_; intro v9 w9 hown9 hgrow9 _))
        have hlw := ho8.lt
        have r9 : w9.heap[w.heap.size]? = some (.cells #[.int .i64 W, .int .i64 H, .slice (some ⟨b, o, none⟩) n c] 48 (0, 0)) := (hgrow9.block _ (by omega) (fun e => by have := (hlw _ e.symm).1; omega)).trans ((hb8.block _ (by omega)).trans HRW.out)
        have hb9 : Below w.heap.size w w9 := ((HNX.out.trans (hb8.mono HNX.out.size))).grown hgrow9 (by omega) (fun j hj => by have := (hlw _ hj).1; omega)
        have hs9 := hgrow9.size
        have HO9 := Lib.hid hown9
        have HB9 := Lib.hid hb9
        have HR9 := Lib.hid r9
        clear hown9 hb9 r9 hgrow9 hown8 hb8 ho8 hlw
        go_roundw
        case rel =>
          refine ⟨k + 1, by omega, by go_num, ?_, HB9.out, by omega, HR9.out⟩
          rw [HSU.out, ← HXE.out, ← List.append_assoc, List.map_append]
          exact HO9.out
        case measure => simp [intOf]; omega
    · obtain rfl : k = n := by omega
      rw [List.take_of_length_le (by rw [HRA.out.lenk]; omega)] at hown
      have hpl : (packS W H ks).length = 6 + 4 * k := by rw [packS, List.length_append, packBody_len, HRA.out.lenk]; rfl
      have hbyte := byte_bd (ks := ks) hW64 hH64
      have hck := chk_bd (packS W H ks)
      have hget : ∀ j, j < 6 + 4 * k → (packS W H ks)[j]?.getD 0 ∈ packS W H ks := fun j hj => by
        rw [List.getElem?_eq_getElem (by rw [hpl]; exact hj)]; exact List.getElem_mem _
      have KC := Lib.hid (refChecksum_any ga 0 (6 + 4 * k) ca (packS W H ks) wr hpl (by omega) (fun j hj => hbyte _ (hget j hj)) (fun j hj => by
        rw [Nat.zero_add]
        exact owns_cell hown (by
          show ((packS W H ks).map (Value.int .u8))[j]? = _
          rw [List.getElem?_map, List.getElem?_eq_getElem (by rw [hpl]; exact hj)]; rfl)))
      have KB := Lib.hid (refBytes_any (chkOf (packS W H ks)) 4 hck.1 (by omega) (by omega))
      have HO : Hid (wr.ownsRow W2.heap.size 5 1 (.slice (some ⟨ga, 0, none⟩) (6 + 4 * k) ca) (6 + 4 * k) ((packS W H ks).map (Value.int .u8))) := Lib.hid hown
      have HNX := Lib.hid hnx
      clear hpl hbyte hck hget hown hnx hrow
      go_wp2_with (first
        | (go_at_call 169; refine KC.out.mono ?_; rintro e w7 ⟨rfl, rfl⟩)
        | (go_at_call 167; refine (KB.out _).mono ?_; rintro e w8 ⟨v8, rfl, hown8, hb8⟩;
           obtain ⟨g8, c8, rfl, hg8, _⟩ := owns_some hown8 (by omega);
           have ho8 := owns_kept HO.out hb8 (Nat.le_refl _);
           have hz8 := hb8.size)
        | (at_builtin; refine wpList_append_own _ rfl (.tmp 43) (.tmp 45) 109 rfl W2.heap.size 5 i0 (.int .u8 0) 1 1 Tryz.underlying109 hi hz0 hz1 hz2 rfl (by decide) _ (6 + 4 * k) _ rfl ho8 ⟨g8, 0, none⟩ 4 c8 ((bytesL (chkOf (packS W H ks)) 4 4).map (Value.int .u8)) rfl rfl (fun j u hu => by rw [Addr.add_mid, Nat.zero_add]; exact owns_cell hown8 hu) (one_bytes _) (by unfold maxLen; omega) (by omega) (by omega) ?_; intro v9 w9 hown9 hgrow9 _))
      have hlw := ho8.lt
      have hb9 : Below w.heap.size w w9 := ((HNX.out.trans (hb8.mono HNX.out.size))).grown hgrow9 (by omega) (fun j hj => by have := (hlw _ hj).1; omega)
      go_ret
      refine ⟨_, rfl, owns_base ?_ (show w.heap.size ≤ W2.heap.size by omega), hb9⟩
      rw [show 10 + 4 * k = 6 + 4 * k + 4 by omega, packL, List.map_append]
      exact hown9
end Go.Proofs.YtfdkmmllemkogaaGreatDoor

/-
  Contract of the reference's Unpack for any bytes, in parts: its errors.
-/
namespace Go.Proofs.YtfdkmmllemkogaaGreatDoor
open Go.RowKit
set_option linter.unusedVariables false
set_option linter.unusedSimpArgs false

/-- A result that is a map, and an error. -/
def UnRes (w : World) (r W H : Int) (L : List Int) (e : Ending) (w' : World) : Prop :=
  ∃ X Y a n c, e = .returned (.tuple #[.agg #[.int .i64 X, .int .i64 Y, .slice a n c], .int .i64 r]) ∧ ResV w' r W H L X Y a n c ∧ Below w.heap.size w w'
theorem UnRes.bad {w w' : World} {r W H : Int} {L : List Int} (hr : r ≠ 0) (hb : Below w.heap.size w w') : UnRes w r W H L (.returned (.tuple #[.agg #[.int .i64 0, .int .i64 0, .slice none 0 0], .int .i64 r])) w' :=
  ⟨0, 0, none, 0, 0, rfl, ResV.none _ _ _ _ _ hr, hb⟩

/-- A map's block behind three stores. -/
theorem map_ends {w W : World} {B : Nat} {x0 y0 s0 : Value} {T : TypeId} (hB : W.heap[B]? = some (.cells #[x0, y0, s0] T (0, 0))) (hb : Below w.heap.size w W) (hle : w.heap.size ≤ B) (x y s : Value) :
    (((W.setCell ⟨B, 0, none⟩ x).setCell ⟨B, 1, none⟩ y).setCell ⟨B, 2, none⟩ s).heap[B]? = some (.cells #[x, y, s] T (0, 0)) ∧ Below w.heap.size w (((W.setCell ⟨B, 0, none⟩ x).setCell ⟨B, 1, none⟩ y).setCell ⟨B, 2, none⟩ s) :=
  ⟨blk_set3 hB _ _ _, ((hb.setCell (p := ⟨B, 0, none⟩) hle _).setCell (p := ⟨B, 1, none⟩) hle _).setCell (p := ⟨B, 2, none⟩) hle _⟩

theorem magic_str {S : List Int} (hS : ∀ x ∈ S, 0 ≤ x ∧ x ≤ 255) : ((strOfNums (S.take 4)).toList == ([76, 77, 65, 80] : List UInt8)) = decide (S.take 4 = magicL) := by
  have h := str_eq (xs := S.take 4) (ys := magicL) (fun x hx => hS x (List.mem_of_mem_take hx)) (by decide)
  have e : (strOfNums magicL).toList = [76, 77, 65, 80] := by rw [ByteArray.toList_eq]; rfl
  rwa [e] at h

def ZM : Obj := .cells #[.int .i64 0, .int .i64 0, .slice none 0 0] 48
theorem zm_facts (w : World) : (w.alloc (.cells #[.int .i64 0, .int .i64 0, .slice none 0 0] 48)).heap[w.heap.size]? = some (.cells #[.int .i64 0, .int .i64 0, .slice none 0 0] 48 (0, 0)) := blk_alloc_new _ _

set_option maxRecDepth 100000 in
set_option maxHeartbeats 3200000 in
theorem refUnpack_long (S : List Int) (W H : Int) (L : List Int) (a : Option Addr) (n cp : Nat) (hm : 400000 < n) (hl : n ≤ 1000000) (w : World) :
    Calls Tryz.prog 91 #[.slice a n cp] w (UnRes w 26 W H L) := by
  have i1 : (400000 : Int) < (n : Int) := by omega
  have i2 : (n : Int) ≤ 1000000 := by omega
  obtain ⟨W0, hW0⟩ : ∃ W0, w.alloc (.cells #[.int .i64 0, .int .i64 0, .slice none 0 0] 48) = W0 := ⟨_, rfl⟩
  have hB0 : Below w.heap.size w W0 := by rw [← hW0]; exact (Below.refl _ w).alloc (Nat.le_refl _) _
  have r0 := zm_facts w
  rw [hW0] at r0
  obtain ⟨c0, c1, c2⟩ := row_cells r0
  have q0 : W0.frozen? ⟨w.heap.size, 0, none⟩ = false := frozen_of_row _ _ _ _ _ r0
  have q1 : W0.frozen? ⟨w.heap.size, 1, none⟩ = false := frozen_of_row _ _ _ _ _ r0
  have q2 : W0.frozen? ⟨w.heap.size, 2, none⟩ = false := frozen_of_row _ _ _ _ _ r0
  have HE := Lib.hid (map_ends r0 hB0 (Nat.le_refl _))
  clear r0 hB0
  go_enter Tryz.func91, Tryz.ntmps91
  go_upto_region 1 with fail
  try rw [hW0]
  clear hW0
  go_wp2
  exact bodyPost_ret (v := .tuple #[.agg #[.int .i64 0, .int .i64 0, .slice none 0 0], .int .i64 26]) (results_row_tmp Tryz.results91 _ _ w.heap.size 48 _ (0, 0) _ rfl (HE.out _ _ _).1 Tryz.underlying48 rfl (by kernel_rfl)) rfl (UnRes.bad (by decide) (HE.out _ _ _).2)

set_option maxRecDepth 100000 in
set_option maxHeartbeats 3200000 in
theorem refUnpack_short (S : List Int) (W H : Int) (L : List Int) (a : Option Addr) (n cp : Nat) (hm : n < 4) (w : World) :
    Calls Tryz.prog 91 #[.slice a n cp] w (UnRes w 28 W H L) := by
  have i1 : ¬ ((400000 : Int) < (n : Int)) := by omega
  have i2 : (n : Int) < 4 := by omega
  obtain ⟨W0, hW0⟩ : ∃ W0, w.alloc (.cells #[.int .i64 0, .int .i64 0, .slice none 0 0] 48) = W0 := ⟨_, rfl⟩
  have hB0 : Below w.heap.size w W0 := by rw [← hW0]; exact (Below.refl _ w).alloc (Nat.le_refl _) _
  have r0 := zm_facts w
  rw [hW0] at r0
  obtain ⟨c0, c1, c2⟩ := row_cells r0
  have q0 : W0.frozen? ⟨w.heap.size, 0, none⟩ = false := frozen_of_row _ _ _ _ _ r0
  have q1 : W0.frozen? ⟨w.heap.size, 1, none⟩ = false := frozen_of_row _ _ _ _ _ r0
  have q2 : W0.frozen? ⟨w.heap.size, 2, none⟩ = false := frozen_of_row _ _ _ _ _ r0
  have HE := Lib.hid (map_ends r0 hB0 (Nat.le_refl _))
  clear r0 hB0
  go_enter Tryz.func91, Tryz.ntmps91
  go_upto_region 1 with fail
  try rw [hW0]
  clear hW0
  go_wp2
  exact bodyPost_ret (v := .tuple #[.agg #[.int .i64 0, .int .i64 0, .slice none 0 0], .int .i64 28]) (results_row_tmp Tryz.results91 _ _ w.heap.size 48 _ (0, 0) _ rfl (HE.out _ _ _).1 Tryz.underlying48 rfl (by kernel_rfl)) rfl (UnRes.bad (by decide) (HE.out _ _ _).2)

set_option maxRecDepth 100000 in
set_option maxHeartbeats 3200000 in
/-- Bytes that do not begin as a stream does, or end behind it. -/
theorem refUnpack_head (S : List Int) (W H : Int) (L : List Int) (r : Int) (b q n cp : Nat) (hS : BytesV S n) (h4 : 4 ≤ n) (hn : n ≤ 2000) (hcp : n ≤ cp) (hcq : cp ≤ 9223372036854775807) (w : World) (hb : b < w.heap.size) (hr : w.rangeAt b q (S.map (Value.int .u8)))
    (hw : (S.take 4 ≠ magicL ∧ r = 1) ∨ (S.take 4 = magicL ∧ n < 6 ∧ r = 28)) :
    Calls Tryz.prog 91 #[.slice (some ⟨b, q, none⟩) n cp] w (UnRes w r W H L) := by
  have i1 : ¬ ((400000 : Int) < (n : Int)) := by omega
  have i2 : ¬ ((n : Int) < 4) := by omega
  have i3 : (4 : Int) ≤ (n : Int) := by omega
  have i4 : (4 : Int) ≤ (cp : Int) := by omega
  have i5 : (cp : Int) ≤ 9223372036854775807 := by omega
  have i6 : 4 ≤ cp := by omega
  obtain ⟨W0, hW0⟩ : ∃ W0, w.alloc (.cells #[.int .i64 0, .int .i64 0, .slice none 0 0] 48) = W0 := ⟨_, rfl⟩
  have hB0 : Below w.heap.size w W0 := by rw [← hW0]; exact (Below.refl _ w).alloc (Nat.le_refl _) _
  have r0 := zm_facts w
  rw [hW0] at r0
  obtain ⟨c0, c1, c2⟩ := row_cells r0
  have q0 : W0.frozen? ⟨w.heap.size, 0, none⟩ = false := frozen_of_row _ _ _ _ _ r0
  have q1 : W0.frozen? ⟨w.heap.size, 1, none⟩ = false := frozen_of_row _ _ _ _ _ r0
  have q2 : W0.frozen? ⟨w.heap.size, 2, none⟩ = false := frozen_of_row _ _ _ _ _ r0
  have HE := Lib.hid (map_ends r0 hB0 (Nat.le_refl _))
  have hr0 := range_take 4 (range_below hr hB0 hb)
  have hl4 : (S.take 4).length = 4 := by rw [List.length_take, hS.1]; omega
  have kc := run_convert_bytes_arg (P := Tryz.prog) W0 109 5 Tryz.underlying109 Tryz.underlying5 b q 4 cp (S.take 4) hl4 (fun i hi => range_cells hr0 i (by rw [hl4]; exact hi)) 9 Tryz.underlying9
  have e1 := magic_str hS.2
  obtain ⟨s, hs⟩ : ∃ s, strOfNums (S.take 4) = s := ⟨_, rfl⟩
  rw [hs] at kc e1
  have HW := Lib.hid hw
  clear r0 hB0 hr hr0 hl4 hs hS hw
  rcases HW.out with ⟨h1, h2⟩ | ⟨h1, h5, h2⟩
  · rw [decide_eq_false h1] at e1
    have H2 := Lib.hid h2
    subst h2
    clear h1 HW
    go_enter Tryz.func91, Tryz.ntmps91
    go_upto_region 1 with fail
    try rw [hW0]
    clear hW0
    go_wp2
    exact bodyPost_ret (v := .tuple #[.agg #[.int .i64 0, .int .i64 0, .slice none 0 0], .int .i64 1]) (results_row_tmp Tryz.results91 _ _ w.heap.size 48 _ (0, 0) _ rfl (HE.out _ _ _).1 Tryz.underlying48 rfl (by kernel_rfl)) rfl (UnRes.bad (by decide) (HE.out _ _ _).2)
  · rw [decide_eq_true h1] at e1
    subst h2
    have h6 : (n : Int) < 6 := by omega
    clear h1 HW h5
    go_enter Tryz.func91, Tryz.ntmps91
    go_upto_region 1 with fail
    try rw [hW0]
    clear hW0
    go_wp2
    exact bodyPost_ret (v := .tuple #[.agg #[.int .i64 0, .int .i64 0, .slice none 0 0], .int .i64 28]) (results_row_tmp Tryz.results91 _ _ w.heap.size 48 _ (0, 0) _ rfl (HE.out _ _ _).1 Tryz.underlying48 rfl (by kernel_rfl)) rfl (UnRes.bad (by decide) (HE.out _ _ _).2)
end Go.Proofs.YtfdkmmllemkogaaGreatDoor
