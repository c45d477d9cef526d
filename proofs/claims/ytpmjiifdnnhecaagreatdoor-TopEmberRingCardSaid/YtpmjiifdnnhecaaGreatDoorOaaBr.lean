/-
  Contract of grid.toMap where an integer is that of no sample: the error.
-/
import Derived.Test.YtpmjiifdnnhecaaGreatDoorOaaBo
import Derived.Test.YtpmjiifdnnhecaaGreatDoorOaaXc
import Derived.Test.YtpmjiifdnnhecaaGreatDoorOaaPf
import Derived.Test.YtpmjiifdnnhecaaGreatDoorOaaWk
import Derived.Test.YtpmjiifdnnhecaaGreatDoorOaaBd
import Derived.Laws.BytesArg
import Derived.Lib.SlBytesConst
import Derived.Test.YtpmjiifdnnhecaaGreatDoorOaaZk
namespace Go.Proofs.YtpmjiifdnnhecaaGreatDoor
open Go.RowKit
set_option linter.unusedVariables false
set_option linter.unusedSimpArgs false

set_option maxRecDepth 100000 in
set_option maxHeartbeats 3200000 in
theorem toMap_large (W H : Int) (g o n c : Nat) (ks : List Int) (hk : ks.length = n) (hn : n ≤ 4096) (w : World) (hg : g < w.heap.size) (hc : ∀ j, j < n → w.cell? ⟨g, o + j, none⟩ = some (.int .i64 (ks[j]?.getD 0))) (hs : ¬ ∀ j, j < n → (ks[j]?.getD 0).natAbs ≤ 16384) :
    Calls Tryz.prog 153 #[.agg #[.int .i64 W, .int .i64 H, .slice (some ⟨g, o, none⟩) n c]] w fun e w' =>
      e = .returned (.tuple #[.agg #[.int .i64 0, .int .i64 0, .slice none 0 0], .int .i64 4]) ∧ Below w.heap.size w w' := by
  obtain ⟨j0, hj0, hlg, hbf⟩ := first_large hs
  have HC := Lib.hid hc
  have HS := Lib.hid hbf
  clear hc hs hbf hk
  go_enter Tryz.func153, Tryz.ntmps153
  go_wp2_with fail
  obtain ⟨W0, hW0⟩ : ∃ W0, ((w.alloc (.cells #[.int .i64 W, .int .i64 H, .slice (some ⟨g, o, none⟩) n c] 225)).alloc (.cells #[.int .i64 0, .int .i64 0, .slice none 0 0] 121)) = W0 := ⟨_, rfl⟩
  have hB0 : Below w.heap.size w W0 := by rw [← hW0]; exact ((Below.refl _ w).alloc (Nat.le_refl _) _).alloc (by simp) _
  have hz0 : W0.heap.size = w.heap.size + 2 := by rw [← hW0]; simp
  have c0 : W0.cell? ⟨w.heap.size, 0, none⟩ = some (.int .i64 W) := by rw [← hW0]; simp [go_sem]
  have c1 : W0.cell? ⟨w.heap.size, 1, none⟩ = some (.int .i64 H) := by rw [← hW0]; simp [go_sem]
  have c2 : W0.cell? ⟨w.heap.size, 2, none⟩ = some (.slice (some ⟨g, o, none⟩) n c) := by rw [← hW0]; simp [go_sem]
  have t0 : W0.cell? ⟨w.heap.size + 1, 0, none⟩ = some (.int .i64 0) := by rw [← hW0]; simp [go_sem]
  have t1 : W0.cell? ⟨w.heap.size + 1, 1, none⟩ = some (.int .i64 0) := by rw [← hW0]; simp [go_sem]
  have t2 : W0.cell? ⟨w.heap.size + 1, 2, none⟩ = some (.slice none 0 0) := by rw [← hW0]; simp [go_sem]
  have fz : ∀ j, W0.frozen? ⟨w.heap.size + 1, j, none⟩ = false := fun j => by rw [← hW0]; simp [go_sem]
  have bP0 : W0.heap[w.heap.size + 1]? = some (.cells #[.int .i64 0, .int .i64 0, .slice none 0 0] 121 (0, 0)) := by rw [← hW0]; exact blk_alloc_new1 _ _ _
  have f0 := fz 0
  have f1 := fz 1
  have f2 := fz 2
  rw [hW0]
  have HB0 := Lib.hid hB0
  have HZ0 := Lib.hid hz0
  have HBP := Lib.hid bP0
  clear hW0 hB0 hz0 bP0
  go_loop [9] (fun i => ∃ k : Nat, k ≤ j0 ∧ i = .int .i64 k) (fun i => n - (intOf i).toNat)
  case atStart => exact ⟨0, Nat.zero_le _, rfl⟩
  case round =>
    obtain ⟨k, hkn, rfl⟩ := hrel
    have hkl : k < n := by omega
    have hcell : W0.cell? ⟨g, o + k, none⟩ = some (.int .i64 (ks[k]?.getD 0)) := (HB0.out.cell (by exact hg)).trans (HC.out k hkl)
    by_cases hlt : k < j0
    · have hs := HS.out k hlt
      obtain ⟨v, hv⟩ : ∃ v, ks[k]?.getD 0 = v := ⟨_, rfl⟩
      rw [hv] at hcell hs
      have h1 : ¬ (v < -16384) := by omega
      have h2 : ¬ (16384 < v) := by omega
      clear hs hv
      go_wp2
      go_round
      case rel => exact ⟨k + 1, by omega, by go_num⟩
      case measure => simp [intOf]; omega
    · obtain rfl : k = j0 := by omega
      obtain ⟨v, hv⟩ : ∃ v, ks[k]?.getD 0 = v := ⟨_, rfl⟩
      rw [hv] at hcell hlg
      clear hv
      by_cases h1 : v < -16384
      · go_wp2
        obtain ⟨WF, hWF⟩ : ∃ WF, (((W0.setCell ⟨w.heap.size + 1, 0, none⟩ (.int .i64 0)).setCell ⟨w.heap.size + 1, 1, none⟩ (.int .i64 0)).setCell ⟨w.heap.size + 1, 2, none⟩ (.slice none 0 0)) = WF := ⟨_, rfl⟩
        have rF : WF.heap[w.heap.size + 1]? = some (.cells #[.int .i64 0, .int .i64 0, .slice none 0 0] 121 (0, 0)) := by rw [← hWF]; exact blk_set3 HBP.out _ _ _
        have bF : Below w.heap.size w WF := by
          rw [← hWF]
          exact ((HB0.out.setCell (p := ⟨w.heap.size + 1, 0, none⟩) (by show w.heap.size ≤ w.heap.size + 1; omega) _).setCell (p := ⟨w.heap.size + 1, 1, none⟩) (by show w.heap.size ≤ w.heap.size + 1; omega) _).setCell (p := ⟨w.heap.size + 1, 2, none⟩) (by show w.heap.size ≤ w.heap.size + 1; omega) _
        rw [hWF]
        exact bodyPost_ret (v := .tuple #[.agg #[.int .i64 0, .int .i64 0, .slice none 0 0], .int .i64 4]) (results_row_tmp Tryz.results153 _ _ (w.heap.size + 1) 121 _ (0, 0) _ rfl rF Tryz.underlying121 rfl (by kernel_rfl)) rfl ⟨rfl, bF⟩
      · have h2 : 16384 < v := by omega
        go_wp2
        obtain ⟨WF, hWF⟩ : ∃ WF, (((W0.setCell ⟨w.heap.size + 1, 0, none⟩ (.int .i64 0)).setCell ⟨w.heap.size + 1, 1, none⟩ (.int .i64 0)).setCell ⟨w.heap.size + 1, 2, none⟩ (.slice none 0 0)) = WF := ⟨_, rfl⟩
        have rF : WF.heap[w.heap.size + 1]? = some (.cells #[.int .i64 0, .int .i64 0, .slice none 0 0] 121 (0, 0)) := by rw [← hWF]; exact blk_set3 HBP.out _ _ _
        have bF : Below w.heap.size w WF := by
          rw [← hWF]
          exact ((HB0.out.setCell (p := ⟨w.heap.size + 1, 0, none⟩) (by show w.heap.size ≤ w.heap.size + 1; omega) _).setCell (p := ⟨w.heap.size + 1, 1, none⟩) (by show w.heap.size ≤ w.heap.size + 1; omega) _).setCell (p := ⟨w.heap.size + 1, 2, none⟩) (by show w.heap.size ≤ w.heap.size + 1; omega) _
        rw [hWF]
        exact bodyPost_ret (v := .tuple #[.agg #[.int .i64 0, .int .i64 0, .slice none 0 0], .int .i64 4]) (results_row_tmp Tryz.results153 _ _ (w.heap.size + 1) 121 _ (0, 0) _ rfl rF Tryz.underlying121 rfl (by kernel_rfl)) rfl ⟨rfl, bF⟩
end Go.Proofs.YtpmjiifdnnhecaaGreatDoor

/-
  Plain facts on words of float32: a finite word is known by its sign and by the number that it stands for; the word of a sample with an integer other than 0 is the one that its integer gives.
-/

namespace Go.Proofs.YtpmjiifdnnhecaaGreatDoor
open Ieee
set_option linter.unusedVariables false

theorem read_number {x : Nat} {s : Bool} {m : Nat} {e : Int} (hx : x < 2 ^ 32) (h : single.read x = .number s m e) :
    ∃ r, r < 2 ^ 31 ∧ x = (if s then 2 ^ 31 else 0) + r ∧ ((r < 2 ^ 23 ∧ m = r ∧ e = -149) ∨ (2 ^ 23 ≤ r ∧ m = 2 ^ 23 + r % 2 ^ 23 ∧ e = -149 + (r / 2 ^ 23 - 1 : Nat))) := by
  have hw : single.signWeight = 2 ^ 31 := by decide
  have hb : single.binade = 2 ^ 23 := by decide
  have hL : single.leastPlace = -149 := by decide
  unfold Format.read at h
  rw [hw, hb, hL] at h
  have hd : x / 2 ^ 31 = 0 ∨ x / 2 ^ 31 = 1 := by omega
  refine ⟨x % 2 ^ 31, Nat.mod_lt _ (by decide), ?_⟩
  have hm := Nat.div_add_mod x (2 ^ 31)
  dsimp only at h
  split at h
  · rename_i h1
    simp only [Datum.number.injEq] at h
    obtain ⟨h2, h3, h4⟩ := h
    refine ⟨?_, .inl ⟨h1, h3.symm, h4.symm⟩⟩
    rcases hd with hd | hd <;> rw [hd] at h2 hm <;> subst h2 <;> simp <;> omega
  · rename_i h1
    split at h
    · rename_i h5
      simp only [Datum.number.injEq] at h
      obtain ⟨h2, h3, h4⟩ := h
      refine ⟨?_, .inr ⟨by omega, h3.symm, h4.symm⟩⟩
      rcases hd with hd | hd <;> rw [hd] at h2 hm <;> subst h2 <;> simp <;> omega
    · split at h <;> cases h

theorem log2_23 {a : Nat} (h0 : 2 ^ 23 ≤ a) (h1 : a < 2 ^ 24) : a.log2 = 23 := by
  have ha : a ≠ 0 := by omega
  have e1 := (Nat.log2_lt (k := 24) ha).2 h1
  have e2 : 23 ≤ a.log2 := (Nat.le_log2 ha).2 h0
  omega

theorem isNum_inj {x y : Nat} {s : Bool} {v : Nat} (hx : x < 2 ^ 32) (hy : y < 2 ^ 32) (h : IsNum single x s v) (g : IsNum single y s v) : x = y := by
  obtain ⟨m, i, h1, _, _, h4⟩ := h
  obtain ⟨n, j, g1, _, _, g4⟩ := g
  obtain ⟨r, hr, hxr, hc⟩ := read_number hx h1
  obtain ⟨q, hq, hyq, gc⟩ := read_number hy g1
  have hL : single.leastPlace = -149 := by decide
  rw [hL] at h4 g4
  suffices h : r = q by rw [hxr, hyq, h]
  rcases hc with ⟨hc1, rfl, rfl⟩ | ⟨hc1, hc2, rfl⟩ <;> rcases gc with ⟨gc1, rfl, rfl⟩ | ⟨gc1, gc2, rfl⟩
  · simp at h4 g4; omega
  · exfalso
    have e1 : m = v := by simpa using h4
    have e2 : 2 ^ 23 ≤ n := by omega
    have e3 : n ≤ v := by rw [← g4]; exact Nat.le_mul_of_pos_right _ (Nat.two_pow_pos _)
    omega
  · exfalso
    have e1 : n = v := by simpa using g4
    have e2 : 2 ^ 23 ≤ m := by omega
    have e3 : m ≤ v := by rw [← h4]; exact Nat.le_mul_of_pos_right _ (Nat.two_pow_pos _)
    omega
  · have e1 : (-149 + ((r / 2 ^ 23 - 1 : Nat) : Int) - -149).toNat = r / 2 ^ 23 - 1 := by omega
    have e2 : (-149 + ((q / 2 ^ 23 - 1 : Nat) : Int) - -149).toNat = q / 2 ^ 23 - 1 := by omega
    rw [e1] at h4
    rw [e2] at g4
    have k1 : m.log2 = 23 := log2_23 (by omega) (by omega)
    have k2 : n.log2 = 23 := log2_23 (by omega) (by omega)
    have l1 := log2_mul_pow m (r / 2 ^ 23 - 1) (by omega)
    have l2 := log2_mul_pow n (q / 2 ^ 23 - 1) (by omega)
    rw [h4, k1] at l1
    rw [g4, k2] at l2
    have e3 : r / 2 ^ 23 - 1 = q / 2 ^ 23 - 1 := by omega
    rw [e3, ← g4] at h4
    have e4 : m = n := Nat.eq_of_mul_eq_mul_right (Nat.two_pow_pos _) h4
    have := Nat.div_add_mod r (2 ^ 23)
    have := Nat.div_add_mod q (2 ^ 23)
    omega

/-- The word of a sample whose integer is not 0 is the one that the integer gives. -/
theorem smp_word {x : Nat} {k : Int} (hx : x < 2 ^ 32) (h : Smp x k) (hk : k ≠ 0) (hs : k.natAbs < 2 ^ 24) (hl : smpOf k < 2 ^ 32) : x = smpOf k := by
  obtain ⟨s, h1, h2, h3⟩ := h
  obtain ⟨t, g1, g2, g3⟩ := smpOf_smp k hs
  have e : s = t := by
    rcases Int.lt_or_gt_of_ne hk with h | h
    · rw [h2 h, g2 h]
    · rw [h3 h, g3 h]
  subst e
  exact isNum_inj hx hl h1 g1

theorem smpOf_zero : smpOf 0 = 0 := by decide +kernel
/-- The words that stand for 0. -/
theorem smp_zero {x : Nat} (hx : x < 2 ^ 32) (h : Smp x 0) : x = 0 ∨ x = 2147483648 := by
  obtain ⟨s, h1, _, _⟩ := h
  have e0 : IsNum single (single.word s 0) s 0 := by
    cases s
    · exact ⟨0, -149, by decide +kernel, by decide, by decide, by decide⟩
    · exact ⟨0, -149, by decide +kernel, by decide, by decide, by decide⟩
  have h1' : IsNum single x s 0 := by simpa using h1
  have e := isNum_inj hx (by cases s <;> decide) h1' e0
  cases s
  · exact .inl e
  · exact .inr e
end Go.Proofs.YtpmjiifdnnhecaaGreatDoor

/-
  What a stream of bytes gives as a map: its error, and the integers of its samples.
-/

namespace Go.Proofs.YtpmjiifdnnhecaaGreatDoor
open Go.RowKit
set_option linter.unusedVariables false

def unW (S : List Int) : Int := byteAt S 4
def unH (S : List Int) : Int := byteAt S 5
/-- How many samples a stream tells. -/
def unN (S : List Int) : Nat := ((unW S).toNat * (unH S).toNat)
def unEnd (S : List Int) : Nat := 6 + 4 * unN S
def magicL : List Int := [76, 77, 65, 80]
def unErr0 (S : List Int) : Int :=
  if S.length < 4 then 28 else if S.take 4 ≠ magicL then 1 else if S.length < 6 then 28 else if S.length < unEnd S + 4 then 28 else if unEnd S + 4 < S.length then 2
  else if numOf (S.drop (unEnd S)) ≠ chkOf (S.take (unEnd S)) then 27 else 0
def quad (S : List Int) (i : Nat) : List Int := (S.drop (6 + 4 * i)).take 4
def wordAt (S : List Int) (i : Nat) : Nat := (numOf (quad S i)).toNat
def unXs (S : List Int) : List Nat := (List.range (unN S)).map (wordAt S)
def zeroErr (x : Nat) : Int := if x = 2147483648 then 1 else 0
def unErr (S : List Int) : Int :=
  if unErr0 S = 0 then if mapErr (unW S) (unH S) (unN S) (unXs S) = 0 then firstNZ ((unXs S).map zeroErr) else mapErr (unW S) (unH S) (unN S) (unXs S) else unErr0 S
def unL (S : List Int) : List Int := (unXs S).map kOf

theorem quad_bytes {S : List Int} {n : Nat} (h : BytesV S n) (i : Nat) (hi : 6 + 4 * i + 4 ≤ n) : (quad S i).length = 4 ∧ ∀ j, j < 4 → 0 ≤ (quad S i)[j]?.getD 0 ∧ (quad S i)[j]?.getD 0 ≤ 255 := by
  have hl : (quad S i).length = 4 := by unfold quad; rw [List.length_take, List.length_drop, h.1]; omega
  refine ⟨hl, fun j hj => ?_⟩
  rw [List.getElem?_eq_getElem (by omega)]
  exact h.2 _ (List.mem_of_mem_drop (List.mem_of_mem_take (List.getElem_mem _)))
theorem list4 {F : List Int} (h : F.length = 4) : ∃ a b c d, F = [a, b, c, d] := by
  match F, h with
  | [a, b, c, d], _ => exact ⟨a, b, c, d, rfl⟩
theorem numOf_4 {F : List Int} (h : F.length = 4) (hb : ∀ j, j < 4 → 0 ≤ F[j]?.getD 0 ∧ F[j]?.getD 0 ≤ 255) : 0 ≤ numOf F ∧ numOf F ≤ 4294967295 := by
  obtain ⟨a, b, c, d, rfl⟩ := list4 h
  have h0 := hb 0 (by omega); have h1 := hb 1 (by omega); have h2 := hb 2 (by omega); have h3 := hb 3 (by omega)
  simp at h0 h1 h2 h3
  simp [numOf]
  omega
theorem word_bd {S : List Int} {n : Nat} (h : BytesV S n) (i : Nat) (hi : 6 + 4 * i + 4 ≤ n) : wordAt S i < 2 ^ 32 ∧ numOf (quad S i) = (wordAt S i : Int) := by
  obtain ⟨h1, h2⟩ := quad_bytes h i hi
  have := numOf_4 h1 h2
  unfold wordAt
  omega
theorem unXs_len (S : List Int) : (unXs S).length = unN S := by simp [unXs]
theorem unXs_get (S : List Int) (i : Nat) (hi : i < unN S) : (unXs S)[i]?.getD 0 = wordAt S i := by
  unfold unXs; rw [List.getElem?_map, List.getElem?_range hi]; rfl
theorem unXs_take (S : List Int) (k : Nat) (hk : k < unN S) : (unXs S).take (k + 1) = (unXs S).take k ++ [wordAt S k] := by
  rw [List.take_succ_eq_append_getElem (by rw [unXs_len]; exact hk)]
  congr 2
  have h := unXs_get S k hk
  rw [List.getElem?_eq_getElem (by rw [unXs_len]; exact hk)] at h
  exact h
/-- Where a stream has no error, a word is the one that its integer gives. -/
theorem un_smpOf {S : List Int} {n : Nat} (hS : BytesV S n) (h0 : unErr S = 0) (hn : unEnd S + 4 ≤ n) :
    mapErr (unW S) (unH S) (unN S) (unXs S) = 0 ∧ (∀ j, j < unN S → (unXs S)[j]?.getD 0 = smpOf ((unL S)[j]?.getD 0)) ∧ ∀ j, j < unN S → ((unL S)[j]?.getD 0).natAbs ≤ 16384 := by
  have e0 : unErr0 S = 0 := by
    refine Classical.byContradiction fun h => ?_
    unfold unErr at h0
    rw [if_neg h] at h0
    exact h h0
  have e1 : mapErr (unW S) (unH S) (unN S) (unXs S) = 0 := by
    refine Classical.byContradiction fun h => ?_
    unfold unErr at h0
    rw [if_pos e0, if_neg h] at h0
    exact h h0
  have e2 : firstNZ ((unXs S).map zeroErr) = 0 := by
    unfold unErr at h0
    rwa [if_pos e0, if_pos e1] at h0
  have hs := mapErr_smps (unXs_len S) e1
  have hl := unXs_len S
  have hL : ∀ j, j < unN S → (unL S)[j]?.getD 0 = kOf ((unXs S)[j]?.getD 0) := fun j hj => by
    unfold unL
    rw [List.getElem?_map, List.getElem?_eq_getElem (by omega)]; rfl
  have hz : ∀ j, j < unN S → (unXs S)[j]?.getD 0 ≠ 2147483648 := fun j hj he => by
    have h := firstNZ_all e2 (zeroErr ((unXs S)[j]?.getD 0)) (by
      refine List.mem_map.2 ⟨(unXs S)[j]?.getD 0, ?_, rfl⟩
      rw [List.getElem?_eq_getElem (by omega)]
      exact List.getElem_mem _)
    rw [he] at h
    exact absurd h (by decide)
  refine ⟨e1, fun j hj => ?_, fun j hj => by rw [hL j hj]; exact (smp_kOf (hs j hj)).2⟩
  obtain ⟨k1, k2⟩ := smp_kOf (hs j hj)
  have hx : (unXs S)[j]?.getD 0 < 2 ^ 32 := by
    rw [unXs_get S j hj]
    exact (word_bd hS j (by unfold unEnd at hn; omega)).1
  rw [hL j hj]
  have hz' := hz j hj
  generalize (unXs S)[j]?.getD 0 = x at k1 k2 hx hz'
  by_cases hk : kOf x = 0
  · rw [hk] at k1 ⊢
    rw [smpOf_zero]
    rcases smp_zero hx k1 with h | h
    · exact h
    · exact absurd h hz'
  · exact smp_word hx k1 hk (by omega) (by
      have := floatBits_wf (smpOf_run (kOf x) (by omega))
      simpa [Lit.wf] using this)
end Go.Proofs.YtpmjiifdnnhecaaGreatDoor

/-
  Contracts of bytes.Equal and bytes.HasPrefix at slices of bytes, of streamSize at any two bytes, and of checkStream at any bytes.
-/
namespace Go.Proofs.YtpmjiifdnnhecaaGreatDoor
open Go.RowKit
set_option linter.unusedVariables false
set_option linter.unusedSimpArgs false

theorem str_eq {xs ys : List Int} (hx : ∀ x ∈ xs, 0 ≤ x ∧ x ≤ 255) (hy : ∀ y ∈ ys, 0 ≤ y ∧ y ≤ 255) : ((strOfNums xs).toList == (strOfNums ys).toList) = decide (xs = ys) := by
  rw [ByteArray.toList_eq, ByteArray.toList_eq, strOfNums_data, strOfNums_data]
  by_cases h : xs = ys
  · subst h; simp
  · rw [decide_eq_false h]
    refine beq_eq_false_iff_ne.2 fun e => h ?_
    clear h
    induction xs generalizing ys with
    | nil =>
      cases ys with
      | nil => rfl
      | cons y ys => simp at e
    | cons x xs ih =>
      cases ys with
      | nil => simp at e
      | cons y ys =>
        simp only [List.map_cons, List.cons.injEq] at e
        obtain ⟨e1, e2⟩ := e
        have bx := hx x (by simp)
        have bY := hy y (by simp)
        have e3 : x = y := by
          have := congrArg UInt8.toNat e1
          simp [UInt8.toNat_ofNat'] at this
          omega
        rw [e3, ih (fun z hz => hx z (by simp [hz])) (fun z hz => hy z (by simp [hz])) e2]

theorem range_cells {w : World} {b q : Nat} {xs : List Int} (h : w.rangeAt b q (xs.map (Value.int .u8))) : ∀ i, i < xs.length → w.cell? ⟨b, q + i, none⟩ = some (.int .u8 (xs.getD i 0)) := fun i hi =>
  h i _ (by rw [List.getElem?_map, List.getElem?_eq_getElem hi, List.getD_eq_getElem?_getD, List.getElem?_eq_getElem hi]; rfl)
theorem range_take {w : World} {b q : Nat} {xs : List Int} (k : Nat) (h : w.rangeAt b q (xs.map (Value.int .u8))) : w.rangeAt b q ((xs.take k).map (Value.int .u8)) := fun i v hv => by
  refine h i v ?_
  rw [List.map_take, List.getElem?_take] at hv
  split at hv
  · exact hv
  · cases hv
theorem range_drop {w : World} {b q : Nat} {xs : List Int} (k : Nat) (h : w.rangeAt b q (xs.map (Value.int .u8))) : w.rangeAt b (q + k) ((xs.drop k).map (Value.int .u8)) := fun i v hv => by
  rw [List.map_drop, List.getElem?_drop] at hv
  have := h (k + i) v hv
  rwa [show q + k + i = q + (k + i) by omega]
theorem range_below {w w' : World} {B b q : Nat} {V : List Value} (h : w.rangeAt b q V) (hb : Below B w w') (hB : b < B) : w'.rangeAt b q V := fun i v hv => by
  rw [hb.cell (by exact hB)]; exact h i v hv

set_option maxHeartbeats 1600000 in
theorem bytesEqual_any (b q n c b2 q2 n2 c2 : Nat) (xs ys : List Int) (hx : xs.length = n) (hy : ys.length = n2) (bx : ∀ x ∈ xs, 0 ≤ x ∧ x ≤ 255) (bY : ∀ y ∈ ys, 0 ≤ y ∧ y ≤ 255) (w : World)
    (h1 : w.rangeAt b q (xs.map (Value.int .u8))) (h2 : w.rangeAt b2 q2 (ys.map (Value.int .u8))) :
    Calls Tryz.prog 233 #[.slice (some ⟨b, q, none⟩) n c, .slice (some ⟨b2, q2, none⟩) n2 c2] w fun e w' => e = .returned (.bool (decide (xs = ys))) ∧ w = w' := by
  have c1 := run_convert_bytes_arg (P := Tryz.prog) w 143 5 Tryz.underlying143 Tryz.underlying5 b q n c xs hx (by rw [← hx]; exact range_cells h1) 9 Tryz.underlying9
  have k2 := run_convert_bytes_arg (P := Tryz.prog) w 143 5 Tryz.underlying143 Tryz.underlying5 b2 q2 n2 c2 ys hy (by rw [← hy]; exact range_cells h2) 9 Tryz.underlying9
  have e1 := str_eq bx bY
  obtain ⟨r, hr⟩ : ∃ r, decide (xs = ys) = r := ⟨_, rfl⟩
  obtain ⟨s, hs⟩ : ∃ s, strOfNums xs = s := ⟨_, rfl⟩
  obtain ⟨t, ht⟩ : ∃ t, strOfNums ys = t := ⟨_, rfl⟩
  rw [hr, hs, ht] at e1
  rw [hs] at c1
  rw [ht] at k2
  rw [hr]
  clear hr hs ht hx hy bx bY h1 h2
  go_enter Tryz.func233, Tryz.ntmps233
  go_wp2
  go_ret
  exact ⟨rfl, rfl⟩

set_option maxHeartbeats 1600000 in
theorem hasPrefix_any (S : List Int) (b q n c b2 : Nat) (hS : BytesV S n) (hn : 4 ≤ n) (hm : n ≤ 100000) (hcp : n ≤ c) (hcq : c ≤ 9223372036854775807) (w : World)
    (h1 : w.rangeAt b q (S.map (Value.int .u8))) (h2 : w.rangeAt b2 0 (magicL.map (Value.int .u8))) :
    Calls Tryz.prog 213 #[.slice (some ⟨b, q, none⟩) n c, .slice (some ⟨b2, 0, none⟩) 4 4] w fun e w' => e = .returned (.bool (decide (S.take 4 = magicL))) ∧ w = w' := by
  have K := Lib.hid (bytesEqual_any b q 4 c b2 0 4 4 (S.take 4) magicL (by rw [List.length_take, hS.1]; omega) rfl (fun x hx => hS.2 x (List.mem_of_mem_take hx)) (by decide) w (range_take 4 h1) h2)
  have i1 : (4 : Int) ≤ (n : Int) := by omega
  have i2 : (n : Int) ≤ 100000 := by omega
  have i3 : (4 : Int) ≤ (c : Int) := by omega
  have i4 : (c : Int) ≤ 9223372036854775807 := by omega
  have i5 : 4 ≤ c := by omega
  clear h1 h2 hS
  go_enter Tryz.func213, Tryz.ntmps213
  go_wp2_with (go_at_call 233; refine K.out.mono ?_; rintro e w' ⟨rfl, rfl⟩)
  go_ret
  exact ⟨rfl, rfl⟩

set_option maxHeartbeats 800000 in
theorem streamSize_wide (W H : Nat) (hW : W ≤ 255) (hH : H ≤ 255) (w : World) :
    Calls Tryz.prog 165 #[.int .i64 W, .int .i64 H] w fun e w' => e = .returned (.int .i64 ((10 + 4 * (W * H) : Nat) : Int)) ∧ w = w' := by
  have hm : W * H ≤ 255 * 255 := Nat.mul_le_mul hW hH
  have e1 : 4 * (W : Int) * (H : Int) = ((4 * (W * H) : Nat) : Int) := by push_cast; rw [Int.mul_assoc]
  have i1 : IntKind.i64.wrap (4 * (W : Int)) = 4 * (W : Int) := IntWalk.i64_in _ ⟨by omega, by omega⟩
  obtain ⟨q, hq⟩ : ∃ q : Nat, 4 * (W * H) = q := ⟨_, rfl⟩
  rw [hq] at e1
  have hq4 : q ≤ 260100 := by omega
  have e2 : ((10 + 4 * (W * H) : Nat) : Int) = 6 + (q : Int) + 4 := by omega
  rw [e2]
  have i2 : IntKind.i64.wrap (q : Int) = (q : Int) := IntWalk.i64_in _ ⟨by omega, by omega⟩
  have i3 : IntKind.i64.wrap (6 + (q : Int)) = 6 + (q : Int) := IntWalk.i64_in _ ⟨by omega, by omega⟩
  have i4 : IntKind.i64.wrap (6 + (q : Int) + 4) = 6 + (q : Int) + 4 := IntWalk.i64_in _ ⟨by omega, by omega⟩
  clear hq e2 hm
  go_enter Tryz.func165, Tryz.ntmps165
  go_wp2
  go_ret
  exact ⟨rfl, rfl⟩

theorem checkStream_short (a : Option Addr) (n cp : Nat) (hm : n < 4) (w : World) :
    Calls Tryz.prog 170 #[.slice a n cp] w fun e w' => e = .returned (.int .i64 28) ∧ Below w.heap.size w w' := by
  have i1 : ¬ ((400000 : Int) < (n : Int)) := by omega
  have i2 : (n : Int) < 4 := by omega
  go_enter Tryz.func170, Tryz.ntmps170
  go_wp2
  go_ret
  exact ⟨rfl, Below.refl _ _⟩

/-- The literal's row, made of a constant. -/
theorem magic_row (w : World) : (w.alloc (.cells #[.int .u8 76, .int .u8 77, .int .u8 65, .int .u8 80] 5 (4, 5))).rangeAt w.heap.size 0 (magicL.map (Value.int .u8)) := fun i v hv => by
  rw [Nat.zero_add, cell_of_row _ _ i _ _ (4, 5) (heap_alloc_new w _)]
  simpa [magicL] using hv
end Go.Proofs.YtpmjiifdnnhecaaGreatDoor
