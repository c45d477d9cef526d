/-
  Contract of Draw: the permutation of n elements by a key.
-/
import Derived.Test.YthmaoeajbmfmaaaGreatDoorDWg
import Derived.Test.YthmaoeajbmfmaaaGreatDoorDXc
import Derived.Deep.CutBlock
import Derived.Deep.DeepCutAuto
import Derived.Deep.RegionHeld3
import Derived.StillTailTactics
import Derived.Test.YthmaoeajbmfmaaaGreatDoorDXe
namespace Go.Proofs.YthmaoeajbmfmaaaGreatDoor
open Go.RowKit
set_option linter.unusedVariables false
set_option linter.unusedSimpArgs false

/-- The generator's number and the list after some exchanges. -/
def drawS (key : Int) (n : Nat) : Nat → Int × List Int
  | 0 => (key, (List.range n).map (fun i : Nat => (i : Int)))
  | t + 1 => (950706376 * (drawS key n t).1 % 2147483647,
      ((drawS key n t).2.set (n - 1 - t) ((drawS key n t).2[(950706376 * (drawS key n t).1 % 2147483647 % ((n - 1 - t : Nat) + 1 : Int)).toNat]?.getD 0)).set (950706376 * (drawS key n t).1 % 2147483647 % ((n - 1 - t : Nat) + 1 : Int)).toNat ((drawS key n t).2[n - 1 - t]?.getD 0))
def drawL (key : Int) (n : Nat) : List Int := (drawS key n (n - 1)).2
theorem drawS_len (key : Int) (n : Nat) : ∀ t, (drawS key n t).2.length = n
  | 0 => by simp [drawS]
  | t + 1 => by simp [drawS, drawS_len key n t]
theorem drawS_bd (key : Int) (n : Nat) (h : 0 ≤ key ∧ key ≤ 2147483646) : ∀ t, 0 ≤ (drawS key n t).1 ∧ (drawS key n t).1 ≤ 2147483646
  | 0 => h
  | t + 1 => by
    have h1 := Int.emod_nonneg (950706376 * (drawS key n t).1) (show (2147483647 : Int) ≠ 0 by decide)
    have h2 := Int.emod_lt_of_pos (950706376 * (drawS key n t).1) (show (0 : Int) < 2147483647 by decide)
    simp only [drawS]
    omega

/-- The list while its first k places are told. -/
def fillTo (n k : Nat) : List Int := (List.range n).map (fun q => if q < k then (q : Int) else 0)
theorem fillTo_len (n k : Nat) : (fillTo n k).length = n := by simp [fillTo]
theorem fillTo_set (n k : Nat) : (fillTo n k).set k (k : Int) = fillTo n (k + 1) := by
  refine List.ext_getElem (by simp [fillTo]) fun q h1 h2 => ?_
  simp only [fillTo, List.getElem_set, List.getElem_map, List.getElem_range]
  by_cases e : k = q
  · subst e; rw [if_pos rfl, if_pos (by omega)]
  · rw [if_neg e]
    by_cases e2 : q < k
    · rw [if_pos e2, if_pos (by omega)]
    · rw [if_neg e2, if_neg (by omega)]
theorem fillTo_0 (n : Nat) : fillTo n 0 = List.replicate n 0 := by
  refine List.ext_getElem (by simp [fillTo]) fun q h1 h2 => ?_
  simp [fillTo]
theorem fillTo_n (n : Nat) : fillTo n n = (List.range n).map (fun i : Nat => (i : Int)) := by
  refine List.ext_getElem (by simp [fillTo]) fun q h1 h2 => ?_
  simp only [fillTo_len] at h1
  simp [fillTo, h1]

set_option maxRecDepth 100000 in
set_option maxHeartbeats 6400000 in
theorem draw_any (key : Int) (n : Nat) (hk : 1 ≤ key ∧ key ≤ 2147483646) (hn : n ≤ 256) (w : World) :
    Calls Tryz.prog 75 #[.int .i64 key, .int .i64 n] w fun e w' =>
      ∃ v, e = .returned (.tuple #[v, .int .i64 0]) ∧ w'.ownsRow w.heap.size 3 1 v n ((drawL key n).map (Value.int .i64)) ∧ Below w.heap.size w w' := by
  obtain ⟨i0, hi, hz0, hz1, hz2⟩ := info_parts Tryz.infoInt
  have e1 : rangeErr key 1 2147483646 = 0 := rangeErr_in hk.1 hk.2
  have e2 : rangeErr (n : Int) 0 256 = 0 := rangeErr_in (by omega) (by omega)
  have KN : Hid (∀ w1 : World, Calls Tryz.prog 127 #[.int .i64 key, .int .i64 1, .int .i64 2147483646] w1 fun e w' => e = .returned (.int .i64 0) ∧ w1 = w') := Lib.hid fun w1 => by have h := checkRange_any key 1 2147483646 w1; rw [e1] at h; exact h
  have KD : Hid (∀ w1 : World, Calls Tryz.prog 127 #[.int .i64 n, .int .i64 0, .int .i64 256] w1 fun e w' => e = .returned (.int .i64 0) ∧ w1 = w') := Lib.hid fun w1 => by have h := checkRange_any (n : Int) 0 256 w1; rw [e2] at h; exact h
  clear e1 e2
  go_enter Tryz.func75, Tryz.ntmps75
  go_upto_region 5 with (first
    | (go_at_call_of 127 (Value.int .i64 key); refine (KN.out _).mono ?_; rintro e w9 ⟨rfl, rfl⟩)
    | (go_at_call_of 127 (Value.int .i64 n); refine (KD.out _).mono ?_; rintro e w9 ⟨rfl, rfl⟩)
    | ((go_at_call 60; refine (first_zeros _ 0 2 2 (by omega) _ ?_).mono ?_; rotate_left 1; rintro e w9 ⟨rfl, rfl⟩; rotate_left 1; (intro j hj; match j, hj with | 0, _ => simp [go_sem] | 1, _ => simp [go_sem])))
    | (at_make; refine wpList_make_full _ rfl (.tmp 21) (.tmp 21) 122 rfl (w.heap.size + 1) 3 i0 (.int .i64 0) 1 Tryz.underlying122 hi hz0 hz1 .i64 .i64 (n : Int) (n : Int) n rfl rfl rfl rfl (by rw [hz2]; omega) (by unfold maxLen; omega) (by simp) ?_; intro w4 hown4 hgrow4))
  have hB4 : Below w.heap.size w w4 := ((Below.refl _ w).alloc (Nat.le_refl _) _).grown hgrow4 (by simp) (fun j hj => by cases hj)
  have hO4 : w4.ownsRow (w.heap.size + 1) 3 1 (.slice (some ⟨w.heap.size + 1, 0, none⟩) n n) n ((fillTo n 0).map (Value.int .i64)) := by
    have h := hown4
    rw [Nat.mul_one, show (Value.int .i64 0).cells = #[.int .i64 0] from rfl, toList_madeCells_one] at h
    simp only [World.size_alloc] at h
    rw [fillTo_0, List.map_replicate]
    exact h
  have HB4 := Lib.hid hB4
  have HO4 := Lib.hid hO4
  clear hown4 hgrow4 hB4 hO4
  go_upto_block 0 with fail
  go_cut [7] (fun s7 wr => s7 = .slice (some ⟨w.heap.size + 1, 0, none⟩) n n ∧ wr.ownsRow (w.heap.size + 1) 3 1 (.slice (some ⟨w.heap.size + 1, 0, none⟩) n n) n ((fillTo n n).map (Value.int .i64)) ∧ Below w.heap.size w wr)
  case first =>
    go_wp2_with fail
    go_loopw [24] (fun i wr => ∃ k : Nat, k ≤ n ∧ i = .int .i64 k ∧ wr.ownsRow (w.heap.size + 1) 3 1 (.slice (some ⟨w.heap.size + 1, 0, none⟩) n n) n ((fillTo n k).map (Value.int .i64)) ∧ Below w.heap.size w wr)
      (fun i _ => n - (intOf i).toNat)
    case atStart => exact ⟨0, Nat.zero_le _, rfl, HO4.out, HB4.out⟩
    case round =>
      obtain ⟨k, hk, rfl, hown, hnx⟩ := hrel
      by_cases hlt : k < n
      · have hc : wr.cell? ⟨w.heap.size + 1, k, none⟩ = some (.int .i64 ((fillTo n k)[k]?.getD 0)) := owns_cell hown (by rw [List.getElem?_map, List.getElem?_eq_getElem (by rw [fillTo_len]; exact hlt)]; rfl)
        have hf := hown.frozenAt k
        have hst := (hown.stored k (.int .i64 (k : Int))).1
        rw [← List.map_set, fillTo_set] at hst
        have HST := Lib.hid hst
        have HNX := Lib.hid hnx
        clear hown hst hnx
        go_wp2_with fail
        go_roundw
        case rel => exact ⟨k + 1, by omega, by go_num, HST.out, HNX.out.setCell (p := ⟨w.heap.size + 1, k, none⟩) (by show w.heap.size ≤ w.heap.size + 1; omega) _⟩
        case measure => simp [intOf]; omega
      · obtain rfl : k = n := by omega
        go_wp2_with fail
        go_meet
        exact ⟨rfl, hown, hnx⟩
  case rest =>
    obtain ⟨rfl, hownR, hbR⟩ := hcut
    rw [fillTo_n] at hownR
    go_wp2_with fail
    have HOR := Lib.hid hownR
    have HBR := Lib.hid hbR
    clear hownR hbR
    go_loopw [9, 10] (fun s9 s10 wr => ∃ t : Nat, (t + 1 ≤ n ∨ t = 0) ∧ s9 = .int .i64 (drawS key n t).1 ∧ s10 = .int .i64 ((n : Int) - 1 - (t : Int)) ∧ wr.ownsRow (w.heap.size + 1) 3 1 (.slice (some ⟨w.heap.size + 1, 0, none⟩) n n) n ((drawS key n t).2.map (Value.int .i64)) ∧ Below w.heap.size w wr)
      (fun _ i _ => (intOf i).toNat)
    case atStart => exact ⟨0, .inr rfl, rfl, by congr 1; omega, HOR.out, HBR.out⟩
    case round =>
      obtain ⟨t, ht, rfl, rfl, hown, hnx⟩ := hrel
      by_cases hlt : t + 2 ≤ n
      · have hbd := drawS_bd key n (by omega) t
        have hln := drawS_len key n t
        obtain ⟨i, hi'⟩ : ∃ i : Nat, n - 1 - t = i := ⟨_, rfl⟩
        have ei : (n : Int) - 1 - (t : Int) = (i : Int) := by omega
        have ei2 : (n : Int) - 1 - ((t + 1 : Nat) : Int) = (i : Int) - 1 := by omega
        have hi1 : 1 ≤ i := by omega
        have hin : i < n := by omega
        obtain ⟨x, hx⟩ : ∃ x : Int, (drawS key n t).1 = x := ⟨_, rfl⟩
        obtain ⟨l, hl⟩ : ∃ l : List Int, (drawS key n t).2 = l := ⟨_, rfl⟩
        obtain ⟨X, hX⟩ : ∃ X : Int, 950706376 * x % 2147483647 = X := ⟨_, rfl⟩
        have hX0 : 0 ≤ X ∧ X ≤ 2147483646 := by
          have h1 := Int.emod_nonneg (950706376 * x) (show (2147483647 : Int) ≠ 0 by decide)
          have h2 := Int.emod_lt_of_pos (950706376 * x) (show (0 : Int) < 2147483647 by decide)
          omega
        obtain ⟨j, hj⟩ : ∃ j : Nat, (X % ((i : Int) + 1)).toNat = j := ⟨_, rfl⟩
        have hjb : X % ((i : Int) + 1) = (j : Int) ∧ j ≤ i := by
          have h1 := Int.emod_nonneg X (show ((i : Int) + 1) ≠ 0 by omega)
          have h2 := Int.emod_lt_of_pos X (show (0 : Int) < (i : Int) + 1 by omega)
          omega
        have hS : drawS key n (t + 1) = (X, (l.set i (l[j]?.getD 0)).set j (l[i]?.getD 0)) := by
          simp only [drawS, hx, hl, hi', hX, hj]
        rw [hx] at hbd ⊢
        rw [hl] at hown hln
        rw [ei]
        have w1 : IntKind.i64.wrap (950706376 * x) = 950706376 * x := IntWalk.i64_in _ ⟨by omega, by omega⟩
        have w2 : (950706376 * x).tmod 2147483647 = X := by rw [Int.tmod_eq_emod_of_nonneg (by omega)]; exact hX
        have w3 : IntKind.i64.wrap X = X := IntWalk.i64_in _ ⟨by omega, by omega⟩
        have w4' : X.tmod ((i : Int) + 1) = (j : Int) := by rw [Int.tmod_eq_emod_of_nonneg hX0.1]; exact hjb.1
        have w5 : IntKind.i64.wrap ((i : Int) + 1) = (i : Int) + 1 := IntWalk.i64_in _ ⟨by omega, by omega⟩
        have w6 : IntKind.i64.wrap ((i : Int) - 1) = (i : Int) - 1 := IntWalk.i64_in _ ⟨by omega, by omega⟩
        have w7 : (1 : Int) ≤ (i : Int) := by omega
        have w8 : ¬ ((i : Int) + 1 = 0) := by omega
        have w9 : (i : Int) < (n : Int) := by omega
        have w10 : (j : Int) < (n : Int) := by omega
        have ci : wr.cell? ⟨w.heap.size + 1, i, none⟩ = some (.int .i64 (l[i]?.getD 0)) := owns_cell hown (by rw [List.getElem?_map, List.getElem?_eq_getElem (by omega)]; rfl)
        have cj : wr.cell? ⟨w.heap.size + 1, j, none⟩ = some (.int .i64 (l[j]?.getD 0)) := owns_cell hown (by rw [List.getElem?_map, List.getElem?_eq_getElem (by omega)]; rfl)
        have fi := hown.frozenAt i
        have fj := hown.frozenAt j
        have hst1 := (hown.stored i (.int .i64 (l[j]?.getD 0))).1
        have cj2 : (wr.setCell ⟨w.heap.size + 1, i, none⟩ (.int .i64 (l[j]?.getD 0))).cell? ⟨w.heap.size + 1, j, none⟩ = some (.int .i64 ((l.set i (l[j]?.getD 0))[j]?.getD 0)) := by
          rw [← List.map_set] at hst1
          exact owns_cell hst1 (by rw [List.getElem?_map, List.getElem?_eq_getElem (by simp; omega)]; rfl)
        have fj2 := hst1.frozenAt j
        have hst2 := (hst1.stored j (.int .i64 (l[i]?.getD 0))).1
        rw [← List.map_set, ← List.map_set] at hst2
        have HST := Lib.hid hst2
        have HNX := Lib.hid hnx
        have HS1 := Lib.hid hS
        have HEI := Lib.hid ei2
        clear hst1 hst2 hown hnx hS hX hj hjb hx hl hi' ei ei2 hX0 hbd ht
        go_upto_region 16 with fail
        clear hln
        go_region_with (fail)
        all_goals
          go_wp2_with fail
          go_roundw
          case rel =>
            refine ⟨t + 1, .inl (by omega), ?_⟩
            rw [HS1.out, HEI.out]
            exact ⟨rfl, rfl, HST.out.drew, ((HNX.out.setCell (p := ⟨w.heap.size + 1, i, none⟩) (by show w.heap.size ≤ w.heap.size + 1; omega) _).setCell (p := ⟨w.heap.size + 1, j, none⟩) (by show w.heap.size ≤ w.heap.size + 1; omega) _).drew⟩
          case measure => simp [intOf]; omega
      · have et : t = n - 1 := by omega
        have hi2 : ¬ ((1 : Int) ≤ (n : Int) - 1 - (t : Int)) := by omega
        have hi3 : (n : Int) - 1 - (t : Int) < 1 := by omega
        have HET := Lib.hid et
        have HO := Lib.hid hown
        have HX := Lib.hid hnx
        clear et hown hnx ht
        go_wp2_with fail
        go_ret2
        refine ⟨_, rfl, owns_base ?_ (show w.heap.size ≤ w.heap.size + 1 by omega), HX.out⟩
        have h := HO.out
        rw [HET.out] at h
        exact h
end Go.Proofs.YthmaoeajbmfmaaaGreatDoor

/-
  Contract of power: the powers of -i.
-/
namespace Go.Proofs.YthmaoeajbmfmaaaGreatDoor
open Go.RowKit
set_option linter.unusedVariables false
set_option linter.unusedSimpArgs false

theorem store_complex (P : Program) (w : World) (a : Addr) (m : Mode) (k : FloatKind) (x y : Nat) : (store a (.complex k x y) m).run P w = stored P w a (.complex k x y) m := run_store P w a _ m rfl

/-- The powers of -i, by the exponent modulo 4. -/
def powL : List Value := [.complex .f32 1065353216 0, .complex .f32 0 3212836864, .complex .f32 3212836864 0, .complex .f32 0 1065353216]
theorem powL_at (k : Nat) (hk : k < 4) : ∃ x y, powL[k]? = some (.complex .f32 x y) := by
  match k, hk with
  | 0, _ => exact ⟨_, _, rfl⟩
  | 1, _ => exact ⟨_, _, rfl⟩
  | 2, _ => exact ⟨_, _, rfl⟩
  | 3, _ => exact ⟨_, _, rfl⟩

attribute [local go_sem] store_complex
set_option maxRecDepth 100000 in
set_option maxHeartbeats 3200000 in
theorem power_any (n k : Nat) (v : Value) (hk : n % 4 = k) (hv : powL[k]? = some v) (w : World) :
    Calls Tryz.prog 63 #[.int .i64 n] w fun e w' => e = .returned v ∧ Below w.heap.size w w' := by
  have hk4 : k < 4 := by omega
  have hm : ((n : Int)).tmod 4 = (k : Int) := by rw [Int.tmod_eq_emod_of_nonneg (by omega)]; omega
  obtain ⟨W1, hW1⟩ : ∃ W1, w.alloc (.cells #[.complex .f32 1065353216 0, .complex .f32 0 3212836864, .complex .f32 3212836864 0, .complex .f32 0 1065353216] 26) = W1 := ⟨_, rfl⟩
  have hB : Below w.heap.size w W1 := by rw [← hW1]; exact (Below.refl _ w).alloc (Nat.le_refl _) _
  have hc : W1.cell? ⟨w.heap.size, k, none⟩ = some v := by
    rw [← hW1, cell_of_row _ _ k _ _ (0, 0) (blk_alloc_new _ _)]
    simpa [powL] using hv
  have HB := Lib.hid hB
  go_enter Tryz.func63, Tryz.ntmps63
  go_upto_region 2 with fail
  clear hW1
  go_wp2_with fail
  go_ret
  exact ⟨rfl, HB.out⟩
end Go.Proofs.YthmaoeajbmfmaaaGreatDoor
