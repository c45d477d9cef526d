/-
  Contract of Draw: the permutation of n elements by a key.
-/
import Derived.Test.YtnbohpcaejbpeaaGreatDoorCWh
import Derived.Test.YtnbohpcaejbpeaaGreatDoorCWa
import Derived.Deep.CutBlock
import Derived.Deep.DeepCutAuto
import Derived.Deep.RegionHeld3
import Derived.StillTailTactics
import Derived.Test.YtnbohpcaejbpeaaGreatDoorCWx
import Derived.Test.YtnbohpcaejbpeaaGreatDoorCWn
import Derived.Test.YtnbohpcaejbpeaaGreatDoorCZa
import Derived.Lib.AppendStr
namespace Go.Proofs.YtnbohpcaejbpeaaGreatDoor
open Go.RowKit
set_option linter.unusedVariables false
set_option linter.unusedSimpArgs false

/-- The generator's number and the list after some exchanges. -/
def drawS (key : Int) (n : Nat) : Nat → Int × List Int
  | 0 => (key, (List.range n).map (fun i : Nat => (i : Int)))
  | t + 1 => (950706376 * (drawS key n t).1 % 2147483647,
      ((drawS key n t).2.set (n - 1 - t) ((drawS key n t).2[(950706376 * (drawS key n t).1 % 2147483647 % ((n - 1 - t : Nat) + 1 : Int)).toNat]?.getD 0)).set (950706376 * (drawS key n t).1 % 2147483647 % ((n - 1 - t : Nat) + 1 : Int)).toNat ((drawS key n t).2[n - 1 - t]?.getD 0))
def drawL (key : Int) (n : Nat) : List Int := (drawS key n (n - 1)).2
theorem drawS_len (key : Int) (n : Nat) : ∀ t, (drawS key n t).2.length = n
  | 0 => by simp [drawS]
  | t + 1 => by simp [drawS, drawS_len key n t]
theorem drawS_bd (key : Int) (n : Nat) (h : 0 ≤ key ∧ key ≤ 2147483646) : ∀ t, 0 ≤ (drawS key n t).1 ∧ (drawS key n t).1 ≤ 2147483646
  | 0 => h
  | t + 1 => by
    have h1 := Int.emod_nonneg (950706376 * (drawS key n t).1) (show (2147483647 : Int) ≠ 0 by decide)
    have h2 := Int.emod_lt_of_pos (950706376 * (drawS key n t).1) (show (0 : Int) < 2147483647 by decide)
    simp only [drawS]
    omega

/-- The list while its first k places are told. -/
def fillTo (n k : Nat) : List Int := (List.range n).map (fun q => if q < k then (q : Int) else 0)
theorem fillTo_len (n k : Nat) : (fillTo n k).length = n := by simp [fillTo]
theorem fillTo_set (n k : Nat) : (fillTo n k).set k (k : Int) = fillTo n (k + 1) := by
  refine List.ext_getElem (by simp [fillTo]) fun q h1 h2 => ?_
  simp only [fillTo, List.getElem_set, List.getElem_map, List.getElem_range]
  by_cases e : k = q
  · subst e; rw [if_pos rfl, if_pos (by omega)]
  · rw [if_neg e]
    by_cases e2 : q < k
    · rw [if_pos e2, if_pos (by omega)]
    · rw [if_neg e2, if_neg (by omega)]
theorem fillTo_0 (n : Nat) : fillTo n 0 = List.replicate n 0 := by
  refine List.ext_getElem (by simp [fillTo]) fun q h1 h2 => ?_
  simp [fillTo]
theorem fillTo_n (n : Nat) : fillTo n n = (List.range n).map (fun i : Nat => (i : Int)) := by
  refine List.ext_getElem (by simp [fillTo]) fun q h1 h2 => ?_
  simp only [fillTo_len] at h1
  simp [fillTo, h1]

set_option maxRecDepth 100000 in
set_option maxHeartbeats 6400000 in
theorem draw_any (key : Int) (n : Nat) (hk : 1 ≤ key ∧ key ≤ 2147483646) (hn : n ≤ 256) (w : World) :
    Calls Tryz.prog 37 #[.int .i64 key, .int .i64 n] w fun e w' =>
      ∃ v, e = .returned (.tuple #[v, .int .i64 0]) ∧ w'.ownsRow w.heap.size 3 1 v n ((drawL key n).map (Value.int .i64)) ∧ Below w.heap.size w w' := by
  obtain ⟨i0, hi, hz0, hz1, hz2⟩ := info_parts Tryz.infoInt
  have e1 : rangeErr key 1 2147483646 = 0 := rangeErr_in hk.1 hk.2
  have e2 : rangeErr (n : Int) 0 256 = 0 := rangeErr_in (by omega) (by omega)
  have KN : Hid (∀ w1 : World, Calls Tryz.prog 84 #[.int .i64 key, .int .i64 1, .int .i64 2147483646] w1 fun e w' => e = .returned (.int .i64 0) ∧ w1 = w') := Lib.hid fun w1 => by have h := checkRange_any key 1 2147483646 w1; rw [e1] at h; exact h
  have KD : Hid (∀ w1 : World, Calls Tryz.prog 84 #[.int .i64 n, .int .i64 0, .int .i64 256] w1 fun e w' => e = .returned (.int .i64 0) ∧ w1 = w') := Lib.hid fun w1 => by have h := checkRange_any (n : Int) 0 256 w1; rw [e2] at h; exact h
  clear e1 e2
  go_enter Tryz.func37, Tryz.ntmps37
  go_upto_region 5 with (first
    | (go_at_call_of 84 (Value.int .i64 key); refine (KN.out _).mono ?_; rintro e w9 ⟨rfl, rfl⟩)
    | (go_at_call_of 84 (Value.int .i64 n); refine (KD.out _).mono ?_; rintro e w9 ⟨rfl, rfl⟩)
    | ((go_at_call 51; refine (first_zeros _ 0 2 2 (by omega) _ ?_).mono ?_; rotate_left 1; rintro e w9 ⟨rfl, rfl⟩; rotate_left 1; (intro j hj; match j, hj with | 0, _ => simp [go_sem] | 1, _ => simp [go_sem])))
    | (at_make; refine wpList_make_full _ rfl (.tmp 21) (.tmp 21) 84 rfl (w.heap.size + 1) 3 i0 (.int .i64 0) 1 Tryz.underlying84 hi hz0 hz1 .i64 .i64 (n : Int) (n : Int) n rfl rfl rfl rfl (by rw [hz2]; omega) (by unfold maxLen; omega) (by simp) ?_; intro w4 hown4 hgrow4))
  have hB4 : Below w.heap.size w w4 := ((Below.refl _ w).alloc (Nat.le_refl _) _).grown hgrow4 (by simp) (fun j hj => by cases hj)
  have hO4 : w4.ownsRow (w.heap.size + 1) 3 1 (.slice (some ⟨w.heap.size + 1, 0, none⟩) n n) n ((fillTo n 0).map (Value.int .i64)) := by
    have h := hown4
    rw [Nat.mul_one, show (Value.int .i64 0).cells = #[.int .i64 0] from rfl, toList_madeCells_one] at h
    simp only [World.size_alloc] at h
    rw [fillTo_0, List.map_replicate]
    exact h
  have HB4 := Lib.hid hB4
  have HO4 := Lib.hid hO4
  clear hown4 hgrow4 hB4 hO4
  go_upto_block 0 with fail
  go_cut [7] (fun s7 wr => s7 = .slice (some ⟨w.heap.size + 1, 0, none⟩) n n ∧ wr.ownsRow (w.heap.size + 1) 3 1 (.slice (some ⟨w.heap.size + 1, 0, none⟩) n n) n ((fillTo n n).map (Value.int .i64)) ∧ Below w.heap.size w wr)
  case first =>
    go_wp2_with fail
    go_loopw [24] (fun i wr => ∃ k : Nat, k ≤ n ∧ i = .int .i64 k ∧ wr.ownsRow (w.heap.size + 1) 3 1 (.slice (some ⟨w.heap.size + 1, 0, none⟩) n n) n ((fillTo n k).map (Value.int .i64)) ∧ Below w.heap.size w wr)
      (fun i _ => n - (intOf i).toNat)
    case atStart => exact ⟨0, Nat.zero_le _, rfl, HO4.out, HB4.out⟩
    case round =>
      obtain ⟨k, hk, rfl, hown, hnx⟩ := hrel
      by_cases hlt : k < n
      · have hc : wr.cell? ⟨w.heap.size + 1, k, none⟩ = some (.int .i64 ((fillTo n k)[k]?.getD 0)) := owns_cell hown (by rw [List.getElem?_map, List.getElem?_eq_getElem (by rw [fillTo_len]; exact hlt)]; rfl)
        have hf := hown.frozenAt k
        have hst := (hown.stored k (.int .i64 (k : Int))).1
        rw [← List.map_set, fillTo_set] at hst
        have HST := Lib.hid hst
        have HNX := Lib.hid hnx
        clear hown hst hnx
        go_wp2_with fail
        go_roundw
        case rel => exact ⟨k + 1, by omega, by go_num, HST.out, HNX.out.setCell (p := ⟨w.heap.size + 1, k, none⟩) (by show w.heap.size ≤ w.heap.size + 1; omega) _⟩
        case measure => simp [intOf]; omega
      · obtain rfl : k = n := by omega
        go_wp2_with fail
        go_meet
        exact ⟨rfl, hown, hnx⟩
  case rest =>
    obtain ⟨rfl, hownR, hbR⟩ := hcut
    rw [fillTo_n] at hownR
    go_wp2_with fail
    have HOR := Lib.hid hownR
    have HBR := Lib.hid hbR
    clear hownR hbR
    go_loopw [9, 10] (fun s9 s10 wr => ∃ t : Nat, (t + 1 ≤ n ∨ t = 0) ∧ s9 = .int .i64 (drawS key n t).1 ∧ s10 = .int .i64 ((n : Int) - 1 - (t : Int)) ∧ wr.ownsRow (w.heap.size + 1) 3 1 (.slice (some ⟨w.heap.size + 1, 0, none⟩) n n) n ((drawS key n t).2.map (Value.int .i64)) ∧ Below w.heap.size w wr)
      (fun _ i _ => (intOf i).toNat)
    case atStart => exact ⟨0, .inr rfl, rfl, by congr 1; omega, HOR.out, HBR.out⟩
    case round =>
      obtain ⟨t, ht, rfl, rfl, hown, hnx⟩ := hrel
      by_cases hlt : t + 2 ≤ n
      · have hbd := drawS_bd key n (by omega) t
        have hln := drawS_len key n t
        obtain ⟨i, hi'⟩ : ∃ i : Nat, n - 1 - t = i := ⟨_, rfl⟩
        have ei : (n : Int) - 1 - (t : Int) = (i : Int) := by omega
        have ei2 : (n : Int) - 1 - ((t + 1 : Nat) : Int) = (i : Int) - 1 := by omega
        have hi1 : 1 ≤ i := by omega
        have hin : i < n := by omega
        obtain ⟨x, hx⟩ : ∃ x : Int, (drawS key n t).1 = x := ⟨_, rfl⟩
        obtain ⟨l, hl⟩ : ∃ l : List Int, (drawS key n t).2 = l := ⟨_, rfl⟩
        obtain ⟨X, hX⟩ : ∃ X : Int, 950706376 * x % 2147483647 = X := ⟨_, rfl⟩
        have hX0 : 0 ≤ X ∧ X ≤ 2147483646 := by
          have h1 := Int.emod_nonneg (950706376 * x) (show (2147483647 : Int) ≠ 0 by decide)
          have h2 := Int.emod_lt_of_pos (950706376 * x) (show (0 : Int) < 2147483647 by decide)
          omega
        obtain ⟨j, hj⟩ : ∃ j : Nat, (X % ((i : Int) + 1)).toNat = j := ⟨_, rfl⟩
        have hjb : X % ((i : Int) + 1) = (j : Int) ∧ j ≤ i := by
          have h1 := Int.emod_nonneg X (show ((i : Int) + 1) ≠ 0 by omega)
          have h2 := Int.emod_lt_of_pos X (show (0 : Int) < (i : Int) + 1 by omega)
          omega
        have hS : drawS key n (t + 1) = (X, (l.set i (l[j]?.getD 0)).set j (l[i]?.getD 0)) := by
          simp only [drawS, hx, hl, hi', hX, hj]
        rw [hx] at hbd ⊢
        rw [hl] at hown hln
        rw [ei]
        have w1 : IntKind.i64.wrap (950706376 * x) = 950706376 * x := IntWalk.i64_in _ ⟨by omega, by omega⟩
        have w2 : (950706376 * x).tmod 2147483647 = X := by rw [Int.tmod_eq_emod_of_nonneg (by omega)]; exact hX
        have w3 : IntKind.i64.wrap X = X := IntWalk.i64_in _ ⟨by omega, by omega⟩
        have w4' : X.tmod ((i : Int) + 1) = (j : Int) := by rw [Int.tmod_eq_emod_of_nonneg hX0.1]; exact hjb.1
        have w5 : IntKind.i64.wrap ((i : Int) + 1) = (i : Int) + 1 := IntWalk.i64_in _ ⟨by omega, by omega⟩
        have w6 : IntKind.i64.wrap ((i : Int) - 1) = (i : Int) - 1 := IntWalk.i64_in _ ⟨by omega, by omega⟩
        have w7 : (1 : Int) ≤ (i : Int) := by omega
        have w8 : ¬ ((i : Int) + 1 = 0) := by omega
        have w9 : (i : Int) < (n : Int) := by omega
        have w10 : (j : Int) < (n : Int) := by omega
        have ci : wr.cell? ⟨w.heap.size + 1, i, none⟩ = some (.int .i64 (l[i]?.getD 0)) := owns_cell hown (by rw [List.getElem?_map, List.getElem?_eq_getElem (by omega)]; rfl)
        have cj : wr.cell? ⟨w.heap.size + 1, j, none⟩ = some (.int .i64 (l[j]?.getD 0)) := owns_cell hown (by rw [List.getElem?_map, List.getElem?_eq_getElem (by omega)]; rfl)
        have fi := hown.frozenAt i
        have fj := hown.frozenAt j
        have hst1 := (hown.stored i (.int .i64 (l[j]?.getD 0))).1
        have cj2 : (wr.setCell ⟨w.heap.size + 1, i, none⟩ (.int .i64 (l[j]?.getD 0))).cell? ⟨w.heap.size + 1, j, none⟩ = some (.int .i64 ((l.set i (l[j]?.getD 0))[j]?.getD 0)) := by
          rw [← List.map_set] at hst1
          exact owns_cell hst1 (by rw [List.getElem?_map, List.getElem?_eq_getElem (by simp; omega)]; rfl)
        have fj2 := hst1.frozenAt j
        have hst2 := (hst1.stored j (.int .i64 (l[i]?.getD 0))).1
        rw [← List.map_set, ← List.map_set] at hst2
        have HST := Lib.hid hst2
        have HNX := Lib.hid hnx
        have HS1 := Lib.hid hS
        have HEI := Lib.hid ei2
        clear hst1 hst2 hown hnx hS hX hj hjb hx hl hi' ei ei2 hX0 hbd ht
        go_upto_region 16 with fail
        clear hln
        go_region_with (fail)
        all_goals
          go_wp2_with fail
          go_roundw
          case rel =>
            refine ⟨t + 1, .inl (by omega), ?_⟩
            rw [HS1.out, HEI.out]
            exact ⟨rfl, rfl, HST.out.drew, ((HNX.out.setCell (p := ⟨w.heap.size + 1, i, none⟩) (by show w.heap.size ≤ w.heap.size + 1; omega) _).setCell (p := ⟨w.heap.size + 1, j, none⟩) (by show w.heap.size ≤ w.heap.size + 1; omega) _).drew⟩
          case measure => simp [intOf]; omega
      · have et : t = n - 1 := by omega
        have hi2 : ¬ ((1 : Int) ≤ (n : Int) - 1 - (t : Int)) := by omega
        have hi3 : (n : Int) - 1 - (t : Int) < 1 := by omega
        have HET := Lib.hid et
        have HO := Lib.hid hown
        have HX := Lib.hid hnx
        clear et hown hnx ht
        go_wp2_with fail
        go_ret2
        refine ⟨_, rfl, owns_base ?_ (show w.heap.size ≤ w.heap.size + 1 by omega), HX.out⟩
        have h := HO.out
        rw [HET.out] at h
        exact h
end Go.Proofs.YtnbohpcaejbpeaaGreatDoor

/-
  Contracts of streamSize and of appendNumber: four bytes of a number behind a row of bytes that the caller owns.
-/
namespace Go.Proofs.YtnbohpcaejbpeaaGreatDoor
open Go.RowKit
set_option linter.unusedVariables false

/-- The four bytes of a number, the greatest one first. -/
def wordOf (x : Int) : List Int := [byt x 3, byt x 2, byt x 1, byt x 0]
theorem blk_set4 {w : World} {B : Nat} {T : TypeId} {x y z u : Value} (h : w.heap[B]? = some (.cells #[x, y, z, u] T (0, 0))) (a b c d : Value) :
    ((((w.setCell ⟨B, 3, none⟩ d).setCell ⟨B, 2, none⟩ c).setCell ⟨B, 1, none⟩ b).setCell ⟨B, 0, none⟩ a).heap[B]? = some (.cells #[a, b, c, d] T (0, 0)) := by
  simp only [World.setCell, Array.getElem?_modify, if_true, h, Option.map_some]
  simp
theorem Tryz.infoByte : (Tryz.prog.info? 5).map (fun i => (i.zero, i.size, i.bytes)) = some (some (.int .u8 0), 1, 1) := by kernel_rfl

set_option maxHeartbeats 800000 in
theorem streamSize_any (W H : Nat) (hW : W ≤ 64) (hH : H ≤ 64) (w : World) :
    Calls Tryz.prog 60 #[.int .i64 W, .int .i64 H] w fun e w' => e = .returned (.int .i64 ((10 + 4 * (W * H) : Nat) : Int)) ∧ w = w' := by
  have hm : W * H ≤ 64 * 64 := Nat.mul_le_mul hW hH
  have e1 : 4 * (W : Int) * (H : Int) = ((4 * (W * H) : Nat) : Int) := by push_cast; rw [Int.mul_assoc]
  have i1 : IntKind.i64.wrap (4 * (W : Int)) = 4 * (W : Int) := IntWalk.i64_in _ ⟨by omega, by omega⟩
  obtain ⟨q, hq⟩ : ∃ q : Nat, 4 * (W * H) = q := ⟨_, rfl⟩
  rw [hq] at e1
  have hq4 : q ≤ 16384 := by omega
  have e2 : ((10 + 4 * (W * H) : Nat) : Int) = 6 + (q : Int) + 4 := by omega
  rw [e2]
  have i2 : IntKind.i64.wrap (q : Int) = (q : Int) := IntWalk.i64_in _ ⟨by omega, by omega⟩
  have i3 : IntKind.i64.wrap (6 + (q : Int)) = 6 + (q : Int) := IntWalk.i64_in _ ⟨by omega, by omega⟩
  have i4 : IntKind.i64.wrap (6 + (q : Int) + 4) = 6 + (q : Int) + 4 := IntWalk.i64_in _ ⟨by omega, by omega⟩
  clear hq e2 hm
  go_enter Tryz.func60, Tryz.ntmps60
  go_wp2
  go_ret
  exact ⟨rfl, rfl⟩

set_option maxRecDepth 100000 in
set_option maxHeartbeats 3200000 in
theorem appendNumber_any (B : Nat) (v : Value) (n : Nat) (xs : List Value) (x : Int) (h0 : 0 ≤ x) (h1 : x ≤ 4294967295) (hn : n ≤ 100000) (w : World) (h : w.ownsRow B 5 1 v n xs) (hB : B ≤ w.heap.size) :
    Calls Tryz.prog 61 #[v, .int .i64 x] w fun e w' => ∃ v', e = .returned v' ∧ w'.ownsRow B 5 1 v' (n + 4) (xs ++ (wordOf x).map (Value.int .u8)) ∧ Below B w w' ∧ (∀ k, k < w.heap.size → v.ownBlock ≠ some k → w'.heap[k]? = w.heap[k]?) := by
  obtain ⟨i0, hi, hz0, hz1, hz2⟩ := info_parts Tryz.infoByte
  obtain ⟨ao, c, rfl⟩ := owns_slice h
  obtain ⟨W1, hW1⟩ : ∃ W1, w.alloc (.cells #[.int .u8 0, .int .u8 0, .int .u8 0, .int .u8 0] 175) = W1 := ⟨_, rfl⟩
  have hB1 : Below w.heap.size w W1 := by rw [← hW1]; exact (Below.refl _ w).alloc (Nat.le_refl _) _
  have b1 : W1.heap[w.heap.size]? = some (.cells #[.int .u8 0, .int .u8 0, .int .u8 0, .int .u8 0] 175 (0, 0)) := by rw [← hW1]; exact blk_alloc_new _ _
  have f1 : ∀ j, W1.frozen? ⟨w.heap.size, j, none⟩ = false := fun j => by simp [World.frozen?, b1]
  have K := Lib.hid (write4_any W1 w.heap.size 0 4 x h0 h1 (by rw [cell_of_row W1 _ 0 _ _ (0, 0) b1]; rfl) (by rw [cell_of_row W1 _ 1 _ _ (0, 0) b1]; rfl) (by rw [cell_of_row W1 _ 2 _ _ (0, 0) b1]; rfl) (by rw [cell_of_row W1 _ 3 _ _ (0, 0) b1]; rfl) (f1 0) (f1 1) (f1 2) (f1 3))
  have hO1 : W1.ownsRow B 5 1 (.slice ao n c) n xs := by rw [← hW1]; exact h.alloc _
  have hlt := h.lt
  have hO2 : ((((W1.setCell ⟨w.heap.size, 3, none⟩ (.int .u8 (byt x 0))).setCell ⟨w.heap.size, 2, none⟩ (.int .u8 (byt x 1))).setCell ⟨w.heap.size, 1, none⟩ (.int .u8 (byt x 2))).setCell ⟨w.heap.size, 0, none⟩ (.int .u8 (byt x 3))).ownsRow B 5 1 (.slice ao n c) n xs := by
    have nb : (Value.slice ao n c).ownBlock = none ∨ (Value.slice ao n c).ownBlock ≠ some w.heap.size := by
      cases e : (Value.slice ao n c).ownBlock with
      | none => exact .inl rfl
      | some k => exact .inr fun e' => by have := (hlt k e).2; have := Option.some.inj e'; omega
    exact (((hO1.kept (OnlyBlk.set _ _ _ _).1 nb).kept (OnlyBlk.set _ _ _ _).1 nb).kept (OnlyBlk.set _ _ _ _).1 nb).kept (OnlyBlk.set _ _ _ _).1 nb
  have b2 := blk_set4 b1 (.int .u8 (byt x 3)) (.int .u8 (byt x 2)) (.int .u8 (byt x 1)) (.int .u8 (byt x 0))
  have hB2 : Below w.heap.size w ((((W1.setCell ⟨w.heap.size, 3, none⟩ (.int .u8 (byt x 0))).setCell ⟨w.heap.size, 2, none⟩ (.int .u8 (byt x 1))).setCell ⟨w.heap.size, 1, none⟩ (.int .u8 (byt x 2))).setCell ⟨w.heap.size, 0, none⟩ (.int .u8 (byt x 3))) :=
    ((((hB1.setCell (p := ⟨w.heap.size, 3, none⟩) (Nat.le_refl _) _).setCell (p := ⟨w.heap.size, 2, none⟩) (Nat.le_refl _) _).setCell (p := ⟨w.heap.size, 1, none⟩) (Nat.le_refl _) _).setCell (p := ⟨w.heap.size, 0, none⟩) (Nat.le_refl _) _)
  obtain ⟨W2, hW2⟩ : ∃ W2, ((((W1.setCell ⟨w.heap.size, 3, none⟩ (.int .u8 (byt x 0))).setCell ⟨w.heap.size, 2, none⟩ (.int .u8 (byt x 1))).setCell ⟨w.heap.size, 1, none⟩ (.int .u8 (byt x 2))).setCell ⟨w.heap.size, 0, none⟩ (.int .u8 (byt x 3))) = W2 := ⟨_, rfl⟩
  rw [hW2] at hO2 b2 hB2
  have K' : Hid (Calls Tryz.prog 119 #[.slice (some ⟨w.heap.size, 0, none⟩) 4 4, .int .i64 x] W1 fun e w' => e = .returned (.tuple #[]) ∧ w' = W2) := Lib.hid (by
    have k := K.out
    simp only [Nat.zero_add] at k
    rw [hW2] at k
    exact k)
  have HC : Hid (∀ j u, ((wordOf x).map (Value.int .u8))[j]? = some u → W2.cell? ((⟨w.heap.size, 0, none⟩ : Addr).add j) = some u) := Lib.hid fun j u hu => by
    rw [Addr.add_mid, Nat.zero_add, cell_of_row W2 _ j _ _ (0, 0) b2]
    simpa [wordOf] using hu
  have HO2 := Lib.hid hO2
  have HB2 := Lib.hid hB2
  clear K hW2 f1 b1 b2 hO1 hO2 hB1 hB2 h
  go_enter Tryz.func61, Tryz.ntmps61
  go_upto_region 2 with fail
  try rw [hW1]
  clear hW1
  go_wp2_with (first
    | (go_at_call 119; refine K'.out.mono ?_; rintro e w' ⟨rfl, rfl⟩)
    | (at_builtin; refine wpList_append_own _ rfl (.tmp 9) (.tmp 10) 42 rfl B 5 i0 (.int .u8 0) 1 1 Tryz.underlying42 hi hz0 hz1 hz2 rfl (by decide) _ _ _ rfl HO2.out ⟨w.heap.size, 0, none⟩ 4 4 ((wordOf x).map (Value.int .u8)) rfl rfl HC.out (by intro u hu; obtain ⟨y, _, rfl⟩ := List.mem_map.1 hu; rfl) (by unfold maxLen; omega) (by omega) (by have := HB2.out.size; omega) ?_; intro v' w3 hown3 hgrow3 _))
  go_ret
  exact ⟨_, rfl, hown3, (HB2.out.mono hB).grown hgrow3 (by have := HB2.out.size; omega) (fun k hk => (HO2.out.lt k hk).1), fun k hk hne => (hgrow3.block k (by have := HB2.out.size; omega) (fun e => hne e.symm)).trans (HB2.out.block k hk)⟩
end Go.Proofs.YtnbohpcaejbpeaaGreatDoor

/-
  Contract of Pack for a right map: the bytes of its stream.
-/
namespace Go.Proofs.YtnbohpcaejbpeaaGreatDoor
open Go.RowKit
set_option linter.unusedVariables false

def packHead (W H : Nat) : List Int := [76, 77, 65, 80, W, H]
def packBody (ks : List Int) : List Int := ks.flatMap (fun k => wordOf (smpOf k))
def packS (W H : Nat) (ks : List Int) : List Int := packHead W H ++ packBody ks
def packL (W H : Nat) (ks : List Int) : List Int := packS W H ks ++ wordOf (chkOf (packS W H ks))
theorem packBody_len (ks : List Int) : (packBody ks).length = 4 * ks.length := by
  induction ks with
  | nil => rfl
  | cons k ks ih => simp [packBody, wordOf] at ih ⊢; omega
theorem packBody_succ (ks : List Int) (k : Nat) (hk : k < ks.length) : packBody (ks.take (k + 1)) = packBody (ks.take k) ++ wordOf (smpOf (ks[k]?.getD 0)) := by
  rw [List.take_succ_eq_append_getElem hk, packBody, List.flatMap_append, List.getElem?_eq_getElem hk]; simp [packBody]
theorem byte_bd {W H : Nat} {ks : List Int} (hW : W ≤ 64) (hH : H ≤ 64) : ∀ x ∈ packS W H ks, 0 ≤ x ∧ x ≤ 255 := by
  intro x hx
  rcases List.mem_append.1 hx with h | h
  · simp [packHead] at h; omega
  · obtain ⟨k, _, h⟩ := List.mem_flatMap.1 h
    simp [wordOf] at h
    rcases h with rfl | rfl | rfl | rfl <;> exact byt_bd _ _

theorem run_bits32 (d : Nat) : ∀ w : World, (callFunc 62 #[.float .f32 d]).run Tryz.prog w = .ok (.value (.int .u32 d)) w := fun w => by kernel_rfl
theorem smpOf_word (n : Int) (hn : n.natAbs < 2 ^ 24) : smpOf n < 2 ^ 32 := by
  have := floatBits_wf (smpOf_run n hn)
  simpa [Lit.wf] using this
theorem not_own {w : World} {B n ga : Nat} {v : Value} {x y : Int} {xs : List Value} (h : w.ownsRow B 5 1 v n (.int .u8 x :: xs)) (hr : w.cell? ⟨ga, 0, none⟩ = some (.int .i64 y)) : v.ownBlock ≠ some ga := by
  intro e
  have k := h.cells (g := ga) e 0 (.int .u8 x) rfl
  rw [Addr.add_mid] at k
  rw [hr] at k
  cases k
theorem row_same {w w' : World} {ga n : Nat} {ks : List Int} (h : RowAt w ga n ks) (hb : w'.heap[ga]? = w.heap[ga]?) : RowAt w' ga n ks :=
  ⟨(by
    have h1 := h.lt
    rcases Nat.lt_or_ge ga w'.heap.size with h2 | h2
    · exact h2
    · rw [Array.getElem?_eq_none h2] at hb
      rw [Array.getElem?_eq_getElem h1] at hb
      exact absurd hb (by simp)), fun j hj => (World.cell?_of_block (w := w) (w' := w') (a := ⟨ga, j, none⟩) hb).trans (h.cells j hj)⟩

set_option maxRecDepth 100000 in
set_option maxHeartbeats 6400000 in
theorem pack_any (W H : Nat) (b o c n : Nat) (xs : List Nat) (ks : List Int) (w : World) (hA : RightMap w W H b o n xs ks) (hb : b < w.heap.size) :
    Calls Tryz.prog 15 #[.agg #[.int .i64 W, .int .i64 H, .slice (some ⟨b, o, none⟩) n c]] w fun e w' =>
      ∃ v, e = .returned (.tuple #[v, .int .i64 0]) ∧ w'.ownsRow w.heap.size 5 1 v (10 + 4 * n) ((packL W H ks).map (Value.int .u8)) ∧ Below w.heap.size w w' := by
  obtain ⟨i0, hi, hz0, hz1, hz2⟩ := info_parts Tryz.infoByte
  obtain ⟨W0, hW0⟩ : ∃ W0, w.alloc (.cells #[.int .i64 W, .int .i64 H, .slice (some ⟨b, o, none⟩) n c] 30) = W0 := ⟨_, rfl⟩
  have hB0 : Below w.heap.size w W0 := by rw [← hW0]; exact (Below.refl _ w).alloc (Nat.le_refl _) _
  have hS0 : W0.heap.size = w.heap.size + 1 := by rw [← hW0]; simp
  have a0 : W0.cell? ⟨w.heap.size, 0, none⟩ = some (.int .i64 W) := by rw [← hW0]; simp [go_sem]
  have a1 : W0.cell? ⟨w.heap.size, 1, none⟩ = some (.int .i64 H) := by rw [← hW0]; simp [go_sem]
  have a2 : W0.cell? ⟨w.heap.size, 2, none⟩ = some (.slice (some ⟨b, o, none⟩) n c) := by rw [← hW0]; simp [go_sem]
  have K1 := Lib.hid (checkMap_any W H b o n c xs ks W0 (hA.below hB0 hb) (by omega))
  have K2 : Hid (∀ w1 : World, Below W0.heap.size W0 w1 → Calls Tryz.prog 43 #[.agg #[.int .i64 W, .int .i64 H, .slice (some ⟨b, o, none⟩) n c]] w1 fun e w' =>
      ∃ g, e = .returned (.agg #[.int .i64 W, .int .i64 H, .slice (some ⟨g, 0, none⟩) n n]) ∧ w1.heap.size ≤ g ∧ RowAt w' g n ks ∧ Below w1.heap.size w1 w') := Lib.hid (fun w1 h => by
    have h1 := h.size
    have h2 := hB0.trans (h.mono (by omega))
    exact grid_row W H b o n c xs ks w1 (hA.below h2 hb).toWords (by omega))
  have hWi := hA.wid
  have hHe := hA.hei
  have hW64 : W ≤ 64 := by omega
  have hH64 : H ≤ 64 := by omega
  have hN : W * H = n := by have := hA.area; exact_mod_cast this
  have hsm := hA.small
  have KSZ : Hid (∀ w1 : World, Calls Tryz.prog 60 #[.int .i64 W, .int .i64 H] w1 fun e w' => e = .returned (.int .i64 ((10 + 4 * n : Nat) : Int)) ∧ w1 = w') := Lib.hid fun w1 => by have h := streamSize_any W H hW64 hH64 w1; rw [hN] at h; exact h
  have HB0 := Lib.hid hB0
  have HS0 := Lib.hid hS0
  have HRA := Lib.hid hA
  have HN := Lib.hid hN
  clear hA hB0 hN
  go_enter Tryz.func15, Tryz.ntmps15
  go_upto_region 1 with fail
  try rw [hW0]
  clear hW0
  go_upto_region 4 with (
    ((go_at_call 39; refine K1.out.mono ?_; rintro e w1 ⟨rfl, hb1⟩)))
  have hs1 := hb1.size
  have a0' := (hb1.cell (p := ⟨w.heap.size, 0, none⟩) (by show w.heap.size < _; omega)).trans a0
  have a1' := (hb1.cell (p := ⟨w.heap.size, 1, none⟩) (by show w.heap.size < _; omega)).trans a1
  have a2' := (hb1.cell (p := ⟨w.heap.size, 2, none⟩) (by show w.heap.size < _; omega)).trans a2
  have HB1 := Lib.hid hb1
  clear a0 a1 a2 hb1
  go_upto_region 5 with (first
    | (go_at_call 60; refine (KSZ.out _).mono ?_; rintro e w9 ⟨rfl, rfl⟩)
    | (at_make; refine wpList_make_own _ rfl _ _ 42 rfl w1.heap.size 5 i0 (.int .u8 0) 1 Tryz.underlying42 hi hz0 hz1 _ _ _ (10 + 4 * n) rfl rfl (by omega) (by rw [hz2]; omega) (by unfold maxLen; omega) (Nat.le_refl _) ?_; intro w2 hown2 hgrow2))
  have hb2 : Below w1.heap.size w1 w2 := (Below.refl _ _).grown hgrow2 (Nat.le_refl _) (fun k h => by cases h)
  have hsz2 := hb2.size
  go_upto_region 6 with (
    (at_builtin; go_loud (refine Lib.wpList_append_own_string _ rfl (.tmp 19) (.const (.string ⟨#[76, 77, 65, 80]⟩)) 42 9 rfl w1.heap.size 5 i0 Tryz.underlying42 Tryz.underlying9 hi hz0 hz1 hz2 _ 0 [] rfl hown2 ⟨#[76, 77, 65, 80]⟩ rfl (by show 0 + 4 ≤ maxLen; unfold maxLen; omega) (by show 0 + 4 ≤ _; omega) (by omega) ?_; intro v3 w3 hown3 hgrow3 _)))
  have hown3' : w3.ownsRow w1.heap.size 5 1 v3 4 (([76, 77, 65, 80] : List Int).map (Value.int .u8)) := by
    have h := hown3
    rw [show ([] : List Value) ++ Lib.strCells ⟨#[76, 77, 65, 80]⟩ = ([76, 77, 65, 80] : List Int).map (Value.int .u8) from rfl] at h
    exact h
  have hb3 : Below w1.heap.size w1 w3 := hb2.grown hgrow3 (by omega) (fun k hk => (hown2.lt k hk).1)
  have hsz3 := hb3.size
  obtain ⟨ao3, c3, rfl⟩ := owns_slice hown3'
  have hlw : w.heap.size < w1.heap.size := by omega
  have q0 := (hb3.cell (p := ⟨w.heap.size, 0, none⟩) (by show w.heap.size < _; omega)).trans a0'
  have q1 := (hb3.cell (p := ⟨w.heap.size, 1, none⟩) (by show w.heap.size < _; omega)).trans a1'
  have q2 := (hb3.cell (p := ⟨w.heap.size, 2, none⟩) (by show w.heap.size < _; omega)).trans a2'
  have u1 : IntKind.u8.wrap (W : Int) = (W : Int) := IntWalk.u8_in _ ⟨by omega, by omega⟩
  have u2 : IntKind.u8.wrap (H : Int) = (H : Int) := IntWalk.u8_in _ ⟨by omega, by omega⟩
  have hown4 : (w3.alloc (.cells #[.int .u8 W, .int .u8 H] 5)).ownsRow w1.heap.size 5 1 (.slice ao3 4 c3) 4 (([76, 77, 65, 80] : List Int).map (Value.int .u8)) := hown3'.alloc _
  have bN : (w3.alloc (.cells #[.int .u8 W, .int .u8 H] 5)).heap[w3.heap.size]? = some (.cells #[.int .u8 W, .int .u8 H] 5 (0, 0)) := blk_alloc_new _ _
  have HC : Hid (∀ j u, ([.int .u8 W, .int .u8 H] : List Value)[j]? = some u → (w3.alloc (.cells #[.int .u8 W, .int .u8 H] 5)).cell? ((⟨w3.heap.size, 0, none⟩ : Addr).add j) = some u) := Lib.hid fun j u hu => by
    rw [Addr.add_mid, Nat.zero_add, cell_of_row _ _ j _ _ (0, 0) bN]
    simpa using hu
  have HO4 := Lib.hid hown4
  have HB3 := Lib.hid hb3
  clear hown2 hgrow2 hown3 hown3' hgrow3 hb2 hb3 a0' a1' a2' hown4 bN
  go_upto_region 7 with (
    (at_builtin; refine wpList_append_own _ rfl (.tmp 21) (.tmp 28) 42 rfl w1.heap.size 5 i0 (.int .u8 0) 1 1 Tryz.underlying42 hi hz0 hz1 hz2 rfl (by decide) _ _ _ rfl HO4.out ⟨w3.heap.size, 0, none⟩ 2 2 [.int .u8 W, .int .u8 H] rfl rfl HC.out (by intro u hu; simp at hu; rcases hu with rfl | rfl <;> rfl) (by unfold maxLen; omega) (by omega) (by simp; omega) ?_; intro v5 w5 hown5 hgrow5 _))
  have hown5' : w5.ownsRow w1.heap.size 5 1 v5 6 ((packHead W H).map (Value.int .u8)) := hown5
  have hb5 : Below w1.heap.size w1 w5 := (HB3.out.alloc (by omega) _).grown hgrow5 (by simp; omega) (fun k hk => (HO4.out.lt k hk).1)
  have hsz5 := hb5.size
  obtain ⟨ao5, c5, rfl⟩ := owns_slice hown5'
  have q0' := (hb5.cell (p := ⟨w.heap.size, 0, none⟩) (by show w.heap.size < _; omega)).trans ((HB3.out.cell (p := ⟨w.heap.size, 0, none⟩) (by show w.heap.size < _; omega)).symm.trans q0)
  have q1' := (hb5.cell (p := ⟨w.heap.size, 1, none⟩) (by show w.heap.size < _; omega)).trans ((HB3.out.cell (p := ⟨w.heap.size, 1, none⟩) (by show w.heap.size < _; omega)).symm.trans q1)
  have q2' := (hb5.cell (p := ⟨w.heap.size, 2, none⟩) (by show w.heap.size < _; omega)).trans ((HB3.out.cell (p := ⟨w.heap.size, 2, none⟩) (by show w.heap.size < _; omega)).symm.trans q2)
  have K3 := Lib.hid (K2.out w5 (HB1.out.trans (hb5.mono hs1)))
  have HO5 := Lib.hid hown5'
  have HB5 := Lib.hid hb5
  clear q0 q1 q2 hown5 hown5' hgrow5 hb5 HC
  go_upto_block 0 with (
    ((go_at_call 43; refine K3.out.mono ?_; rintro e w6 ⟨ga, rfl, hga, hRA, hb6⟩
      have hfld : ∀ u : World, (Instr.field 102 (.agg #[.int .i64 W, .int .i64 H, .slice (some ⟨ga, 0, none⟩) n n]) 2).run Tryz.prog u = .ok (.slice (some ⟨ga, 0, none⟩) n n) u := fun _ => by kernel_rfl)))
  have hsz6 := hb6.size
  have hown6 := owns_kept HO5.out hb6 (Nat.le_refl _)
  have hlt5 := HO5.out.lt
  have hne5 : ∀ k, (Value.slice ao5 6 c5).ownBlock = some k → k < w5.heap.size := fun k hk => (hlt5 k hk).2
  have hn1 : 1 ≤ n := by have := HN.out; have := Nat.mul_le_mul (show 1 ≤ W by omega) (show 1 ≤ H by omega); omega
  have HO6 := Lib.hid hown6
  have HB6 := Lib.hid (HB5.out.trans (hb6.mono hsz5))
  have HRW := Lib.hid hRA
  clear hown6 hlt5 hne5 hb6 hRA q0' q1' q2'
  go_cut [5] (fun s5 wr => ∃ v, s5 = v ∧ wr.ownsRow w1.heap.size 5 1 v (6 + 4 * n) ((packS W H ks).map (Value.int .u8)) ∧ Below w1.heap.size w1 wr)
  case first =>
    go_wp2_with fail
    go_loopw [5, 34] (fun v i wr => ∃ k : Nat, k ≤ n ∧ i = .int .i64 k ∧ wr.ownsRow w1.heap.size 5 1 v (6 + 4 * k) ((packHead W H ++ packBody (ks.take k)).map (Value.int .u8)) ∧ Below w1.heap.size w1 wr ∧ RowAt wr ga n ks)
      (fun _ i _ => n - (intOf i).toNat)
    case atStart => exact ⟨0, Nat.zero_le _, rfl, HO6.out, HB6.out, HRW.out⟩
    case round =>
      obtain ⟨k, hk, rfl, hown, hnx, hrw⟩ := hrel
      by_cases hlt : k < n
      · have hc := hrw.cells k hlt
        have hgl := hrw.lt
        have hne := not_own hown (hrw.cells 0 (by omega))
        have hb16 := HRA.out.sizes k hlt
        obtain ⟨kj, hkj⟩ : ∃ kj : Int, ks[k]?.getD 0 = kj := ⟨_, rfl⟩
        rw [hkj] at hc hb16
        have hsl := smpOf_word kj (Nat.lt_of_le_of_lt hb16 (by decide))
        have hsu := packBody_succ ks k (by rw [HRA.out.lenk]; exact hlt)
        rw [hkj] at hsu
        have KA := Lib.hid (appendNumber_any w1.heap.size _ (6 + 4 * k) _ (smpOf kj : Nat) (by omega) (by omega) (by omega) wr hown hnx.size)
        have hb32 := run_bits32 (smpOf kj)
        have HNX := Lib.hid hnx
        have HRR := Lib.hid hrw
        have HNE := Lib.hid hne
        have HSU := Lib.hid hsu
        have HB16 := Lib.hid hb16
        clear hown hnx hrw hne hsu hkj hb16
        go_wp2_with (first
          | (go_at_call 63; refine (sample_any _ (Nat.lt_of_le_of_lt HB16.out (by decide)) _).mono ?_; rintro e w9 ⟨rfl, rfl⟩)
          | (go_at_call 61; refine KA.out.mono ?_; rintro e w8 ⟨v8, rfl, hown8, hb8, hk8⟩))
        go_roundw
        case rel =>
          refine ⟨k + 1, by omega, by go_num, ?_, HNX.out.trans hb8, row_same HRR.out (hk8 ga hgl HNE.out)⟩
          rw [HSU.out, ← List.append_assoc, List.map_append]
          exact hown8
        case measure => simp [intOf]; omega
      · obtain rfl : k = n := by omega
        rw [List.take_of_length_le (by rw [HRA.out.lenk]; omega)] at hown
        go_wp2_with fail
        go_meet
        exact ⟨_, rfl, hown, hnx⟩
  case rest =>
    obtain ⟨v, rfl, hown, hbr⟩ := hcut
    obtain ⟨g7, c7, rfl, hg7, hgB7⟩ := owns_some hown (by omega)
    have hpl : (packS W H ks).length = 6 + 4 * n := by rw [packS, List.length_append, packBody_len, HRA.out.lenk]; rfl
    have hbyte := byte_bd (ks := ks) hW64 hH64
    have hck := chk_bd (packS W H ks)
    have hget : ∀ j, j < 6 + 4 * n → (packS W H ks)[j]?.getD 0 ∈ packS W H ks := fun j hj => by
      rw [List.getElem?_eq_getElem (by rw [hpl]; exact hj)]; exact List.getElem_mem _
    have KC := Lib.hid (checksum_any g7 0 (6 + 4 * n) c7 (packS W H ks) wc hpl (by omega) (fun j hj => hbyte _ (hget j hj)) (fun j hj => by
      rw [Nat.zero_add]
      exact owns_cell hown (by rw [List.getElem?_map, List.getElem?_eq_getElem (by rw [hpl]; exact hj)]; rfl)))
    have KA := Lib.hid (appendNumber_any w1.heap.size _ (6 + 4 * n) _ (chkOf (packS W H ks)) hck.1 (by omega) (by omega) wc hown hbr.size)
    have HBR := Lib.hid hbr
    clear hpl hbyte hck hget hown hbr
    go_wp2_with (first
      | (go_at_call 64; refine KC.out.mono ?_; rintro e w9 ⟨rfl, rfl⟩)
      | (go_at_call 61; refine KA.out.mono ?_; rintro e w8 ⟨v8, rfl, hown8, hb8, _⟩))
    go_ret2
    refine ⟨_, rfl, owns_base ?_ (show w.heap.size ≤ w1.heap.size by omega), (HB0.out.trans ((HB1.out.trans ((HBR.out.trans hb8).mono hs1)).mono (by have := HS0.out; omega)))⟩
    rw [show 10 + 4 * n = 6 + 4 * n + 4 by omega, packL, List.map_append]
    exact hown8
end Go.Proofs.YtnbohpcaejbpeaaGreatDoor

/-
  Contract of power: the powers of -i.
-/
namespace Go.Proofs.YtnbohpcaejbpeaaGreatDoor
open Go.RowKit
set_option linter.unusedVariables false
set_option linter.unusedSimpArgs false

theorem store_complex (P : Program) (w : World) (a : Addr) (m : Mode) (k : FloatKind) (x y : Nat) : (store a (.complex k x y) m).run P w = stored P w a (.complex k x y) m := run_store P w a _ m rfl

/-- The powers of -i, by the exponent modulo 4. -/
def powL : List Value := [.complex .f32 1065353216 0, .complex .f32 0 3212836864, .complex .f32 3212836864 0, .complex .f32 0 1065353216]
theorem powL_at (k : Nat) (hk : k < 4) : ∃ x y, powL[k]? = some (.complex .f32 x y) := by
  match k, hk with
  | 0, _ => exact ⟨_, _, rfl⟩
  | 1, _ => exact ⟨_, _, rfl⟩
  | 2, _ => exact ⟨_, _, rfl⟩
  | 3, _ => exact ⟨_, _, rfl⟩

attribute [local go_sem] store_complex
set_option maxRecDepth 100000 in
set_option maxHeartbeats 3200000 in
theorem power_any (n k : Nat) (v : Value) (hk : n % 4 = k) (hv : powL[k]? = some v) (w : World) :
    Calls Tryz.prog 95 #[.int .i64 n] w fun e w' => e = .returned v ∧ Below w.heap.size w w' := by
  have hk4 : k < 4 := by omega
  have hm : ((n : Int)).tmod 4 = (k : Int) := by rw [Int.tmod_eq_emod_of_nonneg (by omega)]; omega
  obtain ⟨W1, hW1⟩ : ∃ W1, w.alloc (.cells #[.complex .f32 1065353216 0, .complex .f32 0 3212836864, .complex .f32 3212836864 0, .complex .f32 0 1065353216] 70) = W1 := ⟨_, rfl⟩
  have hB : Below w.heap.size w W1 := by rw [← hW1]; exact (Below.refl _ w).alloc (Nat.le_refl _) _
  have hc : W1.cell? ⟨w.heap.size, k, none⟩ = some v := by
    rw [← hW1, cell_of_row _ _ k _ _ (0, 0) (blk_alloc_new _ _)]
    simpa [powL] using hv
  have HB := Lib.hid hB
  go_enter Tryz.func95, Tryz.ntmps95
  go_upto_region 2 with fail
  clear hW1
  go_wp2_with fail
  go_ret
  exact ⟨rfl, HB.out⟩
end Go.Proofs.YtnbohpcaejbpeaaGreatDoor
