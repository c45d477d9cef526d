/-
  Contract of Draw: the permutation of n elements by a key.
-/
import Derived.Test.YtlnhgplloaiiiaaGreatDoorKWk
import Derived.Test.YtlnhgplloaiiiaaGreatDoorKWa
import Derived.Deep.CutBlock
import Derived.Deep.DeepCutAuto
import Derived.Deep.RegionHeld3
import Derived.StillTailTactics
import Derived.Test.YtlnhgplloaiiiaaGreatDoorKFd
import Derived.Test.YtlnhgplloaiiiaaGreatDoorKXe
namespace Go.Proofs.YtlnhgplloaiiiaaGreatDoor
open Go.RowKit
set_option linter.unusedVariables false
set_option linter.unusedSimpArgs false

/-- The generator's number and the list after some exchanges. -/
def drawS (key : Int) (n : Nat) : Nat → Int × List Int
  | 0 => (key, (List.range n).map (fun i : Nat => (i : Int)))
  | t + 1 => (950706376 * (drawS key n t).1 % 2147483647,
      ((drawS key n t).2.set (n - 1 - t) ((drawS key n t).2[(950706376 * (drawS key n t).1 % 2147483647 % ((n - 1 - t : Nat) + 1 : Int)).toNat]?.getD 0)).set (950706376 * (drawS key n t).1 % 2147483647 % ((n - 1 - t : Nat) + 1 : Int)).toNat ((drawS key n t).2[n - 1 - t]?.getD 0))
def drawL (key : Int) (n : Nat) : List Int := (drawS key n (n - 1)).2
theorem drawS_len (key : Int) (n : Nat) : ∀ t, (drawS key n t).2.length = n
  | 0 => by simp [drawS]
  | t + 1 => by simp [drawS, drawS_len key n t]
theorem drawS_bd (key : Int) (n : Nat) (h : 0 ≤ key ∧ key ≤ 2147483646) : ∀ t, 0 ≤ (drawS key n t).1 ∧ (drawS key n t).1 ≤ 2147483646
  | 0 => h
  | t + 1 => by
    have h1 := Int.emod_nonneg (950706376 * (drawS key n t).1) (show (2147483647 : Int) ≠ 0 by decide)
    have h2 := Int.emod_lt_of_pos (950706376 * (drawS key n t).1) (show (0 : Int) < 2147483647 by decide)
    simp only [drawS]
    omega

/-- The list while its first k places are told. -/
def fillTo (n k : Nat) : List Int := (List.range n).map (fun q => if q < k then (q : Int) else 0)
theorem fillTo_len (n k : Nat) : (fillTo n k).length = n := by simp [fillTo]
theorem fillTo_set (n k : Nat) : (fillTo n k).set k (k : Int) = fillTo n (k + 1) := by
  refine List.ext_getElem (by simp [fillTo]) fun q h1 h2 => ?_
  simp only [fillTo, List.getElem_set, List.getElem_map, List.getElem_range]
  by_cases e : k = q
  · subst e; rw [if_pos rfl, if_pos (by omega)]
  · rw [if_neg e]
    by_cases e2 : q < k
    · rw [if_pos e2, if_pos (by omega)]
    · rw [if_neg e2, if_neg (by omega)]
theorem fillTo_0 (n : Nat) : fillTo n 0 = List.replicate n 0 := by
  refine List.ext_getElem (by simp [fillTo]) fun q h1 h2 => ?_
  simp [fillTo]
theorem fillTo_n (n : Nat) : fillTo n n = (List.range n).map (fun i : Nat => (i : Int)) := by
  refine List.ext_getElem (by simp [fillTo]) fun q h1 h2 => ?_
  simp only [fillTo_len] at h1
  simp [fillTo, h1]

set_option maxRecDepth 100000 in
set_option maxHeartbeats 6400000 in
theorem draw_any (key : Int) (n : Nat) (hk : 1 ≤ key ∧ key ≤ 2147483646) (hn : n ≤ 256) (w : World) :
    Calls Tryz.prog 14 #[.int .i64 key, .int .i64 n] w fun e w' =>
      ∃ v, e = .returned (.tuple #[v, .int .i64 0]) ∧ w'.ownsRow w.heap.size 3 1 v n ((drawL key n).map (Value.int .i64)) ∧ Below w.heap.size w w' := by
  obtain ⟨i0, hi, hz0, hz1, hz2⟩ := info_parts Tryz.infoInt
  have e1 : rangeErr key 1 2147483646 = 0 := rangeErr_in hk.1 hk.2
  have e2 : rangeErr (n : Int) 0 256 = 0 := rangeErr_in (by omega) (by omega)
  have KN : Hid (∀ w1 : World, Calls Tryz.prog 92 #[.int .i64 key, .int .i64 1, .int .i64 2147483646] w1 fun e w' => e = .returned (.int .i64 0) ∧ w1 = w') := Lib.hid fun w1 => by have h := checkRange_any key 1 2147483646 w1; rw [e1] at h; exact h
  have KD : Hid (∀ w1 : World, Calls Tryz.prog 92 #[.int .i64 n, .int .i64 0, .int .i64 256] w1 fun e w' => e = .returned (.int .i64 0) ∧ w1 = w') := Lib.hid fun w1 => by have h := checkRange_any (n : Int) 0 256 w1; rw [e2] at h; exact h
  clear e1 e2
  go_enter Tryz.func14, Tryz.ntmps14
  go_upto_region 5 with (first
    | (go_at_call_of 92 (Value.int .i64 key); refine (KN.out _).mono ?_; rintro e w9 ⟨rfl, rfl⟩)
    | (go_at_call_of 92 (Value.int .i64 n); refine (KD.out _).mono ?_; rintro e w9 ⟨rfl, rfl⟩)
    | ((go_at_call 91; refine (first_zeros _ 0 2 2 (by omega) _ ?_).mono ?_; rotate_left 1; rintro e w9 ⟨rfl, rfl⟩; rotate_left 1; (intro j hj; match j, hj with | 0, _ => simp [go_sem] | 1, _ => simp [go_sem])))
    | (at_make; refine wpList_make_full _ rfl (.tmp 21) (.tmp 21) 25 rfl (w.heap.size + 1) 3 i0 (.int .i64 0) 1 Tryz.underlying25 hi hz0 hz1 .i64 .i64 (n : Int) (n : Int) n rfl rfl rfl rfl (by rw [hz2]; omega) (by unfold maxLen; omega) (by simp) ?_; intro w4 hown4 hgrow4))
  have hB4 : Below w.heap.size w w4 := ((Below.refl _ w).alloc (Nat.le_refl _) _).grown hgrow4 (by simp) (fun j hj => by cases hj)
  have hO4 : w4.ownsRow (w.heap.size + 1) 3 1 (.slice (some ⟨w.heap.size + 1, 0, none⟩) n n) n ((fillTo n 0).map (Value.int .i64)) := by
    have h := hown4
    rw [Nat.mul_one, show (Value.int .i64 0).cells = #[.int .i64 0] from rfl, toList_madeCells_one] at h
    simp only [World.size_alloc] at h
    rw [fillTo_0, List.map_replicate]
    exact h
  have HB4 := Lib.hid hB4
  have HO4 := Lib.hid hO4
  clear hown4 hgrow4 hB4 hO4
  go_upto_block 0 with fail
  go_cut [7] (fun s7 wr => s7 = .slice (some ⟨w.heap.size + 1, 0, none⟩) n n ∧ wr.ownsRow (w.heap.size + 1) 3 1 (.slice (some ⟨w.heap.size + 1, 0, none⟩) n n) n ((fillTo n n).map (Value.int .i64)) ∧ Below w.heap.size w wr)
  case first =>
    go_wp2_with fail
    go_loopw [24] (fun i wr => ∃ k : Nat, k ≤ n ∧ i = .int .i64 k ∧ wr.ownsRow (w.heap.size + 1) 3 1 (.slice (some ⟨w.heap.size + 1, 0, none⟩) n n) n ((fillTo n k).map (Value.int .i64)) ∧ Below w.heap.size w wr)
      (fun i _ => n - (intOf i).toNat)
    case atStart => exact ⟨0, Nat.zero_le _, rfl, HO4.out, HB4.out⟩
    case round =>
      obtain ⟨k, hk, rfl, hown, hnx⟩ := hrel
      by_cases hlt : k < n
      · have hc : wr.cell? ⟨w.heap.size + 1, k, none⟩ = some (.int .i64 ((fillTo n k)[k]?.getD 0)) := owns_cell hown (by rw [List.getElem?_map, List.getElem?_eq_getElem (by rw [fillTo_len]; exact hlt)]; rfl)
        have hf := hown.frozenAt k
        have hst := (hown.stored k (.int .i64 (k : Int))).1
        rw [← List.map_set, fillTo_set] at hst
        have HST := Lib.hid hst
        have HNX := Lib.hid hnx
        clear hown hst hnx
        go_wp2_with fail
        go_roundw
        case rel => exact ⟨k + 1, by omega, by go_num, HST.out, HNX.out.setCell (p := ⟨w.heap.size + 1, k, none⟩) (by show w.heap.size ≤ w.heap.size + 1; omega) _⟩
        case measure => simp [intOf]; omega
      · obtain rfl : k = n := by omega
        go_wp2_with fail
        go_meet
        exact ⟨rfl, hown, hnx⟩
  case rest =>
    obtain ⟨rfl, hownR, hbR⟩ := hcut
    rw [fillTo_n] at hownR
    go_wp2_with fail
    have HOR := Lib.hid hownR
    have HBR := Lib.hid hbR
    clear hownR hbR
    go_loopw [9, 10] (fun s9 s10 wr => ∃ t : Nat, (t + 1 ≤ n ∨ t = 0) ∧ s9 = .int .i64 (drawS key n t).1 ∧ s10 = .int .i64 ((n : Int) - 1 - (t : Int)) ∧ wr.ownsRow (w.heap.size + 1) 3 1 (.slice (some ⟨w.heap.size + 1, 0, none⟩) n n) n ((drawS key n t).2.map (Value.int .i64)) ∧ Below w.heap.size w wr)
      (fun _ i _ => (intOf i).toNat)
    case atStart => exact ⟨0, .inr rfl, rfl, by congr 1; omega, HOR.out, HBR.out⟩
    case round =>
      obtain ⟨t, ht, rfl, rfl, hown, hnx⟩ := hrel
      by_cases hlt : t + 2 ≤ n
      · have hbd := drawS_bd key n (by omega) t
        have hln := drawS_len key n t
        obtain ⟨i, hi'⟩ : ∃ i : Nat, n - 1 - t = i := ⟨_, rfl⟩
        have ei : (n : Int) - 1 - (t : Int) = (i : Int) := by omega
        have ei2 : (n : Int) - 1 - ((t + 1 : Nat) : Int) = (i : Int) - 1 := by omega
        have hi1 : 1 ≤ i := by omega
        have hin : i < n := by omega
        obtain ⟨x, hx⟩ : ∃ x : Int, (drawS key n t).1 = x := ⟨_, rfl⟩
        obtain ⟨l, hl⟩ : ∃ l : List Int, (drawS key n t).2 = l := ⟨_, rfl⟩
        obtain ⟨X, hX⟩ : ∃ X : Int, 950706376 * x % 2147483647 = X := ⟨_, rfl⟩
        have hX0 : 0 ≤ X ∧ X ≤ 2147483646 := by
          have h1 := Int.emod_nonneg (950706376 * x) (show (2147483647 : Int) ≠ 0 by decide)
          have h2 := Int.emod_lt_of_pos (950706376 * x) (show (0 : Int) < 2147483647 by decide)
          omega
        obtain ⟨j, hj⟩ : ∃ j : Nat, (X % ((i : Int) + 1)).toNat = j := ⟨_, rfl⟩
        have hjb : X % ((i : Int) + 1) = (j : Int) ∧ j ≤ i := by
          have h1 := Int.emod_nonneg X (show ((i : Int) + 1) ≠ 0 by omega)
          have h2 := Int.emod_lt_of_pos X (show (0 : Int) < (i : Int) + 1 by omega)
          omega
        have hS : drawS key n (t + 1) = (X, (l.set i (l[j]?.getD 0)).set j (l[i]?.getD 0)) := by
          simp only [drawS, hx, hl, hi', hX, hj]
        rw [hx] at hbd ⊢
        rw [hl] at hown hln
        rw [ei]
        have w1 : IntKind.i64.wrap (950706376 * x) = 950706376 * x := IntWalk.i64_in _ ⟨by omega, by omega⟩
        have w2 : (950706376 * x).tmod 2147483647 = X := by rw [Int.tmod_eq_emod_of_nonneg (by omega)]; exact hX
        have w3 : IntKind.i64.wrap X = X := IntWalk.i64_in _ ⟨by omega, by omega⟩
        have w4' : X.tmod ((i : Int) + 1) = (j : Int) := by rw [Int.tmod_eq_emod_of_nonneg hX0.1]; exact hjb.1
        have w5 : IntKind.i64.wrap ((i : Int) + 1) = (i : Int) + 1 := IntWalk.i64_in _ ⟨by omega, by omega⟩
        have w6 : IntKind.i64.wrap ((i : Int) - 1) = (i : Int) - 1 := IntWalk.i64_in _ ⟨by omega, by omega⟩
        have w7 : (1 : Int) ≤ (i : Int) := by omega
        have w8 : ¬ ((i : Int) + 1 = 0) := by omega
        have w9 : (i : Int) < (n : Int) := by omega
        have w10 : (j : Int) < (n : Int) := by omega
        have ci : wr.cell? ⟨w.heap.size + 1, i, none⟩ = some (.int .i64 (l[i]?.getD 0)) := owns_cell hown (by rw [List.getElem?_map, List.getElem?_eq_getElem (by omega)]; rfl)
        have cj : wr.cell? ⟨w.heap.size + 1, j, none⟩ = some (.int .i64 (l[j]?.getD 0)) := owns_cell hown (by rw [List.getElem?_map, List.getElem?_eq_getElem (by omega)]; rfl)
        have fi := hown.frozenAt i
        have fj := hown.frozenAt j
        have hst1 := (hown.stored i (.int .i64 (l[j]?.getD 0))).1
        have cj2 : (wr.setCell ⟨w.heap.size + 1, i, none⟩ (.int .i64 (l[j]?.getD 0))).cell? ⟨w.heap.size + 1, j, none⟩ = some (.int .i64 ((l.set i (l[j]?.getD 0))[j]?.getD 0)) := by
          rw [← List.map_set] at hst1
          exact owns_cell hst1 (by rw [List.getElem?_map, List.getElem?_eq_getElem (by simp; omega)]; rfl)
        have fj2 := hst1.frozenAt j
        have hst2 := (hst1.stored j (.int .i64 (l[i]?.getD 0))).1
        rw [← List.map_set, ← List.map_set] at hst2
        have HST := Lib.hid hst2
        have HNX := Lib.hid hnx
        have HS1 := Lib.hid hS
        have HEI := Lib.hid ei2
        clear hst1 hst2 hown hnx hS hX hj hjb hx hl hi' ei ei2 hX0 hbd ht
        go_upto_region 16 with fail
        clear hln
        go_region_with (fail)
        all_goals
          go_wp2_with fail
          go_roundw
          case rel =>
            refine ⟨t + 1, .inl (by omega), ?_⟩
            rw [HS1.out, HEI.out]
            exact ⟨rfl, rfl, HST.out.drew, ((HNX.out.setCell (p := ⟨w.heap.size + 1, i, none⟩) (by show w.heap.size ≤ w.heap.size + 1; omega) _).setCell (p := ⟨w.heap.size + 1, j, none⟩) (by show w.heap.size ≤ w.heap.size + 1; omega) _).drew⟩
          case measure => simp [intOf]; omega
      · have et : t = n - 1 := by omega
        have hi2 : ¬ ((1 : Int) ≤ (n : Int) - 1 - (t : Int)) := by omega
        have hi3 : (n : Int) - 1 - (t : Int) < 1 := by omega
        have HET := Lib.hid et
        have HO := Lib.hid hown
        have HX := Lib.hid hnx
        clear et hown hnx ht
        go_wp2_with fail
        go_ret2
        refine ⟨_, rfl, owns_base ?_ (show w.heap.size ≤ w.heap.size + 1 by omega), HX.out⟩
        have h := HO.out
        rw [HET.out] at h
        exact h
end Go.Proofs.YtlnhgplloaiiiaaGreatDoor

/-
  Contract of the reference's Draw: the same permutation as the program's.
-/
namespace Go.Proofs.YtlnhgplloaiiiaaGreatDoor
open Go.RowKit
set_option linter.unusedVariables false
set_option linter.unusedSimpArgs false

theorem set_swap (l : List Int) (i j : Nat) (a b : Int) (h : i = j → a = b) : (l.set i a).set j b = (l.set j b).set i a := by
  by_cases e : i = j
  · subst e; rw [h rfl]
  · exact List.set_comm _ _ e
/-- The first k indices. -/
def upTo (k : Nat) : List Int := (List.range k).map (fun i : Nat => (i : Int))
theorem upTo_succ (k : Nat) : (upTo k).map (Value.int .i64) ++ [.int .i64 (k : Int)] = (upTo (k + 1)).map (Value.int .i64) := by
  simp [upTo, List.range_succ]

set_option maxRecDepth 100000 in
set_option maxHeartbeats 6400000 in
theorem refDraw_any (key : Int) (n : Nat) (hk : 1 ≤ key ∧ key ≤ 2147483646) (hn : n ≤ 256) (w : World) :
    Calls Tryz.prog 18 #[.int .i64 key, .int .i64 n] w fun e w' =>
      ∃ v, e = .returned v ∧ w'.ownsRow w.heap.size 3 1 v n ((drawL key n).map (Value.int .i64)) ∧ Below w.heap.size w w' := by
  obtain ⟨i0, hi, hz0, hz1, hz2⟩ := info_parts Tryz.infoInt
  go_enter Tryz.func18, Tryz.ntmps18
  go_upto_block 0 with fail
  go_cut [5] (fun s5 wr => ∃ V : Value, V = s5 ∧ wr.ownsRow w.heap.size 3 1 V n ((upTo n).map (Value.int .i64)) ∧ Below w.heap.size w wr)
  case first =>
    go_wp2_with fail
    go_loopw [5, 6] (fun out i wr => ∃ k : Nat, k ≤ n ∧ i = .int .i64 k ∧ wr.ownsRow w.heap.size 3 1 out k ((upTo k).map (Value.int .i64)) ∧ Below w.heap.size w wr)
      (fun _ i _ => n - (intOf i).toNat)
    case atStart => exact ⟨0, Nat.zero_le _, rfl, World.ownsRow_nil _ _ _ _, Below.refl _ _⟩
    case round =>
      obtain ⟨k, hk', rfl, hown, hnx⟩ := hrel
      have hsz : w.heap.size ≤ wr.heap.size := hnx.size
      by_cases hlt : k < n
      · have h4 : (k : Int) < (n : Int) := by omega
        go_wp2_with (at_builtin; refine wpList_append_own _ rfl (.tmp 16) (.tmp 18) 25 rfl w.heap.size 3 i0 (.int .i64 0) 1 8 Tryz.underlying25 hi hz0 hz1 hz2 rfl (by decide) _ k _ rfl (hown.alloc _) ⟨wr.heap.size, 0, none⟩ 1 1 [.int .i64 (k : Int)] rfl rfl (cell_one_new _ _ _) (by intro u hu; simp at hu; subst hu; rfl) (by unfold maxLen; omega) (by omega) (by simp; omega) ?_; intro v' w1 hown1 hgrow1 _)
        have hlt' := hown.lt
        go_roundw
        case rel => exact ⟨k + 1, by omega, by go_num, by rw [← upTo_succ]; exact hown1, (hnx.alloc hsz _).grown hgrow1 (by simp; omega) (fun j hj => (hlt' j hj).1)⟩
        case measure => simp [intOf]; omega
      · obtain rfl : k = n := by omega
        go_wp2_with fail
        go_meet
        exact ⟨_, rfl, hown, hnx⟩
  case rest =>
    obtain ⟨V, rfl, hownR, hbR⟩ := hcut
    have hd0 : (drawS key n 0).2 = upTo n := rfl
    go_wp2_with fail
    have HOR := Lib.hid hownR
    have HBR := Lib.hid hbR
    clear hownR hbR
    go_loopw [7, 8] (fun s7 s8 wr => ∃ t : Nat, (t + 1 ≤ n ∨ t = 0) ∧ s7 = .int .i64 (drawS key n t).1 ∧ s8 = .int .i64 ((n : Int) - 1 - (t : Int)) ∧ wr.ownsRow w.heap.size 3 1 V n ((drawS key n t).2.map (Value.int .i64)) ∧ Below w.heap.size w wr)
      (fun _ i _ => (intOf i).toNat)
    case atStart => exact ⟨0, .inr rfl, rfl, by congr 1; omega, HOR.out, HBR.out⟩
    case round =>
      obtain ⟨t, ht, rfl, rfl, hown, hnx⟩ := hrel
      by_cases hlt : t + 2 ≤ n
      · obtain ⟨g, cap, hV, hgb⟩ : ∃ g cap, V = .slice (some ⟨g, 0, none⟩) n cap ∧ w.heap.size ≤ g := by
          rcases hown.2 with ⟨_, h⟩ | ⟨g, cap, cur, h1, h2, _⟩
          · omega
          · exact ⟨g, cap, h1, h2⟩
        subst hV
        have hbd := drawS_bd key n (by omega) t
        have hln := drawS_len key n t
        obtain ⟨i, hi'⟩ : ∃ i : Nat, n - 1 - t = i := ⟨_, rfl⟩
        have ei : (n : Int) - 1 - (t : Int) = (i : Int) := by omega
        have ei2 : (n : Int) - 1 - ((t + 1 : Nat) : Int) = (i : Int) - 1 := by omega
        have hi1 : 0 < (i : Int) := by omega
        have hin : i < n := by omega
        obtain ⟨x, hx⟩ : ∃ x : Int, (drawS key n t).1 = x := ⟨_, rfl⟩
        obtain ⟨l, hl⟩ : ∃ l : List Int, (drawS key n t).2 = l := ⟨_, rfl⟩
        obtain ⟨X, hX⟩ : ∃ X : Int, 950706376 * x % 2147483647 = X := ⟨_, rfl⟩
        have hX0 : 0 ≤ X ∧ X ≤ 2147483646 := by
          have h1 := Int.emod_nonneg (950706376 * x) (show (2147483647 : Int) ≠ 0 by decide)
          have h2 := Int.emod_lt_of_pos (950706376 * x) (show (0 : Int) < 2147483647 by decide)
          omega
        obtain ⟨j, hj⟩ : ∃ j : Nat, (X % ((i : Int) + 1)).toNat = j := ⟨_, rfl⟩
        have hjb : X % ((i : Int) + 1) = (j : Int) ∧ j ≤ i := by
          have h1 := Int.emod_nonneg X (show ((i : Int) + 1) ≠ 0 by omega)
          have h2 := Int.emod_lt_of_pos X (show (0 : Int) < (i : Int) + 1 by omega)
          omega
        have hS : drawS key n (t + 1) = (X, (l.set j (l[i]?.getD 0)).set i (l[j]?.getD 0)) := by
          simp only [drawS, hx, hl, hi', hX, hj]
          rw [set_swap l i j _ _ (fun h => by rw [h])]
        rw [hx] at hbd ⊢
        rw [hl] at hown hln
        rw [ei]
        have w1 : IntKind.i64.wrap (950706376 * x) = 950706376 * x := IntWalk.i64_in _ ⟨by omega, by omega⟩
        have w2 : (950706376 * x).tmod 2147483647 = X := by rw [Int.tmod_eq_emod_of_nonneg (by omega)]; exact hX
        have w3 : IntKind.i64.wrap X = X := IntWalk.i64_in _ ⟨by omega, by omega⟩
        have w4' : X.tmod ((i : Int) + 1) = (j : Int) := by rw [Int.tmod_eq_emod_of_nonneg hX0.1]; exact hjb.1
        have w5 : IntKind.i64.wrap ((i : Int) + 1) = (i : Int) + 1 := IntWalk.i64_in _ ⟨by omega, by omega⟩
        have w6 : IntKind.i64.wrap ((i : Int) - 1) = (i : Int) - 1 := IntWalk.i64_in _ ⟨by omega, by omega⟩
        have w8 : ¬ ((i : Int) + 1 = 0) := by omega
        have w9 : (i : Int) < (n : Int) := by omega
        have w10 : (j : Int) < (n : Int) := by omega
        have wX : X % ((i : Int) + 1) = (j : Int) := hjb.1
        have ci : wr.cell? ⟨g, i, none⟩ = some (.int .i64 (l[i]?.getD 0)) := owns_cell hown (by rw [List.getElem?_map, List.getElem?_eq_getElem (by omega)]; rfl)
        have cj : wr.cell? ⟨g, j, none⟩ = some (.int .i64 (l[j]?.getD 0)) := owns_cell hown (by rw [List.getElem?_map, List.getElem?_eq_getElem (by omega)]; rfl)
        have fi := hown.frozenAt i
        have fj := hown.frozenAt j
        have hst1 := (hown.stored j (.int .i64 (l[i]?.getD 0))).1
        have fi2 := hst1.frozenAt i
        have ci2 : (wr.setCell ⟨g, j, none⟩ (.int .i64 (l[i]?.getD 0))).cell? ⟨g, i, none⟩ = some (.int .i64 ((l.set j (l[i]?.getD 0))[i]?.getD 0)) := by
          have h := hst1
          rw [← List.map_set] at h
          exact owns_cell h (by rw [List.getElem?_map, List.getElem?_eq_getElem (by simp; omega)]; rfl)
        have hst2 := (hst1.stored i (.int .i64 (l[j]?.getD 0))).1
        rw [← List.map_set, ← List.map_set] at hst2
        have HST := Lib.hid hst2
        have HNX := Lib.hid hnx
        have HS1 := Lib.hid hS
        have HEI := Lib.hid ei2
        clear hst1 hst2 hown hnx hS hj hjb hx hl hi' ei ei2 hX0 hbd ht hd0 hln
        go_wp2_with fail
        go_roundw
        case rel =>
          refine ⟨t + 1, .inl (by omega), ?_⟩
          rw [HS1.out, HEI.out]
          exact ⟨rfl, rfl, HST.out, ((HNX.out.setCell (p := ⟨g, j, none⟩) (by show w.heap.size ≤ g; omega) _).setCell (p := ⟨g, i, none⟩) (by show w.heap.size ≤ g; omega) _)⟩
        case measure => simp [intOf]; omega
      · have et : t = n - 1 := by omega
        have hi3 : ¬ (0 < (n : Int) - 1 - (t : Int)) := by omega
        have HET := Lib.hid et
        have HO := Lib.hid hown
        have HX := Lib.hid hnx
        clear et hown hnx ht hd0
        go_wp2_with fail
        go_ret
        refine ⟨_, rfl, ?_, HX.out⟩
        have h := HO.out
        rw [HET.out] at h
        exact h
end Go.Proofs.YtlnhgplloaiiiaaGreatDoor

/-
  Draw with an error; lists of integers in memory; listed() of the law's package.
-/
namespace Go.Proofs.YtlnhgplloaiiiaaGreatDoor
open Go.RowKit
set_option linter.unusedVariables false
set_option linter.unusedSimpArgs false

/-- A slice, nil or not, of the integers. -/
def IntsV (w : World) (v : Value) (n : Nat) (zs : List Int) : Prop :=
  ∃ a c, v = .slice a n c ∧ ∀ j, j < n → ∃ b o, a = some ⟨b, o, none⟩ ∧ b < w.heap.size ∧ w.cell? ⟨b, o + j, none⟩ = some (.int .i64 (zs[j]?.getD 0))
theorem IntsV.kept {w w' : World} {v : Value} {n : Nat} {zs : List Int} (h : IntsV w v n zs) (hb : Below w.heap.size w w') : IntsV w' v n zs := by
  obtain ⟨a, c, rfl, hc⟩ := h
  refine ⟨a, c, rfl, fun j hj => ?_⟩
  obtain ⟨b, o, rfl, h1, h2⟩ := hc j hj
  exact ⟨b, o, rfl, Nat.lt_of_lt_of_le h1 hb.size, (hb.cell (p := ⟨b, o + j, none⟩) h1).trans h2⟩
theorem IntsV.nil (w : World) (zs : List Int) : IntsV w (.slice none 0 0) 0 zs := ⟨none, 0, rfl, fun j hj => absurd hj (by omega)⟩
theorem IntsV.of_row {w : World} {B : Nat} {v : Value} {n : Nat} {zs : List Int} (h : w.ownsRow B 3 1 v n (zs.map (Value.int .i64))) : IntsV w v n zs := by
  have hl : zs.length = n := by have := h.1; simpa using this
  rcases h.2 with ⟨rfl, rfl⟩ | ⟨g, cap, cur, rfl, hb, hg, _⟩
  · exact IntsV.nil w zs
  · refine ⟨_, _, rfl, fun j hj => ⟨g, 0, rfl, lt_of_blk hg, ?_⟩⟩
    rw [Nat.zero_add]
    exact owns_cell h (by rw [List.getElem?_map, List.getElem?_eq_getElem (by omega)]; rfl)

def drawErr (key n : Int) : Int := firstNZ [rangeErr key 1 2147483646, rangeErr n 0 256]

set_option maxRecDepth 100000 in
set_option maxHeartbeats 6400000 in
theorem draw_bad (key n : Int) (h : drawErr key n ≠ 0) (w : World) :
    Calls Tryz.prog 14 #[.int .i64 key, .int .i64 n] w fun e w' => e = .returned (.tuple #[.slice none 0 0, .int .i64 (drawErr key n)]) ∧ Below w.heap.size w w' := by
  have HB : Hid (Below w.heap.size w (w.alloc (.cells #[.int .i64 (rangeErr key 1 2147483646), .int .i64 (rangeErr n 0 256)] 26))) := Lib.hid ((Below.refl _ w).alloc (Nat.le_refl _) _)
  obtain ⟨r, hr⟩ : ∃ r : Int, drawErr key n = r := ⟨_, rfl⟩
  rw [hr] at h ⊢
  have e0 : (r != 0) = true := by simp [h]
  have HR : Hid (firstNZ [rangeErr key 1 2147483646, rangeErr n 0 256] = r) := Lib.hid hr
  clear h hr
  go_enter Tryz.func14, Tryz.ntmps14
  go_wp2_with (first
    | (go_at_call_of 92 (Value.int .i64 key); refine (checkRange_any key 1 2147483646 _).mono ?_; rintro e w9 ⟨rfl, rfl⟩)
    | (go_at_call_of 92 (Value.int .i64 n); refine (checkRange_any n 0 256 _).mono ?_; rintro e w9 ⟨rfl, rfl⟩)
    | ((go_at_call 91; refine (first_any _ 0 2 2 [rangeErr key 1 2147483646, rangeErr n 0 256] rfl (by omega) _ ?_).mono ?_; rotate_left 1; rintro e w' ⟨rfl, rfl⟩; rw [HR.out]; rotate_left 1; (intro j hj; match j, hj with | 0, _ => simp [go_sem] | 1, _ => simp [go_sem]))))
  go_ret2
  exact ⟨rfl, HB.out⟩

/-- How many elements Draw returns. -/
def drawN (key n : Int) : Nat := if drawErr key n = 0 then n.toNat else 0
theorem drawErr_zero {key n : Int} (h : drawErr key n = 0) : (1 ≤ key ∧ key ≤ 2147483646) ∧ 0 ≤ n ∧ n ≤ 256 := by
  obtain ⟨h1, h2⟩ := firstNZ_two h
  exact ⟨rangeErr_zero h1, rangeErr_zero h2⟩

theorem draw_all (key n : Int) (w : World) :
    Calls Tryz.prog 14 #[.int .i64 key, .int .i64 n] w fun e w' => ∃ v, e = .returned (.tuple #[v, .int .i64 (drawErr key n)]) ∧ IntsV w' v (drawN key n) (drawL key n.toNat) ∧ Below w.heap.size w w' := by
  by_cases h : drawErr key n = 0
  · obtain ⟨hk, hn⟩ := drawErr_zero h
    obtain ⟨m, rfl⟩ := Int.eq_ofNat_of_zero_le hn.1
    refine (draw_any key m hk (by omega) w).mono ?_
    rintro e w' ⟨v, rfl, ho, hb⟩
    refine ⟨v, by rw [h], ?_, hb⟩
    unfold drawN
    rw [if_pos h]
    exact IntsV.of_row ho
  · refine (draw_bad key n h w).mono ?_
    rintro e w' ⟨rfl, hb⟩
    refine ⟨_, rfl, ?_, hb⟩
    unfold drawN
    rw [if_neg h]
    exact IntsV.nil w' _

set_option maxHeartbeats 1600000 in
/-- listed() of two lists of the same integers, with the same error; none if there is one. -/
theorem listed_ok (v v' : Value) (n : Nat) (zs : List Int) (r : Int) (hn : n ≤ 4096) (h0 : r ≠ 0 → n = 0) (w : World) (h1 : IntsV w v n zs) (h2 : IntsV w v' n zs) :
    Calls Tryz.prog 21 #[v, .int .i64 r, .int .i64 r, v'] w fun e w' => e = .returned (.bool true) ∧ Below w.heap.size w w' := by
  obtain ⟨a, c, rfl, ha⟩ := h1
  obtain ⟨a', c', rfl, ha'⟩ := h2
  have e1 : (r == r) = true := by simp
  by_cases hr : r = 0
  · have e0 : (r != 0) = false := by simp [hr]
    have K := Lib.hid (sameInts_any a a' n c c' zs hn ha ha')
    clear ha ha' hr h0
    go_enter Tryz.func21, Tryz.ntmps21
    go_wp2_with (go_at_call 90; refine K.out.mono ?_; rintro e w1 ⟨rfl, hb1⟩)
    go_ret
    exact ⟨rfl, hb1⟩
  · have e0 : (r != 0) = true := by simp [hr]
    obtain rfl := h0 hr
    have K := Lib.hid (sameInts_any (w := w) a none 0 c 0 zs (by omega) (fun j hj => absurd hj (by omega)) (fun j hj => absurd hj (by omega)))
    clear ha ha' hr h0
    go_enter Tryz.func21, Tryz.ntmps21
    go_wp2_with (go_at_call 90; refine K.out.mono ?_; rintro e w1 ⟨rfl, hb1⟩)
    go_ret
    exact ⟨rfl, hb1⟩
end Go.Proofs.YtlnhgplloaiiiaaGreatDoor
