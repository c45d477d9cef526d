/-
  Contracts of the reference's check of a map, for any map with at most 4096 samples: if it returns 0 the map is right.
-/
import Derived.Test.YthmaoeajbmfmaaaGreatDoorCFc
import Derived.Laws.StructEq
import Derived.Test.YthmaoeajbmfmaaaGreatDoorCWt
import Derived.Laws.CopyRow
namespace Go.Proofs.YthmaoeajbmfmaaaGreatDoor
open Go.RowKit
set_option linter.unusedVariables false

theorem float1024 : floatOfInt .f32 1024 = 1149239296 := by decide +kernel
theorem sub1024 : floatBits .sub .f32 0 1149239296 = some 3296722944 := by decide +kernel

/-- What the reference's check of a number says: 0 only for a sample's word. -/
def PartPost (x : Nat) (r : Int) : Prop := r = 0 → ∃ k, Smp x k ∧ k.natAbs ≤ 16384

set_option maxHeartbeats 1600000 in
theorem checkPart_any (x : Nat) (w : World) :
    Calls Tryz.prog 67 #[.float .f32 x, .int .i64 1024] w fun e w' => ∃ r, e = .returned (.int .i64 r) ∧ Hid (PartPost x r) ∧ w = w' := by
  have c0 := run_ofInt 1024
  rw [float1024] at c0
  have c1 := run_sub 22 sub1024
  by_cases t1 : (FloatKind.f32.format.order x x != some .eq) = true
  · go_enter Tryz.func67, Tryz.ntmps67
    go_wp2
    go_ret
    exact ⟨1, rfl, fun h => (by cases h), rfl⟩
  have t1 := Bool.eq_false_iff.2 t1
  by_cases t2 : (FloatKind.f32.format.order x 2139095039 == some .gt) = true
  · go_enter Tryz.func67, Tryz.ntmps67
    go_wp2
    go_ret
    exact ⟨1, rfl, fun h => (by cases h), rfl⟩
  have t2 := Bool.eq_false_iff.2 t2
  by_cases t3 : (FloatKind.f32.format.order x 4286578687 == some .lt) = true
  · go_enter Tryz.func67, Tryz.ntmps67
    go_wp2
    go_ret
    exact ⟨1, rfl, fun h => (by cases h), rfl⟩
  have t3 := Bool.eq_false_iff.2 t3
  by_cases t4 : (FloatKind.f32.format.order x 1149239296 == some .gt) = true
  · go_enter Tryz.func67, Tryz.ntmps67
    go_wp2
    go_ret
    exact ⟨3, rfl, fun h => (by cases h), rfl⟩
  have t4 := Bool.eq_false_iff.2 t4
  by_cases t5 : (FloatKind.f32.format.order x 3296722944 == some .lt) = true
  · go_enter Tryz.func67, Tryz.ntmps67
    go_wp2
    go_ret
    exact ⟨3, rfl, fun h => (by cases h), rfl⟩
  have t5 := Bool.eq_false_iff.2 t5
  obtain ⟨s, v, hn, hv⟩ := checkPart_num t1 t2 t3 t4 t5
  obtain ⟨r, q, m1, m2, m3⟩ := checkPart_fin hn hv
  have c2 := run_mul 22 m1
  have c3 := run_toInt m2
  have c4 := run_ofInt q
  have M3 := Lib.hid m3
  clear hn hv m1 m2 m3
  by_cases t6 : (FloatKind.f32.format.order (floatOfInt .f32 q) r != some .eq) = true
  · go_enter Tryz.func67, Tryz.ntmps67
    go_wp2_with (go_at_call 144; refine (when_any true 3 _).mono ?_; rintro e w' ⟨rfl, rfl⟩)
    go_ret
    exact ⟨3, rfl, fun h => (by cases h), rfl⟩
  have t6 := Bool.eq_false_iff.2 t6
  have P := M3.out t6
  have HP := Lib.hid P
  clear P
  go_enter Tryz.func67, Tryz.ntmps67
  go_wp2_with (go_at_call 144; refine (when_any false 3 _).mono ?_; rintro e w' ⟨rfl, rfl⟩)
  go_ret
  exact ⟨0, rfl, fun _ => ⟨q, HP.out⟩, rfl⟩

set_option maxHeartbeats 400000 in
theorem refCheckSample_any (x : Nat) (w : World) :
    Calls Tryz.prog 66 #[.float .f32 x] w fun e w' => ∃ r, e = .returned (.int .i64 r) ∧ Hid (PartPost x r) ∧ w = w' := by
  go_enter Tryz.func66, Tryz.ntmps66
  go_wp2_with (go_at_call 67; refine (checkPart_any x _).mono ?_; rintro e w' ⟨r, rfl, hr, rfl⟩)
  go_ret
  exact ⟨r, rfl, hr, rfl⟩

/-- All words are samples'. -/
def AllSmp (n : Nat) (xs : List Nat) : Prop := ∀ j, j < n → ∃ k, Smp (xs[j]?.getD 0) k ∧ k.natAbs ≤ 16384

set_option maxHeartbeats 1600000 in
theorem checkSamples_any (b o n c : Nat) (xs : List Nat) (hm : n ≤ 4611686018427387904) (w : World)
    (hc : ∀ j, j < n → w.cell? ⟨b, o + j, none⟩ = some (.float .f32 (xs[j]?.getD 0))) :
    Calls Tryz.prog 14 #[.slice (some ⟨b, o, none⟩) n c] w fun e w' => ∃ r, e = .returned (.int .i64 r) ∧ Hid (r = 0 → AllSmp n xs) ∧ w = w' := by
  have Hc := Lib.hid hc
  clear hc
  go_enter Tryz.func14, Tryz.ntmps14
  go_wp2
  go_loop [3] (fun i => ∃ k : Nat, k ≤ n ∧ i = .int .i64 k ∧ Hid (∀ j, j < k → ∃ q, Smp (xs[j]?.getD 0) q ∧ q.natAbs ≤ 16384)) (fun i => n - (intOf i).toNat)
  case atStart => exact ⟨0, Nat.zero_le _, rfl, fun j hj => absurd hj (by omega)⟩
  case round =>
    obtain ⟨k, hk, rfl, hh⟩ := hrel
    by_cases hlt : k < n
    · have hcell := Hc.out k hlt
      go_wp2_with (go_at_call 66; refine (refCheckSample_any _ _).mono ?_; rintro e w' ⟨r, rfl, hr, rfl⟩)
      · have h0 : (r != 0) = true := by assumption
        go_ret
        exact ⟨r, rfl, fun h => (by simp [h] at h0), rfl⟩
      · have h0 : (r != 0) = false := by assumption
        have hr0 : r = 0 := by simpa using h0
        go_round
        case rel => exact ⟨k + 1, by omega, by go_num, fun j hj => by
          by_cases hjk : j < k
          · exact hh.out j hjk
          · obtain rfl : j = k := by omega
            exact hr.out hr0⟩
        case measure => simp [intOf]; omega
    · go_wp2
      go_ret
      obtain rfl : k = n := by omega
      exact ⟨0, rfl, fun _ => hh.out, rfl⟩
end Go.Proofs.YthmaoeajbmfmaaaGreatDoor

/-
  Contract of the reference's CheckMap for any map with at most 4096 samples: if it returns 0 the map is right.
-/
namespace Go.Proofs.YthmaoeajbmfmaaaGreatDoor
open Go.RowKit
set_option linter.unusedVariables false

theorem firstNZ_two {a b : Int} (h : firstNZ [a, b] = 0) : a = 0 ∧ b = 0 := by
  unfold firstNZ at h
  split at h
  · rename_i ha; exact absurd h ha
  · rename_i ha
    unfold firstNZ at h
    split at h
    · rename_i hb; exact absurd h hb
    · exact ⟨by omega, by omega⟩

def RightSays (W H : Int) (n : Nat) (xs : List Nat) : Prop := 1 ≤ W ∧ W ≤ 64 ∧ 1 ≤ H ∧ H ≤ 64 ∧ W * H = n ∧ AllSmp n xs

set_option maxRecDepth 100000 in
set_option maxHeartbeats 6400000 in
theorem refCheckMap_any (W H : Int) (a : Option Addr) (n c : Nat) (xs : List Nat) (hm : n ≤ 4096) (w : World)
    (hs : ∀ j, j < n → ∃ b o, a = some ⟨b, o, none⟩ ∧ b < w.heap.size ∧ ∀ j, j < n → w.cell? ⟨b, o + j, none⟩ = some (.float .f32 (xs[j]?.getD 0))) :
    Calls Tryz.prog 32 #[.agg #[.int .i64 W, .int .i64 H, .slice a n c]] w fun e w' => ∃ r, e = .returned (.int .i64 r) ∧ Hid (r = 0 → RightSays W H n xs) ∧ Below w.heap.size w w' := by
  have Hs := Lib.hid hs
  clear hs
  by_cases hne : firstNZ [rangeErr W 1 64, rangeErr H 1 64] = 0
  · obtain ⟨eW, eH⟩ := firstNZ_two hne
    have hW := rangeErr_zero eW
    have hH := rangeErr_zero eH
    have e0 : (firstNZ [rangeErr W 1 64, rangeErr H 1 64] != 0) = false := by simp [hne]
    have hmul0 : 1 ≤ W * H := by
      have := Int.mul_le_mul hW.1 hH.1 (by omega) (by omega)
      omega
    have hmul1 : W * H ≤ 4096 := by
      have := Int.mul_le_mul hW.2 hH.2 (by omega) (by omega)
      omega
    clear hne eW eH
    by_cases hA : W * H = n
    · have e1 : ((n : Int) != W * H) = false := by rw [hA]; simp
      obtain ⟨b, o, ha, hb, hc⟩ := Hs.out 0 (by omega)
      subst ha
      have HA := Lib.hid hA
      have Hc := Lib.hid hc
      clear hA hc Hs
      go_enter Tryz.func32, Tryz.ntmps32
      go_wp2_with fail
      go_region_held3 (fun w' => w'.cell? ⟨w.heap.size, 0, none⟩ = some (.int .i64 W) ∧ w'.cell? ⟨w.heap.size, 1, none⟩ = some (.int .i64 H))
        (go_keep)
        (first
          | ((go_at_call 101; refine (refCheckSide_any _ _).mono ?_; rintro e w' ⟨rfl, rfl⟩))
          | ((go_at_call 81; refine (refFirst_any _ 0 2 2 [rangeErr W 1 64, rangeErr H 1 64] rfl (by omega) _ ?_).mono ?_; rotate_left 1; rintro e w' ⟨rfl, rfl⟩; rotate_left 1; (intro j hj; match j, hj with | 0, _ => simp [go_sem] | 1, _ => simp [go_sem]))))
      all_goals
        go_wp2_with ((go_at_call 14; refine (checkSamples_any b o n c xs (by omega) _ (fun j hj => ?_)).mono ?_; rotate_left 1; rintro e w' ⟨r, rfl, hr, rfl⟩; rotate_left 1; exact ((((Below.refl _ w).alloc (Nat.le_refl _) _).alloc (by simp) _).drew.cell (by exact hb)).trans (Hc.out j hj)))
        go_ret
        exact ⟨r, rfl, fun h => ⟨hW.1, hW.2, hH.1, hH.2, HA.out, hr.out h⟩, (((Below.refl _ w).alloc (Nat.le_refl _) _).alloc (by simp) _).drew⟩
    · have e1 : ((n : Int) != W * H) = true := by simp; omega
      clear hA
      go_enter Tryz.func32, Tryz.ntmps32
      go_wp2_with fail
      go_region_held3 (fun w' => w'.cell? ⟨w.heap.size, 0, none⟩ = some (.int .i64 W) ∧ w'.cell? ⟨w.heap.size, 1, none⟩ = some (.int .i64 H))
        (go_keep)
        (first
          | ((go_at_call 101; refine (refCheckSide_any _ _).mono ?_; rintro e w' ⟨rfl, rfl⟩))
          | ((go_at_call 81; refine (refFirst_any _ 0 2 2 [rangeErr W 1 64, rangeErr H 1 64] rfl (by omega) _ ?_).mono ?_; rotate_left 1; rintro e w' ⟨rfl, rfl⟩; rotate_left 1; (intro j hj; match j, hj with | 0, _ => simp [go_sem] | 1, _ => simp [go_sem]))))
      all_goals
        go_wp2
        go_ret
        exact ⟨2, rfl, fun h => (by cases h), (((Below.refl _ w).alloc (Nat.le_refl _) _).alloc (by simp) _).drew⟩
  · have e0 : (firstNZ [rangeErr W 1 64, rangeErr H 1 64] != 0) = true := by simp [hne]
    have HNE := Lib.hid hne
    clear hne Hs
    go_enter Tryz.func32, Tryz.ntmps32
    go_wp2_with fail
    go_region_held3 (fun w' => w'.cell? ⟨w.heap.size, 0, none⟩ = some (.int .i64 W) ∧ w'.cell? ⟨w.heap.size, 1, none⟩ = some (.int .i64 H))
      (go_keep)
      (first
        | ((go_at_call 101; refine (refCheckSide_any _ _).mono ?_; rintro e w' ⟨rfl, rfl⟩))
        | ((go_at_call 81; refine (refFirst_any _ 0 2 2 [rangeErr W 1 64, rangeErr H 1 64] rfl (by omega) _ ?_).mono ?_; rotate_left 1; rintro e w' ⟨rfl, rfl⟩; rotate_left 1; (intro j hj; match j, hj with | 0, _ => simp [go_sem] | 1, _ => simp [go_sem]))))
    all_goals
      go_wp2
      go_ret
      exact ⟨_, rfl, fun h => absurd h HNE.out, (((Below.refl _ w).alloc (Nat.le_refl _) _).alloc (by simp) _).drew⟩
end Go.Proofs.YthmaoeajbmfmaaaGreatDoor

/-
  Contracts of the checks of a ratio, of a vector and of a direction, of the program and of the reference: both answer the same, for all integers.
-/
namespace Go.Proofs.YthmaoeajbmfmaaaGreatDoor
open Go.RowKit
set_option linter.unusedVariables false
set_option linter.unusedSimpArgs false

def ratioErr (x y : Int) : Int := if firstNZ [rangeErr x (-999999999) 999999999, rangeErr y 1 999999999] ≠ 0 then firstNZ [rangeErr x (-999999999) 999999999, rangeErr y 1 999999999] else if (Int.gcd x y : Int) = 1 then 0 else 1
def vectorErr (x y z : Int) : Int := firstNZ [rangeErr x (-1048576) 1048576, rangeErr y (-1048576) 1048576, rangeErr z (-1048576) 1048576]
def directionErr (x y z : Int) : Int := firstNZ [vectorErr x y z, if x = 0 ∧ y = 0 ∧ z = 0 then 6 else 0]

end Go.Proofs.YthmaoeajbmfmaaaGreatDoor

/-
  Contracts of the checks of a vector and of a direction, of the program and of the reference, and of a key: both answer the same, for all integers.
-/
namespace Go.Proofs.YthmaoeajbmfmaaaGreatDoor
open Go.RowKit
set_option linter.unusedVariables false
set_option linter.unusedSimpArgs false

theorem firstNZ_three {a b c : Int} (h : firstNZ [a, b, c] = 0) : a = 0 ∧ b = 0 ∧ c = 0 := by
  unfold firstNZ at h
  split at h
  · rename_i ha; exact absurd h ha
  · rename_i ha
    obtain ⟨h1, h2⟩ := firstNZ_two h
    exact ⟨by omega, h1, h2⟩

set_option maxRecDepth 100000 in
set_option maxHeartbeats 3200000 in
theorem refCheckVector_all (x y z : Int) (w : World) :
    Calls Tryz.prog 83 #[.agg #[.int .i64 x, .int .i64 y, .int .i64 z]] w fun e w' => e = .returned (.int .i64 (vectorErr x y z)) ∧ Below w.heap.size w w' := by
  have hB : Below w.heap.size w ((w.alloc (.cells #[.int .i64 x, .int .i64 y, .int .i64 z] 41)).alloc (.cells #[.int .i64 (rangeErr x (-1048576) 1048576), .int .i64 (rangeErr y (-1048576) 1048576), .int .i64 (rangeErr z (-1048576) 1048576)] 3)).drew := (((Below.refl _ w).alloc (Nat.le_refl _) _).alloc (by simp) _).drew
  have HB := Lib.hid hB
  clear hB
  go_enter Tryz.func83, Tryz.ntmps83
  go_wp2_with fail
  go_region_held3 (fun w' => w'.cell? ⟨w.heap.size, 0, none⟩ = some (.int .i64 x) ∧ w'.cell? ⟨w.heap.size, 1, none⟩ = some (.int .i64 y) ∧ w'.cell? ⟨w.heap.size, 2, none⟩ = some (.int .i64 z))
    (go_keep)
    (first
      | ((go_at_call_of 82 (Value.int .i64 x); refine (refCheckRange_any x (-1048576) 1048576 _).mono ?_; rintro e w' ⟨rfl, rfl⟩))
      | ((go_at_call_of 82 (Value.int .i64 y); refine (refCheckRange_any y (-1048576) 1048576 _).mono ?_; rintro e w' ⟨rfl, rfl⟩))
      | ((go_at_call_of 82 (Value.int .i64 z); refine (refCheckRange_any z (-1048576) 1048576 _).mono ?_; rintro e w' ⟨rfl, rfl⟩))
      | ((go_at_call 81; refine (refFirst_any _ 0 3 3 [rangeErr x (-1048576) 1048576, rangeErr y (-1048576) 1048576, rangeErr z (-1048576) 1048576] rfl (by omega) _ ?_).mono ?_; rotate_left 1; rintro e w' ⟨rfl, rfl⟩; rotate_left 1; (intro j hj; match j, hj with | 0, _ => simp [go_sem] | 1, _ => simp [go_sem] | 2, _ => simp [go_sem]))))
  all_goals
    go_wp2_with fail
    go_ret
    exact ⟨rfl, HB.out⟩

theorem bcellN {W w1 : World} (hb : Below W.heap.size W w1) : (∀ b o, b < W.heap.size → w1.cell? ⟨b, o, none⟩ = W.cell? ⟨b, o, none⟩) ∧ (∀ b o, b < W.heap.size → w1.frozen? ⟨b, o, none⟩ = W.frozen? ⟨b, o, none⟩) :=
  ⟨fun b o h => hb.cell (p := ⟨b, o, none⟩) h, fun b o h => hb.frozen (p := ⟨b, o, none⟩) h⟩
theorem dir_zero (x y z : Int) (h : x = 0 ∧ y = 0 ∧ z = 0) : directionErr x y z = 6 := by
  obtain ⟨rfl, rfl, rfl⟩ := h
  decide +kernel
theorem dir_not (x y z : Int) (h : ¬ (x = 0 ∧ y = 0 ∧ z = 0)) : directionErr x y z = vectorErr x y z := by
  unfold directionErr
  rw [if_neg h]
  by_cases h0 : vectorErr x y z = 0
  · rw [h0]; rfl
  · unfold firstNZ; rw [if_pos h0]
theorem vec_zero : vectorErr 0 0 0 = 0 := by decide +kernel

end Go.Proofs.YthmaoeajbmfmaaaGreatDoor

/-
  Contract of telegramAt where the stream holds, at the given place, the frame of a telegram whose numbers are in their ranges.
-/
namespace Go.Proofs.YthmaoeajbmfmaaaGreatDoor
open Go.RowKit
set_option linter.unusedVariables false

set_option maxRecDepth 100000 in
set_option maxHeartbeats 3200000 in
theorem telegramAt_any (s c o x y z : Int) (h : GoodT s c o x y z) (b q n cp : Nat) (k : Nat) (hk : k + 24 ≤ n) (hn : n ≤ 12288) (hcp : n ≤ cp) (hcq : cp ≤ 9223372036854775807) (w : World) (hb : b < w.heap.size)
    (hc : w.rangeAt b (q + k) ((frame s c o x y z).map (Value.int .u8))) :
    Calls Tryz.prog 79 #[.slice (some ⟨b, q, none⟩) n cp, .int .i64 k] w fun e w' =>
      e = .returned (.tuple #[.agg #[.int .i64 s, .int .i64 c, .int .i64 o, .int .i64 x, .int .i64 y, .int .i64 z], .bool true]) ∧ Below w.heap.size w w' := by
  have K1 := Lib.hid (decode_any s c o x y z h)
  clear h
  obtain ⟨V, hV⟩ : ∃ V, ((frame s c o x y z).map (Value.int .u8)) = V := ⟨_, rfl⟩
  have V24 : V.length = 24 := by rw [← hV]; simp [frame_len]
  have V1 : ∀ v ∈ V, v.oneCell' = true := by
    rw [← hV]; intro v hv
    obtain ⟨u, _, rfl⟩ := List.mem_map.1 hv
    rfl
  rw [hV] at K1 hc
  have HC := Lib.hid hc
  clear hV hc
  have i1 : ((k : Int) + 24 ≤ (n : Int)) := by omega
  have i2 : ((n : Int) ≤ (cp : Int)) := by omega
  have i3 : ((n : Int) ≤ 12288) := by omega
  have i4 : ((k : Int) ≤ (n : Int)) := by omega
  have i5 : k ≤ n := by omega
  have i6 : (0 : Int) ≤ (k : Int) := by omega
  have i7 : ((k : Int) ≤ (cp : Int)) := by omega
  go_enter Tryz.func79, Tryz.ntmps79
  go_wp2_with fail
  obtain ⟨W2, hW2⟩ : ∃ W2, ((w.alloc (.cells #[.int .i64 0, .int .i64 0, .int .i64 0, .int .i64 0, .int .i64 0, .int .i64 0] 48)).alloc (.cells ((List.replicate 24 (Value.int .u8 0)).toArray) 44)) = W2 := ⟨_, rfl⟩
  have z2 : W2.heap.size = w.heap.size + 2 := by rw [← hW2]; simp
  have hB2 : Below w.heap.size w W2 := by rw [← hW2]; exact (((Below.refl _ w).alloc (Nat.le_refl _) _).alloc (by simp) _)
  have r0 : W2.heap[w.heap.size]? = some (.cells #[.int .i64 0, .int .i64 0, .int .i64 0, .int .i64 0, .int .i64 0, .int .i64 0] 48 (0, 0)) := by
    rw [← hW2, Below.heap_alloc _ _ _ (by simp)]
    exact heap_alloc_new w _
  have r1 : W2.heap[w.heap.size + 1]? = some (.cells ((List.replicate 24 (Value.int .u8 0)).toArray) 44 (0, 0)) := by
    rw [← hW2]
    exact heap_alloc2_new w _ _
  simp only [List.replicate] at hW2
  rw [hW2]
  clear hW2
  obtain ⟨W3, hW3⟩ : ∃ W3, W2.drew = W3 := ⟨_, rfl⟩
  have hcp' : (Builtin.copy_ #[45, 45] 3 #[.slice (some ⟨w.heap.size + 1, 0, none⟩) 24 24, .slice (some ⟨b, q + k, none⟩) (n - k) (cp - k)]).run Tryz.prog W2.drew = .ok (goInt 24) (W2.drew.setRow (w.heap.size + 1) V.toArray) := by
    have e := run_copy_row (P := Tryz.prog) W2.drew 45 45 3 5 (w.heap.size + 1) 0 24 24 ⟨b, q + k, none⟩ (n - k) (cp - k) _ 44 V Tryz.underlying45 (by kernel_rfl) (show W2.drew.heap[w.heap.size + 1]? = _ from r1)
      (by rw [V24]; show 24 = Nat.min (n - k) 24; simp only [Nat.min_def]; split <;> omega)
      (fun j v hv => by rw [Addr.add_mid]; exact (hB2.cell (w' := W2) hb).trans (HC.out j v hv)) (by simp [V24]) V1
    rw [V24] at e
    simpa [V24] using e
  refine wp_region_still_tail 4 (by kernel_rfl) (by kernel_rfl) ?_
  simp only [List.take_succ_cons, List.take_zero, List.drop_succ_cons, List.drop_zero]
  change wpStill _ _ W2.drew (fun a' => wpList _ _ _ _ a' W2.drew) _ _
  rw [hW3] at hcp' ⊢
  have HW3 := Lib.hid hW3
  have R0 := Lib.hid r0
  have R1 := Lib.hid r1
  have HB2 := Lib.hid hB2
  clear hW3 r0 r1 hB2
  repeat still_step
  refine wpStill_nil ?_
  have R3 := Lib.hid (setRow_heap W3 (w.heap.size + 1) _ V.toArray _ _ (by rw [← HW3.out]; exact R1.out : W3.heap[w.heap.size + 1]? = _))
  have Q3 : Hid ((W3.setRow (w.heap.size + 1) V.toArray).heap[w.heap.size]? = some (.cells #[.int .i64 0, .int .i64 0, .int .i64 0, .int .i64 0, .int .i64 0, .int .i64 0] 48 (0, 0))) := Lib.hid (by
    rw [setRow_other W3 _ _ _ (by omega), ← HW3.out]; exact R0.out)
  have HB3 : Hid (Below w.heap.size w (W3.setRow (w.heap.size + 1) V.toArray)) := Lib.hid (by
    have e : Below w.heap.size w W3 := by rw [← HW3.out]; exact HB2.out.drew
    exact e.trans ((OnlyBlk.setRow W3 (w.heap.size + 1) _).below e.size (by omega)))
  have Z3 : w.heap.size + 2 ≤ (W3.setRow (w.heap.size + 1) V.toArray).heap.size := by rw [← HW3.out]; simp [z2]
  have hi36 : (Tryz.prog.info? 44).map (·.size) = some V.toArray.size := by rw [size24]; simp [V24]
  obtain ⟨W4, hW4⟩ : ∃ W4, W3.setRow (w.heap.size + 1) V.toArray = W4 := ⟨_, rfl⟩
  rw [hW4] at hcp' R3 Q3 HB3 Z3
  clear hW4 z2
  go_wp2_with (first
    | (refine wpList_load_row rfl 44 (.tmp 6) rfl (w.heap.size + 1) rfl 44 _ (0, 0) _ R3.out Tryz.underlying44 rfl hi36 ?_)
    | (refine wpList_store_row rfl 48 (.tmp 4) (.tmp 25) rfl w.heap.size rfl _ rfl 48 _ Q4.out ?i2 ?i3 ?i4 ?_)
    | ((go_at_call 20; refine (K1.out _).mono ?_; rintro e w4 ⟨rfl, hb4⟩
        have hs4 := hb4.size
        have Q4 : Hid ((w4.alloc (.cells #[.int .i64 s, .int .i64 c, .int .i64 o, .int .i64 x, .int .i64 y, .int .i64 z] 48)).heap[w.heap.size]? = some (.cells #[.int .i64 0, .int .i64 0, .int .i64 0, .int .i64 0, .int .i64 0, .int .i64 0] 48 (0, 0))) := Lib.hid (by
          rw [Below.heap_alloc _ _ _ (by omega), hb4.block _ (by omega)]; exact Q3.out)
        have HB4 := Lib.hid ((HB3.out.trans (hb4.mono (by omega))).alloc (by omega) (.cells #[.int .i64 s, .int .i64 c, .int .i64 o, .int .i64 x, .int .i64 y, .int .i64 z] 48))
        clear hb4)))
  case i2 => rfl
  case i3 => kernel_rfl
  case i4 => exact ⟨rfl, rfl, rfl, rfl, rfl, rfl⟩
  go_wp2
  refine bodyPost_ret (results_row_tmp Tryz.results79 _ _ w.heap.size 48 _ (0, 0) _ rfl (setRow_heap _ _ _ _ _ _ Q4.out) Tryz.underlying48 rfl (by kernel_rfl)) rfl ⟨rfl, ?_⟩
  exact HB4.out.trans ((OnlyBlk.setRow _ w.heap.size _).below HB4.out.size (by omega))
end Go.Proofs.YthmaoeajbmfmaaaGreatDoor

/-
  Telegrams; the contract of Received for a stream of frames of telegrams whose numbers are in their ranges: these telegrams, nothing skipped, no error.
-/
namespace Go.Proofs.YthmaoeajbmfmaaaGreatDoor
open Go.RowKit
set_option linter.unusedVariables false

/-- A telegram's numbers. -/
structure Tel where
  s : Int
  c : Int
  o : Int
  x : Int
  y : Int
  z : Int
def Tel.Good (t : Tel) : Prop := GoodT t.s t.c t.o t.x t.y t.z
def Tel.val (t : Tel) : List Value := [.int .i64 t.s, .int .i64 t.c, .int .i64 t.o, .int .i64 t.x, .int .i64 t.y, .int .i64 t.z]
def Tel.bytes (t : Tel) : List Value := (frame t.s t.c t.o t.x t.y t.z).map (Value.int .u8)
theorem Tel.val_len (t : Tel) : t.val.length = 6 := rfl
def tel0 : Tel := ⟨0, 0, 0, 0, 0, 0⟩

theorem owns_kept {w w' : World} {B T sz n N : Nat} {v : Value} {xs : List Value} (h : w.ownsRow B T sz v n xs) (hb : Below N w w') (hN : w.heap.size ≤ N) : w'.ownsRow B T sz v n xs := by
  refine ⟨h.1, ?_⟩
  rcases h.2 with h | ⟨g, cap, cur, h1, h2, h3, h4⟩
  · exact .inl h
  · exact .inr ⟨g, cap, cur, h1, h2, (hb.block g (by have := (Array.getElem?_eq_some_iff.1 h3).1; omega)).trans h3, h4⟩

theorem flat_take_succ (L : List Tel) (k : Nat) (hk : k < L.length) : (L.take (k + 1)).flatMap Tel.val = (L.take k).flatMap Tel.val ++ (L[k]?.getD tel0).val := by
  rw [List.take_succ_eq_append_getElem hk, List.flatMap_append, List.getElem?_eq_getElem hk]; simp

theorem Tryz.infoTel : (Tryz.prog.info? 48).map (fun i => (i.zero, i.size, i.bytes)) = some (some (.agg #[.int .i64 0, .int .i64 0, .int .i64 0, .int .i64 0, .int .i64 0, .int .i64 0]), 6, 48) := by kernel_rfl

theorem cells_new6 (w : World) (T : TypeId) (a b c d e f : Value) : ∀ j u, [a, b, c, d, e, f][j]? = some u → (w.alloc (.cells #[a, b, c, d, e, f] T)).cell? ((⟨w.heap.size, 0, none⟩ : Addr).add j) = some u := fun j u h => by
  rw [Addr.add_mid, cell_of_row _ w.heap.size (0 + j) _ _ (0, 0) (heap_alloc_new w _)]
  simpa using h

theorem cells_new6' (w : World) (o : Obj) (T : TypeId) (a b c d e f : Value) : ∀ j u, [a, b, c, d, e, f][j]? = some u → ((w.alloc o).alloc (.cells #[a, b, c, d, e, f] T)).cell? ((⟨w.heap.size + 1, 0, none⟩ : Addr).add j) = some u := fun j u h => by
  have := cells_new6 (w.alloc o) T a b c d e f j u h
  simpa using this
theorem telegramAt_tel (t : Tel) (h : t.Good) (b q n cp k : Nat) (hk : k + 24 ≤ n) (hn : n ≤ 12288) (hcp : n ≤ cp) (hcq : cp ≤ 9223372036854775807) (w : World) (hb : b < w.heap.size) (hc : w.rangeAt b (q + k) t.bytes) :
    Calls Tryz.prog 79 #[.slice (some ⟨b, q, none⟩) n cp, .int .i64 k] w fun e w' =>
      e = .returned (.tuple #[.agg #[.int .i64 t.s, .int .i64 t.c, .int .i64 t.o, .int .i64 t.x, .int .i64 t.y, .int .i64 t.z], .bool true]) ∧ Below w.heap.size w w' := by
  unfold Tel.bytes at hc
  exact telegramAt_any _ _ _ _ _ _ h b q n cp k hk hn hcp hcq w hb hc

set_option maxRecDepth 100000 in
set_option maxHeartbeats 3200000 in
theorem received_any (L : List Tel) (hg : ∀ t ∈ L, t.Good) (b q n cp : Nat) (hn : n = 24 * L.length) (hm : n ≤ 12288) (hcp : n ≤ cp) (hcq : cp ≤ 9223372036854775807) (w : World) (hb : b < w.heap.size)
    (hc : ∀ k, k < L.length → w.rangeAt b (q + 24 * k) (L[k]?.getD tel0).bytes) :
    Calls Tryz.prog 21 #[.slice (some ⟨b, q, none⟩) n cp] w fun e w' =>
      ∃ v, e = .returned (.tuple #[v, .slice none 0 0, .int .i64 0]) ∧ w'.ownsRow w.heap.size 48 6 v L.length (L.flatMap Tel.val) ∧ Below w.heap.size w w' := by
  obtain ⟨i0, hi, hz0, hz1, hz2⟩ := info_parts Tryz.infoTel
  have HC := Lib.hid hc
  have HG := Lib.hid hg
  have i1 : ((n : Int) ≤ 12288) := by omega
  have HN := Lib.hid hn
  clear hc hg hn
  go_enter Tryz.func21, Tryz.ntmps21
  go_wp2
  go_loopw [5, 6, 7] (fun out sk i wr => ∃ k m : Nat, k ≤ L.length ∧ m = 24 * k ∧ i = .int .i64 m ∧ sk = .slice none 0 0 ∧ wr.ownsRow w.heap.size 48 6 out k ((L.take k).flatMap Tel.val) ∧ Below w.heap.size w wr)
    (fun _ _ i _ => n - (intOf i).toNat)
  case atStart => exact ⟨0, 0, Nat.zero_le _, rfl, rfl, rfl, World.ownsRow_nil _ _ _ _, Below.refl _ _⟩
  case round =>
    obtain ⟨k, m, hk, hmk, rfl, rfl, hown, hnx⟩ := hrel
    have hsz : w.heap.size ≤ wr.heap.size := hnx.size
    have hn := HN.out
    by_cases hlt : k < L.length
    · have hi1 : ((m : Int) < (n : Int)) := by omega
      have hi2 : ((m : Int) + 24 ≤ 12288) := by omega
      have hS := flat_take_succ L k hlt
      have hc0 := HC.out k hlt
      have hT : (L[k]?.getD tel0).Good := by
        rw [List.getElem?_eq_getElem hlt]; exact HG.out _ (List.getElem_mem hlt)
      obtain ⟨t, ht⟩ : ∃ t, L[k]?.getD tel0 = t := ⟨_, rfl⟩
      rw [ht] at hT hc0 hS
      have hr : wr.rangeAt b (q + m) t.bytes := fun j v hv => by
        rw [hnx.cell (by exact hb), hmk]
        exact hc0 j v hv
      have K := Lib.hid (telegramAt_tel t hT b q n cp m (by omega) hm hcp hcq wr (by omega) hr)
      have HS := Lib.hid hS
      have HMK := Lib.hid hmk
      have hkm : k ≤ 512 := by omega
      clear ht hr hc0 hS hmk hn
      clear hT
      go_wp2_with (first
        | (go_at_call 79; refine K.out.mono ?_; rintro e w2 ⟨rfl, hb2⟩
           have hown2 := owns_kept hown hb2 (Nat.le_refl _)
           have hs2 := hb2.size)
        | (at_builtin; refine wpList_append_own _ rfl (.tmp 24) (.tmp 26) 51 rfl w.heap.size 48 i0 (.agg #[.int .i64 0, .int .i64 0, .int .i64 0, .int .i64 0, .int .i64 0, .int .i64 0]) 6 48 Tryz.underlying51 hi hz0 hz1 hz2 rfl (by decide) _ k _ rfl ((hown2.alloc _).alloc _) ⟨w2.heap.size + 1, 0, none⟩ 1 1 t.val rfl rfl (cells_new6' _ _ _ _ _ _ _ _ _) (by intro u hu; simp [Tel.val] at hu; rcases hu with rfl | rfl | rfl | rfl | rfl | rfl <;> rfl) (by unfold maxLen; omega) (by omega) (by simp; omega) ?_; intro v' w3 hown3 hgrow3 _))
      have hlt' := hown2.lt
      have hB2 : Below w.heap.size w w2 := hnx.trans (hb2.mono hsz)
      go_roundw
      case rel => exact ⟨k + 1, m + 24, by omega, by have := HMK.out; omega, by go_num, rfl, by rw [HS.out]; exact hown3, ((hB2.alloc (by omega) _).alloc (by simp; omega) _).grown hgrow3 (by simp; omega) (fun j hj => (hlt' j hj).1)⟩
      case measure => simp [intOf]; omega
    · have hi3 : ¬ ((m : Int) < (n : Int)) := by omega
      clear hn hmk
      go_wp2
      obtain rfl : k = L.length := by omega
      rw [List.take_length] at hown
      refine bodyPost_ret (v := .tuple #[u5, .slice none 0 0, .int .i64 0]) (by simp [results, Tryz.results21, go_sem]) rfl ⟨_, rfl, hown, hnx⟩
end Go.Proofs.YthmaoeajbmfmaaaGreatDoor
