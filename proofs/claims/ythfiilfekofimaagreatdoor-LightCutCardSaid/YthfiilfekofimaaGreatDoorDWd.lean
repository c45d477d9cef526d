/-
  Contracts of the loops that look for the first error: over a slice of integers that is known cell by cell; and what it means that a slice's cells are known.
-/
import Derived.Test.YthfiilfekofimaaGreatDoorDMb
import Derived.Deep.RegionHeld3
import Derived.Handy
namespace Go.Proofs.YthfiilfekofimaaGreatDoor
open Go.RowKit
set_option linter.unusedVariables false

/-- The first number of a list that is not 0, or 0. -/
def firstNZ : List Int → Int
  | [] => 0
  | x :: r => if x ≠ 0 then x else firstNZ r

theorem firstNZ_zeros {l : List Int} (h : ∀ x ∈ l, x = 0) : firstNZ l = 0 := by
  induction l with
  | nil => rfl
  | cons x r ih => rw [firstNZ, if_neg (by have := h x (by simp); omega)]; exact ih fun y hy => h y (by simp [hy])
theorem firstNZ_at {l : List Int} {k : Nat} (hk : k < l.length) (h0 : ∀ j, j < k → l.getD j 0 = 0) (h1 : l.getD k 0 ≠ 0) : firstNZ l = l.getD k 0 := by
  induction l generalizing k with
  | nil => simp at hk
  | cons x r ih =>
    cases k with
    | zero => simp at h1 ⊢; rw [firstNZ, if_pos h1]
    | succ k =>
      have hx : x = 0 := by simpa using h0 0 (by omega)
      rw [firstNZ, if_neg (by omega)]
      simp only [List.getD_cons_succ] at h1 ⊢
      exact ih (by simpa using hk) (fun j hj => by simpa using h0 (j + 1) (by omega)) h1
theorem firstNZ_end {l : List Int} (h : ∀ j, j < l.length → l.getD j 0 = 0) : firstNZ l = 0 := by
  refine firstNZ_zeros fun x hx => ?_
  obtain ⟨i, hi, rfl⟩ := List.getElem_of_mem hx
  have := h i hi
  simpa [List.getD_eq_getElem?_getD, hi] using this

set_option maxHeartbeats 1000000 in
theorem refFirst_any (b o n c : Nat) (zs : List Int) (hz : zs.length = n) (hm : n ≤ 4611686018427387904) (w : World)
    (hc : ∀ j, j < n → w.cell? ⟨b, o + j, none⟩ = some (.int .i64 (zs[j]?.getD 0))) :
    Calls Tryz.prog 80 #[.slice (some ⟨b, o, none⟩) n c] w fun e w' => e = .returned (.int .i64 (firstNZ zs)) ∧ w = w' := by
  have Hz := Lib.hid hz
  have Hc := Lib.hid hc
  clear hz hc
  go_enter Tryz.func80, Tryz.ntmps80
  go_wp2
  go_loop [3] (fun i => ∃ k : Nat, k ≤ n ∧ i = .int .i64 k ∧ Hid (∀ j, j < k → zs.getD j 0 = 0)) (fun i => n - (intOf i).toNat)
  case atStart => exact ⟨0, Nat.zero_le _, rfl, fun j hj => absurd hj (by omega)⟩
  case round =>
    obtain ⟨k, hk, rfl, hh⟩ := hrel
    by_cases hlt : k < n
    · have hcell := Hc.out k hlt
      by_cases h0 : zs[k]?.getD 0 = 0
      · have e0 : (zs[k]?.getD 0 != 0) = false := by simp [h0]
        have H0 := Lib.hid h0
        clear h0
        go_wp2
        go_round
        case rel => exact ⟨k + 1, by omega, by go_num, fun j hj => by
          by_cases hjk : j < k
          · exact hh.out j hjk
          · obtain rfl : j = k := by omega
            rw [List.getD_eq_getElem?_getD]; exact H0.out⟩
        case measure => simp [intOf]; omega
      · have e0 : (zs[k]?.getD 0 != 0) = true := by simp [h0]
        have H0 := Lib.hid h0
        clear h0
        go_wp2
        go_ret
        exact ⟨ret_int (by rw [firstNZ_at (by rw [Hz.out]; exact hlt) hh.out (by rw [List.getD_eq_getElem?_getD]; exact H0.out), List.getD_eq_getElem?_getD]), rfl⟩
    · go_wp2
      go_ret
      exact ⟨ret_int (firstNZ_end fun j hj => hh.out j (by have := Hz.out; omega)).symm, rfl⟩
set_option maxHeartbeats 1000000 in
theorem first_any (b o n c : Nat) (zs : List Int) (hz : zs.length = n) (hm : n ≤ 4611686018427387904) (w : World)
    (hc : ∀ j, j < n → w.cell? ⟨b, o + j, none⟩ = some (.int .i64 (zs[j]?.getD 0))) :
    Calls Tryz.prog 47 #[.slice (some ⟨b, o, none⟩) n c] w fun e w' => e = .returned (.int .i64 (firstNZ zs)) ∧ w = w' := by
  have Hz := Lib.hid hz
  have Hc := Lib.hid hc
  clear hz hc
  go_enter Tryz.func47, Tryz.ntmps47
  go_wp2
  go_loop [7] (fun i => ∃ k : Nat, k ≤ n ∧ i = .int .i64 k ∧ Hid (∀ j, j < k → zs.getD j 0 = 0)) (fun i => n - (intOf i).toNat)
  case atStart => exact ⟨0, Nat.zero_le _, rfl, fun j hj => absurd hj (by omega)⟩
  case round =>
    obtain ⟨k, hk, rfl, hh⟩ := hrel
    by_cases hlt : k < n
    · have hcell := Hc.out k hlt
      by_cases h0 : zs[k]?.getD 0 = 0
      · have e0 : (zs[k]?.getD 0 != 0) = false := by simp [h0]
        have H0 := Lib.hid h0
        clear h0
        go_wp2
        go_round
        case rel => exact ⟨k + 1, by omega, by go_num, fun j hj => by
          by_cases hjk : j < k
          · exact hh.out j hjk
          · obtain rfl : j = k := by omega
            rw [List.getD_eq_getElem?_getD]; exact H0.out⟩
        case measure => simp [intOf]; omega
      · have e0 : (zs[k]?.getD 0 != 0) = true := by simp [h0]
        have H0 := Lib.hid h0
        clear h0
        go_wp2
        go_ret
        exact ⟨ret_int (by rw [firstNZ_at (by rw [Hz.out]; exact hlt) hh.out (by rw [List.getD_eq_getElem?_getD]; exact H0.out), List.getD_eq_getElem?_getD]), rfl⟩
    · go_wp2
      go_ret
      exact ⟨ret_int (firstNZ_end fun j hj => hh.out j (by have := Hz.out; omega)).symm, rfl⟩

theorem first_zeros (b o n c : Nat) (hm : n ≤ 4611686018427387904) (w : World) (hc : ∀ j, j < n → w.cell? ⟨b, o + j, none⟩ = some (.int .i64 0)) :
    Calls Tryz.prog 47 #[.slice (some ⟨b, o, none⟩) n c] w fun e w' => e = .returned (.int .i64 0) ∧ w = w' := by
  have h := first_any b o n c (List.replicate n 0) (by simp) hm w (fun j hj => by rw [hc j hj]; simp [hj])
  rwa [firstNZ_zeros (fun x hx => (List.mem_replicate.1 hx).2)] at h

/-- The cells of a row that the call owns. -/
theorem owns_cell {w : World} {B T n c g : Nat} {vs : List Value} (h : w.ownsRow B T 1 (.slice (some ⟨g, 0, none⟩) n c) n vs) {j : Nat} {v : Value} (hj : vs[j]? = some v) : w.cell? ⟨g, j, none⟩ = some v := by
  have hadd : (⟨g, 0, none⟩ : Addr).add j = ⟨g, j, none⟩ := by unfold Addr.add; split <;> simp_all
  rw [← hadd]; exact h.cells (g := g) rfl j v hj
end Go.Proofs.YthfiilfekofimaaGreatDoor

/-
  Contracts of the instances of the program's generic function 'mapped': the new slice's cells are what the given function makes of each cell.
  Condition: at most 4096 elements, each of which the given function takes.
-/
namespace Go.Proofs.YthfiilfekofimaaGreatDoor
open Go.RowKit
set_option linter.unusedVariables false

theorem take_map_succ {α : Type} [Inhabited α] (f : α → Value) (l : List α) (k : Nat) (hk : k < l.length) (d : α) : (l.take (k + 1)).map f = (l.take k).map f ++ [f (l[k]?.getD d)] := by
  rw [List.take_succ_eq_append_getElem hk, List.map_append, List.getElem?_eq_getElem hk]; rfl

theorem Tryz.info3_int : (Tryz.prog.info? 3).map (fun i => (i.zero, i.size, i.bytes)) = some (some (.int .i64 0), 1, 8) := by kernel_rfl

set_option maxHeartbeats 2000000 in
set_option maxRecDepth 100000 in
theorem mapped_int {w : World} (b o n c : Nat) (xs : List Nat) (ks : List Int) (hx : xs.length = n) (hk : ks.length = n) (hn : n ≤ 4096) (hb : b < w.heap.size)
    (hc : ∀ j, j < n → w.cell? ⟨b, o + j, none⟩ = some (.float .f32 (xs[j]?.getD 0))) (hs : ∀ j, j < n → Smp (xs[j]?.getD 0) (ks[j]?.getD 0) ∧ (ks[j]?.getD 0).natAbs < 2 ^ 40) :
    Calls Tryz.prog 136 #[.slice (some ⟨b, o, none⟩) n c, .func (.func 137) #[] #[]] w fun e w' =>
      e = .returned (.slice (some ⟨w.heap.size, 0, none⟩) n n) ∧ w'.ownsRow w.heap.size 3 1 (.slice (some ⟨w.heap.size, 0, none⟩) n n) n (ks.map (Value.int .i64)) ∧ Below w.heap.size w w' := by
  obtain ⟨i0, hi, hz0, hz1, hz2⟩ := info_parts Tryz.info3_int
  have Hx := Lib.hid hx
  have Hk := Lib.hid hk
  have Hc := Lib.hid hc
  have Hs := Lib.hid hs
  clear hx hk hc hs
  go_enter Tryz.func136, Tryz.ntmps136
  go_wp2_with (at_make; refine wpList_make_own _ rfl _ _ 102 rfl w.heap.size 3 i0 (.int .i64 0) 1 Tryz.underlying102 hi hz0 hz1 _ _ _ n rfl rfl (by omega) ?b2 ?b3 (Nat.le_refl _) ?_)
  case b2 => rw [hz2]; omega
  case b3 => unfold maxLen; omega
  intro w0 hown0 hgrow0
  go_wp2
  go_loopw [5, 13] (fun out i wr => ∃ k : Nat, k ≤ n ∧ i = .int .i64 k ∧ out = .slice (some ⟨w.heap.size, 0, none⟩) k n ∧
      wr.ownsRow w.heap.size 3 1 (.slice (some ⟨w.heap.size, 0, none⟩) k n) k ((ks.take k).map (Value.int .i64)) ∧ Below w.heap.size w wr)
    (fun _ i _ => n - (intOf i).toNat)
  case atStart => exact ⟨0, Nat.zero_le _, rfl, rfl, hown0, (Below.refl _ _).grown hgrow0 (Nat.le_refl _) (fun k h => by cases h)⟩
  case round =>
    obtain ⟨k, hk, rfl, rfl, hown, hnx⟩ := hrel
    by_cases hlt : k < n
    · have hcell : wr.cell? ⟨b, o + k, none⟩ = some (.float .f32 (xs[k]?.getD 0)) := (hnx.cell (by exact hb)).trans (Hc.out k hlt)
      have K := Lib.hid (Hs.out k hlt)
      have hsz := hnx.size
      go_wp2_with (first
        | (go_at_call 137; refine (integer_any _ _ K.out.1 K.out.2 _).mono ?_; rintro e w' ⟨rfl, rfl⟩)
        | (at_builtin; refine wpList_append_fits _ rfl (.tmp 17) (.tmp 21) 102 rfl w.heap.size 3 i0 1 Tryz.underlying102 hi hz1 w.heap.size k n _ rfl (hown.alloc _) ⟨wr.heap.size, 0, none⟩ 1 1 [.int .i64 (ks[k]?.getD 0)] rfl rfl (cell_one_new _ _ _) (by intro u hu; simp at hu; subst hu; rfl) (by omega) ?_; intro w1 hown1 hgrow1))
      go_roundw
      case rel => exact ⟨k + 1, by omega, by go_num, rfl, by rw [take_map_succ (Value.int .i64) ks k (by have := Hk.out; omega) 0]; exact hown1, (hnx.alloc hnx.size _).grown hgrow1 (by simp; omega) (fun j hj => by cases hj; exact Nat.le_refl _)⟩
      case measure => simp [intOf]; omega
    · go_wp2
      go_ret
      obtain rfl : k = n := by omega
      rw [List.take_of_length_le (by have := Hk.out; omega)] at hown
      exact ⟨rfl, hown, hnx⟩

theorem Tryz.info22_sample : (Tryz.prog.info? 22).map (fun i => (i.zero, i.size, i.bytes)) = some (some (.float .f32 0), 1, 4) := by kernel_rfl

set_option maxHeartbeats 2000000 in
set_option maxRecDepth 100000 in
theorem mapped_sample {w : World} (b o n c : Nat) (xs : List Int) (ks : List Int) (hx : xs.length = n) (hk : ks.length = n) (hn : n ≤ 4096) (hb : b < w.heap.size)
    (hc : ∀ j, j < n → w.cell? ⟨b, o + j, none⟩ = some (.int .i64 (xs[j]?.getD 0))) (hs : ∀ j, j < n → xs[j]?.getD 0 = ks[j]?.getD 0 ∧ (ks[j]?.getD 0).natAbs < 2 ^ 24) :
    Calls Tryz.prog 149 #[.slice (some ⟨b, o, none⟩) n c, .func (.func 92) #[] #[]] w fun e w' =>
      e = .returned (.slice (some ⟨w.heap.size, 0, none⟩) n n) ∧ w'.ownsRow w.heap.size 22 1 (.slice (some ⟨w.heap.size, 0, none⟩) n n) n (ks.map (fun n : Int => Value.float .f32 (smpOf n))) ∧ Below w.heap.size w w' := by
  obtain ⟨i0, hi, hz0, hz1, hz2⟩ := info_parts Tryz.info22_sample
  have Hx := Lib.hid hx
  have Hk := Lib.hid hk
  have Hc := Lib.hid hc
  have Hs := Lib.hid hs
  clear hx hk hc hs
  go_enter Tryz.func149, Tryz.ntmps149
  go_wp2_with (at_make; refine wpList_make_own _ rfl _ _ 33 rfl w.heap.size 22 i0 (.float .f32 0) 1 Tryz.underlying33 hi hz0 hz1 _ _ _ n rfl rfl (by omega) ?b2 ?b3 (Nat.le_refl _) ?_)
  case b2 => rw [hz2]; omega
  case b3 => unfold maxLen; omega
  intro w0 hown0 hgrow0
  go_wp2
  go_loopw [5, 13] (fun out i wr => ∃ k : Nat, k ≤ n ∧ i = .int .i64 k ∧ out = .slice (some ⟨w.heap.size, 0, none⟩) k n ∧
      wr.ownsRow w.heap.size 22 1 (.slice (some ⟨w.heap.size, 0, none⟩) k n) k ((ks.take k).map (fun n : Int => Value.float .f32 (smpOf n))) ∧ Below w.heap.size w wr)
    (fun _ i _ => n - (intOf i).toNat)
  case atStart => exact ⟨0, Nat.zero_le _, rfl, rfl, hown0, (Below.refl _ _).grown hgrow0 (Nat.le_refl _) (fun k h => by cases h)⟩
  case round =>
    obtain ⟨k, hk, rfl, rfl, hown, hnx⟩ := hrel
    by_cases hlt : k < n
    · have hcell : wr.cell? ⟨b, o + k, none⟩ = some (.int .i64 (xs[k]?.getD 0)) := (hnx.cell (by exact hb)).trans (Hc.out k hlt)
      have K := Lib.hid (Hs.out k hlt)
      have hsz := hnx.size
      go_wp2_with (first
        | (go_at_call 92; refine (show Calls _ _ _ _ _ from by rw [K.out.1]; exact sample_any _ K.out.2 _).mono ?_; rintro e w' ⟨rfl, rfl⟩)
        | (at_builtin; refine wpList_append_fits _ rfl (.tmp 17) (.tmp 21) 33 rfl w.heap.size 22 i0 1 Tryz.underlying33 hi hz1 w.heap.size k n _ rfl (hown.alloc _) ⟨wr.heap.size, 0, none⟩ 1 1 [.float .f32 (smpOf (ks[k]?.getD 0))] rfl rfl (cell_one_new _ _ _) (by intro u hu; simp at hu; subst hu; rfl) (by omega) ?_; intro w1 hown1 hgrow1))
      go_roundw
      case rel => exact ⟨k + 1, by omega, by go_num, rfl, by rw [take_map_succ (fun n : Int => Value.float .f32 (smpOf n)) ks k (by have := Hk.out; omega) 0]; exact hown1, (hnx.alloc hnx.size _).grown hgrow1 (by simp; omega) (fun j hj => by cases hj; exact Nat.le_refl _)⟩
      case measure => simp [intOf]; omega
    · go_wp2
      go_ret
      obtain rfl : k = n := by omega
      rw [List.take_of_length_le (by have := Hk.out; omega)] at hown
      exact ⟨rfl, hown, hnx⟩

theorem Tryz.info27_check : (Tryz.prog.info? 27).map (fun i => (i.zero, i.size, i.bytes)) = some (some (.int .i64 0), 1, 8) := by kernel_rfl

set_option maxHeartbeats 2000000 in
set_option maxRecDepth 100000 in
theorem mapped_check {w : World} (b o n c : Nat) (xs : List Nat) (ks : List Int) (hx : xs.length = n) (hk : ks.length = n) (hn : n ≤ 4096) (hb : b < w.heap.size)
    (hc : ∀ j, j < n → w.cell? ⟨b, o + j, none⟩ = some (.float .f32 (xs[j]?.getD 0))) (hs : ∀ j, j < n → xs[j]?.getD 0 < 2 ^ 32 ∧ Smp (xs[j]?.getD 0) (ks[j]?.getD 0) ∧ (ks[j]?.getD 0).natAbs ≤ 16384) :
    Calls Tryz.prog 48 #[.slice (some ⟨b, o, none⟩) n c, .func (.func 49) #[] #[]] w fun e w' =>
      e = .returned (.slice (some ⟨w.heap.size, 0, none⟩) n n) ∧ w'.ownsRow w.heap.size 27 1 (.slice (some ⟨w.heap.size, 0, none⟩) n n) n (ks.map (fun _ : Int => Value.int .i64 0)) ∧ Below w.heap.size w w' := by
  obtain ⟨i0, hi, hz0, hz1, hz2⟩ := info_parts Tryz.info27_check
  have Hx := Lib.hid hx
  have Hk := Lib.hid hk
  have Hc := Lib.hid hc
  have Hs := Lib.hid hs
  clear hx hk hc hs
  go_enter Tryz.func48, Tryz.ntmps48
  go_wp2_with (at_make; refine wpList_make_own _ rfl _ _ 113 rfl w.heap.size 27 i0 (.int .i64 0) 1 Tryz.underlying113 hi hz0 hz1 _ _ _ n rfl rfl (by omega) ?b2 ?b3 (Nat.le_refl _) ?_)
  case b2 => rw [hz2]; omega
  case b3 => unfold maxLen; omega
  intro w0 hown0 hgrow0
  go_wp2
  go_loopw [5, 13] (fun out i wr => ∃ k : Nat, k ≤ n ∧ i = .int .i64 k ∧ out = .slice (some ⟨w.heap.size, 0, none⟩) k n ∧
      wr.ownsRow w.heap.size 27 1 (.slice (some ⟨w.heap.size, 0, none⟩) k n) k ((ks.take k).map (fun _ : Int => Value.int .i64 0)) ∧ Below w.heap.size w wr)
    (fun _ i _ => n - (intOf i).toNat)
  case atStart => exact ⟨0, Nat.zero_le _, rfl, rfl, hown0, (Below.refl _ _).grown hgrow0 (Nat.le_refl _) (fun k h => by cases h)⟩
  case round =>
    obtain ⟨k, hk, rfl, rfl, hown, hnx⟩ := hrel
    by_cases hlt : k < n
    · have hcell : wr.cell? ⟨b, o + k, none⟩ = some (.float .f32 (xs[k]?.getD 0)) := (hnx.cell (by exact hb)).trans (Hc.out k hlt)
      have K := Lib.hid (Hs.out k hlt)
      have hsz := hnx.size
      go_wp2_with (first
        | (go_at_call 49; refine (checkSample_any _ _ K.out.1 K.out.2.1 K.out.2.2 _).mono ?_; rintro e w' ⟨rfl, rfl⟩)
        | (at_builtin; refine wpList_append_fits _ rfl (.tmp 17) (.tmp 21) 113 rfl w.heap.size 27 i0 1 Tryz.underlying113 hi hz1 w.heap.size k n _ rfl (hown.alloc _) ⟨wr.heap.size, 0, none⟩ 1 1 [.int .i64 0] rfl rfl (cell_one_new _ _ _) (by intro u hu; simp at hu; subst hu; rfl) (by omega) ?_; intro w1 hown1 hgrow1))
      go_roundw
      case rel => exact ⟨k + 1, by omega, by go_num, rfl, by rw [take_map_succ (fun _ : Int => Value.int .i64 0) ks k (by have := Hk.out; omega) 0]; exact hown1, (hnx.alloc hnx.size _).grown hgrow1 (by simp; omega) (fun j hj => by cases hj; exact Nat.le_refl _)⟩
      case measure => simp [intOf]; omega
    · go_wp2
      go_ret
      obtain rfl : k = n := by omega
      rw [List.take_of_length_le (by have := Hk.out; omega)] at hown
      exact ⟨rfl, hown, hnx⟩
end Go.Proofs.YthfiilfekofimaaGreatDoor

/-
  Contracts of the program's functions on places of a grid: index, at, has; of gridOf. Sizes and places are from 0 to 2^20.
-/
namespace Go.Proofs.YthfiilfekofimaaGreatDoor
open Go.RowKit
set_option linter.unusedVariables false

set_option maxHeartbeats 800000 in
theorem index_any (W H X Y : Int) (a : Option Addr) (n c : Nat) (h0 : 0 ≤ W ∧ W ≤ 1048576) (hx : 0 ≤ X ∧ X ≤ 1048576) (hy : 0 ≤ Y ∧ Y ≤ 1048576) (hp : 0 ≤ Y * W ∧ Y * W ≤ 1099511627776) (w : World) :
    Calls Tryz.prog 130 #[.agg #[.int .i64 W, .int .i64 H, .slice a n c], .agg #[.int .i64 X, .int .i64 Y]] w fun e w' => e = .returned (.int .i64 (Y * W + X)) ∧ Below w.heap.size w w' := by
  go_enter Tryz.func130, Tryz.ntmps130
  go_wp2
  go_ret
  exact ⟨rfl, (((Below.refl _ _).alloc (Nat.le_refl _) _).alloc (by simp) _)⟩

set_option maxRecDepth 100000 in
set_option maxHeartbeats 3200000 in
theorem at_any (W H X Y : Int) (g n c : Nat) (v : Int) (h0 : 0 ≤ W ∧ W ≤ 1048576) (hx : 0 ≤ X ∧ X ≤ 1048576) (hy : 0 ≤ Y ∧ Y ≤ 1048576) (hp : 0 ≤ Y * W ∧ Y * W ≤ 1099511627776) (w : World)
    (hn : Y * W + X < n) (hg : g < w.heap.size) (hc : w.cell? ⟨g, (Y * W + X).toNat, none⟩ = some (.int .i64 v)) :
    Calls Tryz.prog 89 #[.agg #[.int .i64 W, .int .i64 H, .slice (some ⟨g, 0, none⟩) n c], .agg #[.int .i64 X, .int .i64 Y]] w fun e w' => e = .returned (.int .i64 v) ∧ Below w.heap.size w w' := by
  have hi0 : 0 ≤ Y * W + X := by omega
  have hnn : Y * W + X ≤ 1099512676352 := by omega
  go_enter Tryz.func89, Tryz.ntmps89
  go_wp2_with fail
  go_region_held3 (fun w' => w'.cell? ⟨w.heap.size, 0, none⟩ = some (.int .i64 W) ∧ w'.cell? ⟨w.heap.size, 1, none⟩ = some (.int .i64 H) ∧ w'.cell? ⟨w.heap.size, 2, none⟩ = some (.slice (some ⟨g, 0, none⟩) n c) ∧
      w'.cell? ⟨w.heap.size + 1, 0, none⟩ = some (.int .i64 X) ∧ w'.cell? ⟨w.heap.size + 1, 1, none⟩ = some (.int .i64 Y) ∧ w'.cell? ⟨g, (Y * W + X).toNat, none⟩ = some (.int .i64 v))
    (first | go_keep | (go_split_ands; refine ⟨?_, ?_, ?_, ?_, ?_, ?_⟩ <;> (rw [hb.cell (by simp; try omega)]; assumption)))
    ((go_at_call 130; refine (index_any _ _ _ _ _ _ _ h0 hx hy hp _).mono ?_; rintro e w' ⟨rfl, hb⟩))
  all_goals
    go_wp2
    go_ret
    refine ⟨rfl, ?_⟩
    exact (((Below.refl _ w).alloc (Nat.le_refl _) _).alloc (by simp) _).drew.trans (hb.mono (by simp; omega))
end Go.Proofs.YthfiilfekofimaaGreatDoor

/-
  Contract of gridOf: the grid of a map whose samples' words are known.
-/
namespace Go.Proofs.YthfiilfekofimaaGreatDoor
open Go.RowKit
set_option linter.unusedVariables false

/-- The samples of a map, word by word, and their integers. -/
structure Words (w : World) (b o n : Nat) (xs : List Nat) (ks : List Int) : Prop where
  len : xs.length = n
  lenk : ks.length = n
  small : n ≤ 4096
  cells : ∀ j, j < n → w.cell? ⟨b, o + j, none⟩ = some (.float .f32 (xs[j]?.getD 0))
  words : ∀ j, j < n → xs[j]?.getD 0 < 2 ^ 32
  smps : ∀ j, j < n → Smp (xs[j]?.getD 0) (ks[j]?.getD 0)
  sizes : ∀ j, j < n → (ks[j]?.getD 0).natAbs ≤ 16384

theorem Words.below {B : Nat} {w w' : World} {b o n : Nat} {xs : List Nat} {ks : List Int} (h : Words w b o n xs ks) (hb : Below B w w') (hB : b < B) : Words w' b o n xs ks :=
  ⟨h.len, h.lenk, h.small, fun j hj => (hb.cell (by exact hB)).trans (h.cells j hj), h.words, h.smps, h.sizes⟩

set_option maxRecDepth 100000 in
set_option maxHeartbeats 3200000 in
theorem gridOf_any (W H : Int) (b o n c : Nat) (xs : List Nat) (ks : List Int) (w : World) (hw : Words w b o n xs ks) (hb : b < w.heap.size) :
    Calls Tryz.prog 71 #[.agg #[.int .i64 W, .int .i64 H, .slice (some ⟨b, o, none⟩) n c]] w fun e w' =>
      e = .returned (.agg #[.int .i64 W, .int .i64 H, .slice (some ⟨w.heap.size + 2, 0, none⟩) n n]) ∧ w'.ownsRow (w.heap.size + 2) 3 1 (.slice (some ⟨w.heap.size + 2, 0, none⟩) n n) n (ks.map (Value.int .i64)) ∧ Below w.heap.size w w' := by
  have K : ∀ w1 : World, Below w.heap.size w w1 → w1.heap.size = w.heap.size + 2 → Calls Tryz.prog 136 #[.slice (some ⟨b, o, none⟩) n c, .func (.func 137) #[] #[]] w1 fun e w' =>
      e = .returned (.slice (some ⟨w.heap.size + 2, 0, none⟩) n n) ∧ w'.ownsRow (w.heap.size + 2) 3 1 (.slice (some ⟨w.heap.size + 2, 0, none⟩) n n) n (ks.map (Value.int .i64)) ∧ Below (w.heap.size + 2) w1 w' := by
    intro w1 h1 hs
    have hw1 := hw.below h1 hb
    rw [← hs]
    exact mapped_int b o n c xs ks hw1.len hw1.lenk hw1.small (by omega) hw1.cells (fun j hj => ⟨hw1.smps j hj, Nat.lt_of_le_of_lt (hw1.sizes j hj) (by decide)⟩)
  have HK := Lib.hid K
  clear K hw
  go_enter Tryz.func71, Tryz.ntmps71
  go_wp2_with fail
  go_region_held3 (fun w' => w'.cell? ⟨w.heap.size, 0, none⟩ = some (.int .i64 W) ∧ w'.cell? ⟨w.heap.size, 1, none⟩ = some (.int .i64 H) ∧ w'.cell? ⟨w.heap.size, 2, none⟩ = some (.slice (some ⟨b, o, none⟩) n c))
    (first | go_keep | (go_split_ands; refine ⟨?_, ?_, ?_⟩ <;> rw [hb1.cell (by simp; try omega)] <;> assumption))
    ((go_at_call 136; refine (HK.out _ ?_ ?_).mono ?_; rotate_left 2; rintro e w' ⟨rfl, hown, hb1⟩
      have s0 : w'.cell? ⟨w.heap.size + 1, 0, none⟩ = some (.int .i64 0) := by rw [hb1.cell (by simp)]; simp [go_sem]
      have s1 : w'.cell? ⟨w.heap.size + 1, 1, none⟩ = some (.int .i64 0) := by rw [hb1.cell (by simp)]; simp [go_sem]
      have s2 : w'.cell? ⟨w.heap.size + 1, 2, none⟩ = some (.slice none 0 0) := by rw [hb1.cell (by simp)]; simp [go_sem]
      have f0 : w'.frozen? ⟨w.heap.size + 1, 0, none⟩ = false := by rw [hb1.frozen (by simp)]; simp [go_sem]
      have f1 : w'.frozen? ⟨w.heap.size + 1, 1, none⟩ = false := by rw [hb1.frozen (by simp)]; simp [go_sem]
      have f2 : w'.frozen? ⟨w.heap.size + 1, 2, none⟩ = false := by rw [hb1.frozen (by simp)]; simp [go_sem]
      rotate_left 1; exact (((Below.refl _ w).alloc (Nat.le_refl _) _).alloc (by simp) _).drew; simp))
  all_goals
    go_wp2
    refine bodyPost_ret (v := .agg #[.int .i64 W, .int .i64 H, .slice (some ⟨w.heap.size + 2, 0, none⟩) n n]) (by simp [results, Tryz.results71, go_sem, s0, s1, s2]) rfl ⟨rfl, ?_, ?_⟩
    · exact ownsRow_setCell_below (ownsRow_setCell_below (ownsRow_setCell_below hown (by simp) _) (by simp) _) (by simp) _
    · exact ((((((Below.refl _ w).alloc (Nat.le_refl _) _).alloc (by simp) _).drew.trans (hb1.mono (by omega))).setCell (p := ⟨w.heap.size + 1, 0, none⟩) (by simp) _).setCell (p := ⟨w.heap.size + 1, 1, none⟩) (by simp) _).setCell (p := ⟨w.heap.size + 1, 2, none⟩) (by simp) _
end Go.Proofs.YthfiilfekofimaaGreatDoor

/-
  Contract of grid.toMap where the integers are those of samples: the map.
-/
namespace Go.Proofs.YthfiilfekofimaaGreatDoor
open Go.RowKit
set_option linter.unusedVariables false

set_option maxRecDepth 100000 in
set_option maxHeartbeats 3200000 in
theorem toMap_any (W H : Int) (g o n c : Nat) (ks : List Int) (hk : ks.length = n) (hn : n ≤ 4096) (w : World) (hg : g < w.heap.size) (hc : ∀ j, j < n → w.cell? ⟨g, o + j, none⟩ = some (.int .i64 (ks[j]?.getD 0))) (hs : ∀ j, j < n → (ks[j]?.getD 0).natAbs ≤ 16384) :
    Calls Tryz.prog 105 #[.agg #[.int .i64 W, .int .i64 H, .slice (some ⟨g, o, none⟩) n c]] w fun e w' =>
      e = .returned (.tuple #[.agg #[.int .i64 W, .int .i64 H, .slice (some ⟨w.heap.size + 2, 0, none⟩) n n], .int .i64 0]) ∧ w'.ownsRow (w.heap.size + 2) 22 1 (.slice (some ⟨w.heap.size + 2, 0, none⟩) n n) n (ks.map (fun n : Int => Value.float .f32 (smpOf n))) ∧ Below w.heap.size w w' := by
  have K : ∀ w1 : World, Below w.heap.size w w1 → w1.heap.size = w.heap.size + 2 → Calls Tryz.prog 149 #[.slice (some ⟨g, o, none⟩) n c, .func (.func 92) #[] #[]] w1 fun e w' =>
      e = .returned (.slice (some ⟨w.heap.size + 2, 0, none⟩) n n) ∧ w'.ownsRow (w.heap.size + 2) 22 1 (.slice (some ⟨w.heap.size + 2, 0, none⟩) n n) n (ks.map (fun n : Int => Value.float .f32 (smpOf n))) ∧ Below (w.heap.size + 2) w1 w' := by
    intro w1 h1 hs1
    rw [← hs1]
    exact mapped_sample g o n c ks ks hk hk hn (by omega) (fun j hj => (h1.cell (by exact hg)).trans (hc j hj)) (fun j hj => ⟨rfl, Nat.lt_of_le_of_lt (hs j hj) (by decide)⟩)
  have HK := Lib.hid K
  have HC := Lib.hid hc
  have HS := Lib.hid hs
  clear K hc hs hk
  go_enter Tryz.func105, Tryz.ntmps105
  go_wp2_with fail
  obtain ⟨W0, hW0⟩ : ∃ W0, ((w.alloc (.cells #[.int .i64 W, .int .i64 H, .slice (some ⟨g, o, none⟩) n c] 144)).alloc (.cells #[.int .i64 0, .int .i64 0, .slice none 0 0] 45)) = W0 := ⟨_, rfl⟩
  have hB0 : Below w.heap.size w W0 := by rw [← hW0]; exact ((Below.refl _ w).alloc (Nat.le_refl _) _).alloc (by simp) _
  have hz0 : W0.heap.size = w.heap.size + 2 := by rw [← hW0]; simp
  have c0 : W0.cell? ⟨w.heap.size, 0, none⟩ = some (.int .i64 W) := by rw [← hW0]; simp [go_sem]
  have c1 : W0.cell? ⟨w.heap.size, 1, none⟩ = some (.int .i64 H) := by rw [← hW0]; simp [go_sem]
  have c2 : W0.cell? ⟨w.heap.size, 2, none⟩ = some (.slice (some ⟨g, o, none⟩) n c) := by rw [← hW0]; simp [go_sem]
  have t0 : W0.cell? ⟨w.heap.size + 1, 0, none⟩ = some (.int .i64 0) := by rw [← hW0]; simp [go_sem]
  have t1 : W0.cell? ⟨w.heap.size + 1, 1, none⟩ = some (.int .i64 0) := by rw [← hW0]; simp [go_sem]
  have t2 : W0.cell? ⟨w.heap.size + 1, 2, none⟩ = some (.slice none 0 0) := by rw [← hW0]; simp [go_sem]
  have fz : ∀ j, W0.frozen? ⟨w.heap.size + 1, j, none⟩ = false := fun j => by rw [← hW0]; simp [go_sem]
  rw [hW0]
  have HB0 := Lib.hid hB0
  have HZ0 := Lib.hid hz0
  clear hW0 hB0 hz0
  go_loop [9] (fun i => ∃ k : Nat, k ≤ n ∧ i = .int .i64 k) (fun i => n - (intOf i).toNat)
  case atStart => exact ⟨0, Nat.zero_le _, rfl⟩
  case round =>
    obtain ⟨k, hkn, rfl⟩ := hrel
    by_cases hlt : k < n
    · have hcell : W0.cell? ⟨g, o + k, none⟩ = some (.int .i64 (ks[k]?.getD 0)) := (HB0.out.cell (by exact hg)).trans (HC.out k hlt)
      have hs := HS.out k hlt
      obtain ⟨v, hv⟩ : ∃ v, ks[k]?.getD 0 = v := ⟨_, rfl⟩
      rw [hv] at hcell hs
      have h1 : ¬ (v < -16384) := by omega
      have h2 : ¬ (16384 < v) := by omega
      clear hs hv
      go_wp2
      go_round
      case rel => exact ⟨k + 1, by omega, by go_num⟩
      case measure => simp [intOf]; omega
    · go_wp2_with fail
      go_region_held3 (fun w' => w'.cell? ⟨w.heap.size, 0, none⟩ = some (.int .i64 W) ∧ w'.cell? ⟨w.heap.size, 1, none⟩ = some (.int .i64 H) ∧ w'.cell? ⟨w.heap.size, 2, none⟩ = some (.slice (some ⟨g, o, none⟩) n c))
        (first | go_keep | (go_split_ands; refine ⟨?_, ?_, ?_⟩ <;> rw [hb1.cell (by simp; try omega)] <;> assumption))
        ((go_at_call 149; refine (HK.out _ HB0.out.drew (by show W0.heap.size = _; exact HZ0.out)).mono ?_; rintro e w' ⟨rfl, hown, hb1⟩
          have s0 : w'.cell? ⟨w.heap.size + 1, 0, none⟩ = some (.int .i64 0) := by rw [hb1.cell (by simp)]; assumption
          have s1 : w'.cell? ⟨w.heap.size + 1, 1, none⟩ = some (.int .i64 0) := by rw [hb1.cell (by simp)]; assumption
          have s2 : w'.cell? ⟨w.heap.size + 1, 2, none⟩ = some (.slice none 0 0) := by rw [hb1.cell (by simp)]; assumption
          have f0 : w'.frozen? ⟨w.heap.size + 1, 0, none⟩ = false := by rw [hb1.frozen (by simp)]; exact fz 0
          have f1 : w'.frozen? ⟨w.heap.size + 1, 1, none⟩ = false := by rw [hb1.frozen (by simp)]; exact fz 1
          have f2 : w'.frozen? ⟨w.heap.size + 1, 2, none⟩ = false := by rw [hb1.frozen (by simp)]; exact fz 2))
      all_goals
        go_wp2
        refine bodyPost_ret (v := .tuple #[.agg #[.int .i64 W, .int .i64 H, .slice (some ⟨w.heap.size + 2, 0, none⟩) n n], .int .i64 0]) (by simp [results, Tryz.results105, go_sem, s0, s1, s2]) rfl ⟨rfl, ?_, ?_⟩
        · exact ownsRow_setCell_below (ownsRow_setCell_below (ownsRow_setCell_below hown (by simp) _) (by simp) _) (by simp) _
        · exact (((HB0.out.drew.trans (hb1.mono (by omega))).setCell (p := ⟨w.heap.size + 1, 0, none⟩) (by simp) _).setCell (p := ⟨w.heap.size + 1, 1, none⟩) (by simp) _).setCell (p := ⟨w.heap.size + 1, 2, none⟩) (by simp) _
end Go.Proofs.YthfiilfekofimaaGreatDoor

/-
  Contract of CheckMap for a map that is right: width and height from 1 to 64, as many samples as places, each one a sample's word.
-/
namespace Go.Proofs.YthfiilfekofimaaGreatDoor
open Go.RowKit
set_option linter.unusedVariables false

/-- A right map in memory. -/
structure RightMap (w : World) (W H : Int) (b o n : Nat) (xs : List Nat) (ks : List Int) : Prop extends Words w b o n xs ks where
  wid : 1 ≤ W ∧ W ≤ 64
  hei : 1 ≤ H ∧ H ≤ 64
  area : W * H = n

theorem RightMap.below {B : Nat} {w w' : World} {W H : Int} {b o n : Nat} {xs : List Nat} {ks : List Int} (h : RightMap w W H b o n xs ks) (hb : Below B w w') (hB : b < B) : RightMap w' W H b o n xs ks :=
  ⟨h.toWords.below hb hB, h.wid, h.hei, h.area⟩

set_option maxRecDepth 100000 in
set_option maxHeartbeats 3200000 in
theorem checkMap_any (W H : Int) (b o n c : Nat) (xs : List Nat) (ks : List Int) (w : World) (hw : RightMap w W H b o n xs ks) (hb : b < w.heap.size) :
    Calls Tryz.prog 67 #[.agg #[.int .i64 W, .int .i64 H, .slice (some ⟨b, o, none⟩) n c]] w fun e w' => e = .returned (.int .i64 0) ∧ Below w.heap.size w w' := by
  have hW := hw.wid
  have hH := hw.hei
  have hA := hw.area
  have eW := rangeErr_in hW.1 hW.2
  have eH := rangeErr_in hH.1 hH.2
  have KW : ∀ w1 : World, Calls Tryz.prog 94 #[.int .i64 W] w1 fun e w' => e = .returned (.int .i64 0) ∧ w1 = w' := fun w1 => by rw [← eW]; exact checkSide_any W w1
  have KH : ∀ w1 : World, Calls Tryz.prog 94 #[.int .i64 H] w1 fun e w' => e = .returned (.int .i64 0) ∧ w1 = w' := fun w1 => by rw [← eH]; exact checkSide_any H w1
  have HKW := Lib.hid KW
  have HKH := Lib.hid KH
  have KM : ∀ w1 : World, Below w.heap.size w w1 → w1.heap.size = w.heap.size + 2 → Calls Tryz.prog 48 #[.slice (some ⟨b, o, none⟩) n c, .func (.func 49) #[] #[]] w1 fun e w' =>
      e = .returned (.slice (some ⟨w.heap.size + 2, 0, none⟩) n n) ∧ w'.ownsRow (w.heap.size + 2) 27 1 (.slice (some ⟨w.heap.size + 2, 0, none⟩) n n) n (ks.map (fun _ => Value.int .i64 0)) ∧ Below (w.heap.size + 2) w1 w' := by
    intro w1 h1 hs
    have hw1 := hw.below h1 hb
    rw [← hs]
    exact mapped_check b o n c xs ks hw1.len hw1.lenk hw1.small (by omega) hw1.cells (fun j hj => ⟨hw1.words j hj, hw1.smps j hj, hw1.sizes j hj⟩)
  have HM := Lib.hid KM
  have Hw := Lib.hid hw
  have HA := Lib.hid hA
  have hn : W * H ≤ 4096 := by have := hw.small; omega
  have hn0 : 0 ≤ W * H := by omega
  have hne : (n : Int) = W * H := hA.symm
  have e1 : ((n : Int) != W * H) = false := by rw [hne]; simp
  have hsm := hw.small
  clear KM KW KH eW eH hA hne hw
  go_enter Tryz.func67, Tryz.ntmps67
  go_wp2_with fail
  go_region_held3 (fun w' => w'.cell? ⟨w.heap.size, 0, none⟩ = some (.int .i64 W) ∧ w'.cell? ⟨w.heap.size, 1, none⟩ = some (.int .i64 H))
    (go_keep)
    (first
      | ((go_at_call_of 94 (Value.int .i64 W); refine (HKW.out _).mono ?_; rintro e w' ⟨rfl, rfl⟩))
      | ((go_at_call_of 94 (Value.int .i64 H); refine (HKH.out _).mono ?_; rintro e w' ⟨rfl, rfl⟩))
      | ((go_at_call 47; refine (first_zeros _ 0 2 2 (by omega) _ ?_).mono ?_; rotate_left 1; rintro e w' ⟨rfl, rfl⟩; rotate_left 1; (intro j hj; match j, hj with | 0, _ => simp [go_sem] | 1, _ => simp [go_sem]))))
  all_goals
    go_wp2_with (first
      | (go_at_call 48; refine (HM.out _ ?_ ?_).mono ?_; rotate_left 2; rintro e w' ⟨rfl, hown, hb1⟩; rotate_left 1; exact (((Below.refl _ w).alloc (Nat.le_refl _) _).alloc (by simp) _).drew; simp)
      | (go_at_call 47; refine (first_zeros _ 0 n n (by omega) _ (fun j hj => by rw [Nat.zero_add]; exact owns_cell hown (by have := (Hw.out).lenk; simp [this, hj]))).mono ?_; rintro e w' ⟨rfl, rfl⟩))
    go_ret
    exact ⟨rfl, (((Below.refl _ w).alloc (Nat.le_refl _) _).alloc (by simp) _).drew.trans (hb1.mono (by omega))⟩
end Go.Proofs.YthfiilfekofimaaGreatDoor
