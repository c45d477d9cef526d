/-
  Contracts of small functions of the program and of the reference (ranges, sides, sums of places): what each returns, for all arguments in the ranges that are written at each theorem.
-/
import Derived.Test.YtggffhmdgceljaaGreatDoorRows
import Derived.WalkKit
import Derived.WalkSpells
import Derived.WalkLawsBesides
import Derived.Lib.Hide
import Derived.BigQuiet
import Derived.Deep.QuietTactic
import Derived.Laws.FloatArith
import Derived.Laws.BitsAllLaws
import Derived.Deep.RegionHeld3
import Derived.Handy
import Derived.Deep.CutBlock
import Derived.Deep.DeepCutAuto
import Derived.StillTailTactics
import Derived.LoopTactic
import Derived.Laws.StructEq
namespace Go.Proofs.YtggffhmdgceljaaGreatDoor
open Go.RowKit

def rangeErr (n lo hi : Int) : Int := if n < lo ∨ hi < n then 3 else 0
theorem rangeErr_in {n lo hi : Int} (h1 : lo ≤ n) (h2 : n ≤ hi) : rangeErr n lo hi = 0 := by unfold rangeErr; rw [if_neg (by omega)]
theorem rangeErr_out {n lo hi : Int} (h : n < lo ∨ hi < n) : rangeErr n lo hi = 3 := by unfold rangeErr; rw [if_pos h]
theorem rangeErr_zero {n lo hi : Int} (h : rangeErr n lo hi = 0) : lo ≤ n ∧ n ≤ hi := by
  unfold rangeErr at h; split at h
  · cases h
  · omega

theorem ret_int {k : IntKind} {a b : Int} (h : a = b) : Ending.returned (.int k a) = .returned (.int k b) := by rw [h]

set_option maxHeartbeats 400000 in
theorem when_any (b : Bool) (n : Int) (w : World) :
    Calls Tryz.prog 52 #[.bool b, .int .i64 n] w fun e w' => e = .returned (.int .i64 (if b then n else 0)) ∧ w = w' := by
  cases b
  · go_enter Tryz.func52, Tryz.ntmps52
    go_wp2
    go_ret
    exact ⟨rfl, rfl⟩
  · go_enter Tryz.func52, Tryz.ntmps52
    go_wp2
    go_ret
    exact ⟨rfl, rfl⟩

set_option maxHeartbeats 400000 in
theorem refCheckRange_any (n lo hi : Int) (w : World) :
    Calls Tryz.prog 50 #[.int .i64 n, .int .i64 lo, .int .i64 hi] w fun e w' => e = .returned (.int .i64 (rangeErr n lo hi)) ∧ w = w' := by
  by_cases h1 : n < lo
  · rw [rangeErr_out (.inl h1)]
    go_enter Tryz.func50, Tryz.ntmps50
    go_wp2_with (go_at_call 52; refine (when_any true 3 _).mono ?_; rintro e w' ⟨rfl, rfl⟩)
    go_ret
    exact ⟨rfl, rfl⟩
  · by_cases h2 : hi < n
    · rw [rangeErr_out (.inr h2)]
      go_enter Tryz.func50, Tryz.ntmps50
      go_wp2_with (go_at_call 52; refine (when_any true 3 _).mono ?_; rintro e w' ⟨rfl, rfl⟩)
      go_ret
      exact ⟨rfl, rfl⟩
    · rw [rangeErr_in (by omega) (by omega)]
      go_enter Tryz.func50, Tryz.ntmps50
      go_wp2_with (go_at_call 52; refine (when_any false 3 _).mono ?_; rintro e w' ⟨rfl, rfl⟩)
      go_ret
      exact ⟨rfl, rfl⟩

set_option maxHeartbeats 400000 in
theorem cwhen_any (b : Bool) (n : Int) (w : World) :
    Calls Tryz.prog 86 #[.bool b, .int .i64 n] w fun e w' => e = .returned (.int .i64 (if b then n else 0)) ∧ w = w' := by
  cases b
  · go_enter Tryz.func86, Tryz.ntmps86
    go_wp2
    go_ret
    exact ⟨rfl, rfl⟩
  · go_enter Tryz.func86, Tryz.ntmps86
    go_wp2
    go_ret
    exact ⟨rfl, rfl⟩

set_option maxHeartbeats 400000 in
theorem checkRange_any (n lo hi : Int) (w : World) :
    Calls Tryz.prog 54 #[.int .i64 n, .int .i64 lo, .int .i64 hi] w fun e w' => e = .returned (.int .i64 (rangeErr n lo hi)) ∧ w = w' := by
  by_cases h1 : n < lo
  · rw [rangeErr_out (.inl h1)]
    go_enter Tryz.func54, Tryz.ntmps54
    go_wp2_with (go_at_call 86; refine (cwhen_any true 3 _).mono ?_; rintro e w' ⟨rfl, rfl⟩)
    go_ret
    exact ⟨rfl, rfl⟩
  · by_cases h2 : hi < n
    · rw [rangeErr_out (.inr h2)]
      go_enter Tryz.func54, Tryz.ntmps54
      go_wp2_with (go_at_call 86; refine (cwhen_any true 3 _).mono ?_; rintro e w' ⟨rfl, rfl⟩)
      go_ret
      exact ⟨rfl, rfl⟩
    · rw [rangeErr_in (by omega) (by omega)]
      go_enter Tryz.func54, Tryz.ntmps54
      go_wp2_with (go_at_call 86; refine (cwhen_any false 3 _).mono ?_; rintro e w' ⟨rfl, rfl⟩)
      go_ret
      exact ⟨rfl, rfl⟩

end Go.Proofs.YtggffhmdgceljaaGreatDoor

/-
  Contracts of the loops that look for the first error: over a slice of integers that is known cell by cell; and what it means that a slice's cells are known.
-/
namespace Go.Proofs.YtggffhmdgceljaaGreatDoor
open Go.RowKit
set_option linter.unusedVariables false

/-- The first number of a list that is not 0, or 0. -/
def firstNZ : List Int → Int
  | [] => 0
  | x :: r => if x ≠ 0 then x else firstNZ r

theorem firstNZ_zeros {l : List Int} (h : ∀ x ∈ l, x = 0) : firstNZ l = 0 := by
  induction l with
  | nil => rfl
  | cons x r ih => rw [firstNZ, if_neg (by have := h x (by simp); omega)]; exact ih fun y hy => h y (by simp [hy])
theorem firstNZ_at {l : List Int} {k : Nat} (hk : k < l.length) (h0 : ∀ j, j < k → l.getD j 0 = 0) (h1 : l.getD k 0 ≠ 0) : firstNZ l = l.getD k 0 := by
  induction l generalizing k with
  | nil => simp at hk
  | cons x r ih =>
    cases k with
    | zero => simp at h1 ⊢; rw [firstNZ, if_pos h1]
    | succ k =>
      have hx : x = 0 := by simpa using h0 0 (by omega)
      rw [firstNZ, if_neg (by omega)]
      simp only [List.getD_cons_succ] at h1 ⊢
      exact ih (by simpa using hk) (fun j hj => by simpa using h0 (j + 1) (by omega)) h1
theorem firstNZ_end {l : List Int} (h : ∀ j, j < l.length → l.getD j 0 = 0) : firstNZ l = 0 := by
  refine firstNZ_zeros fun x hx => ?_
  obtain ⟨i, hi, rfl⟩ := List.getElem_of_mem hx
  have := h i hi
  simpa [List.getD_eq_getElem?_getD, hi] using this

set_option maxHeartbeats 1000000 in
theorem refFirst_any (b o n c : Nat) (zs : List Int) (hz : zs.length = n) (hm : n ≤ 4611686018427387904) (w : World)
    (hc : ∀ j, j < n → w.cell? ⟨b, o + j, none⟩ = some (.int .i64 (zs[j]?.getD 0))) :
    Calls Tryz.prog 49 #[.slice (some ⟨b, o, none⟩) n c] w fun e w' => e = .returned (.int .i64 (firstNZ zs)) ∧ w = w' := by
  have Hz := Lib.hid hz
  have Hc := Lib.hid hc
  clear hz hc
  go_enter Tryz.func49, Tryz.ntmps49
  go_wp2
  go_loop [3] (fun i => ∃ k : Nat, k ≤ n ∧ i = .int .i64 k ∧ Hid (∀ j, j < k → zs.getD j 0 = 0)) (fun i => n - (intOf i).toNat)
  case atStart => exact ⟨0, Nat.zero_le _, rfl, fun j hj => absurd hj (by omega)⟩
  case round =>
    obtain ⟨k, hk, rfl, hh⟩ := hrel
    by_cases hlt : k < n
    · have hcell := Hc.out k hlt
      by_cases h0 : zs[k]?.getD 0 = 0
      · have e0 : (zs[k]?.getD 0 != 0) = false := by simp [h0]
        have H0 := Lib.hid h0
        clear h0
        go_wp2
        go_round
        case rel => exact ⟨k + 1, by omega, by go_num, fun j hj => by
          by_cases hjk : j < k
          · exact hh.out j hjk
          · obtain rfl : j = k := by omega
            rw [List.getD_eq_getElem?_getD]; exact H0.out⟩
        case measure => simp [intOf]; omega
      · have e0 : (zs[k]?.getD 0 != 0) = true := by simp [h0]
        have H0 := Lib.hid h0
        clear h0
        go_wp2
        go_ret
        exact ⟨ret_int (by rw [firstNZ_at (by rw [Hz.out]; exact hlt) hh.out (by rw [List.getD_eq_getElem?_getD]; exact H0.out), List.getD_eq_getElem?_getD]), rfl⟩
    · go_wp2
      go_ret
      exact ⟨ret_int (firstNZ_end fun j hj => hh.out j (by have := Hz.out; omega)).symm, rfl⟩
set_option maxHeartbeats 1000000 in
theorem first_any (b o n c : Nat) (zs : List Int) (hz : zs.length = n) (hm : n ≤ 4611686018427387904) (w : World)
    (hc : ∀ j, j < n → w.cell? ⟨b, o + j, none⟩ = some (.int .i64 (zs[j]?.getD 0))) :
    Calls Tryz.prog 42 #[.slice (some ⟨b, o, none⟩) n c] w fun e w' => e = .returned (.int .i64 (firstNZ zs)) ∧ w = w' := by
  have Hz := Lib.hid hz
  have Hc := Lib.hid hc
  clear hz hc
  go_enter Tryz.func42, Tryz.ntmps42
  go_wp2
  go_loop [7] (fun i => ∃ k : Nat, k ≤ n ∧ i = .int .i64 k ∧ Hid (∀ j, j < k → zs.getD j 0 = 0)) (fun i => n - (intOf i).toNat)
  case atStart => exact ⟨0, Nat.zero_le _, rfl, fun j hj => absurd hj (by omega)⟩
  case round =>
    obtain ⟨k, hk, rfl, hh⟩ := hrel
    by_cases hlt : k < n
    · have hcell := Hc.out k hlt
      by_cases h0 : zs[k]?.getD 0 = 0
      · have e0 : (zs[k]?.getD 0 != 0) = false := by simp [h0]
        have H0 := Lib.hid h0
        clear h0
        go_wp2
        go_round
        case rel => exact ⟨k + 1, by omega, by go_num, fun j hj => by
          by_cases hjk : j < k
          · exact hh.out j hjk
          · obtain rfl : j = k := by omega
            rw [List.getD_eq_getElem?_getD]; exact H0.out⟩
        case measure => simp [intOf]; omega
      · have e0 : (zs[k]?.getD 0 != 0) = true := by simp [h0]
        have H0 := Lib.hid h0
        clear h0
        go_wp2
        go_ret
        exact ⟨ret_int (by rw [firstNZ_at (by rw [Hz.out]; exact hlt) hh.out (by rw [List.getD_eq_getElem?_getD]; exact H0.out), List.getD_eq_getElem?_getD]), rfl⟩
    · go_wp2
      go_ret
      exact ⟨ret_int (firstNZ_end fun j hj => hh.out j (by have := Hz.out; omega)).symm, rfl⟩

/-- The cells of a row that the call owns. -/
theorem owns_cell {w : World} {B T n c g : Nat} {vs : List Value} (h : w.ownsRow B T 1 (.slice (some ⟨g, 0, none⟩) n c) n vs) {j : Nat} {v : Value} (hj : vs[j]? = some v) : w.cell? ⟨g, j, none⟩ = some v := by
  have hadd : (⟨g, 0, none⟩ : Addr).add j = ⟨g, j, none⟩ := by unfold Addr.add; split <;> simp_all
  rw [← hadd]; exact h.cells (g := g) rfl j v hj
end Go.Proofs.YtggffhmdgceljaaGreatDoor

/-
  Contracts of the checks of a ratio, of a vector and of a direction, of the program and of the reference: both answer the same, for all integers.
-/
namespace Go.Proofs.YtggffhmdgceljaaGreatDoor
open Go.RowKit
set_option linter.unusedVariables false
set_option linter.unusedSimpArgs false

def vectorErr (x y z : Int) : Int := firstNZ [rangeErr x (-1048576) 1048576, rangeErr y (-1048576) 1048576, rangeErr z (-1048576) 1048576]
def directionErr (x y z : Int) : Int := firstNZ [vectorErr x y z, if x = 0 ∧ y = 0 ∧ z = 0 then 6 else 0]

end Go.Proofs.YtggffhmdgceljaaGreatDoor

/-
  Contracts of the program's checks of a vector and of a direction, for all integers.
-/
namespace Go.Proofs.YtggffhmdgceljaaGreatDoor
open Go.RowKit
set_option linter.unusedVariables false
set_option linter.unusedSimpArgs false

set_option maxRecDepth 100000 in
set_option maxHeartbeats 1600000 in
theorem partsOf_any (x y z : Int) (w : World) :
    Calls Tryz.prog 45 #[.agg #[.int .i64 x, .int .i64 y, .int .i64 z]] w fun e w' => e = .returned (.agg #[.int .i64 x, .int .i64 y, .int .i64 z]) ∧ Below w.heap.size w w' := by
  go_enter Tryz.func45, Tryz.ntmps45
  go_wp2
  refine bodyPost_ret (v := .agg #[.int .i64 x, .int .i64 y, .int .i64 z]) (by simp [results, Tryz.results45, go_sem]) rfl ⟨rfl, ?_⟩
  first
    | exact ((Below.refl _ w).alloc (Nat.le_refl _) _).alloc (by simp) _
    | exact (((((Below.refl _ w).alloc (Nat.le_refl _) _).alloc (by simp) _).setCell (by simp) _).setCell (by simp) _).setCell (by simp) _

set_option maxRecDepth 100000 in
set_option maxHeartbeats 3200000 in
theorem checkVectorC_all (x y z : Int) (w : World) :
    Calls Tryz.prog 46 #[.agg #[.int .i64 x, .int .i64 y, .int .i64 z], .int .i64 1048576] w fun e w' => e = .returned (.int .i64 (vectorErr x y z)) ∧ Below w.heap.size w w' := by
  have i0 : ∀ w : World, (Instr.index 94 (.agg #[.int .i64 x, .int .i64 y, .int .i64 z]) (.int .i64 0)).run Tryz.prog w = .ok (.int .i64 x) w := fun _ => by kernel_rfl
  have i1 : ∀ w : World, (Instr.index 94 (.agg #[.int .i64 x, .int .i64 y, .int .i64 z]) (.int .i64 1)).run Tryz.prog w = .ok (.int .i64 y) w := fun _ => by kernel_rfl
  have i2 : ∀ w : World, (Instr.index 94 (.agg #[.int .i64 x, .int .i64 y, .int .i64 z]) (.int .i64 2)).run Tryz.prog w = .ok (.int .i64 z) w := fun _ => by kernel_rfl
  have KP := Lib.hid (partsOf_any x y z (w.alloc (.cells #[.int .i64 x, .int .i64 y, .int .i64 z] 23)))
  have HB0 : Hid (Below w.heap.size w (w.alloc (.cells #[.int .i64 x, .int .i64 y, .int .i64 z] 23))) := Lib.hid ((Below.refl _ w).alloc (Nat.le_refl _) _)
  obtain ⟨rx, hrx⟩ : ∃ rx : Int, rangeErr x (-1048576) 1048576 = rx := ⟨_, rfl⟩
  have Kx : Hid (∀ w, Calls Tryz.prog 54 #[.int .i64 x, .int .i64 (-1048576), .int .i64 1048576] w fun e w' => e = .returned (.int .i64 rx) ∧ w = w') := Lib.hid fun w => by
    have h := checkRange_any x (-1048576) 1048576 w
    rwa [hrx] at h
  obtain ⟨ry, hry⟩ : ∃ ry : Int, rangeErr y (-1048576) 1048576 = ry := ⟨_, rfl⟩
  have Ky : Hid (∀ w, Calls Tryz.prog 54 #[.int .i64 y, .int .i64 (-1048576), .int .i64 1048576] w fun e w' => e = .returned (.int .i64 ry) ∧ w = w') := Lib.hid fun w => by
    have h := checkRange_any y (-1048576) 1048576 w
    rwa [hry] at h
  obtain ⟨rz, hrz⟩ : ∃ rz : Int, rangeErr z (-1048576) 1048576 = rz := ⟨_, rfl⟩
  have Kz : Hid (∀ w, Calls Tryz.prog 54 #[.int .i64 z, .int .i64 (-1048576), .int .i64 1048576] w fun e w' => e = .returned (.int .i64 rz) ∧ w = w') := Lib.hid fun w => by
    have h := checkRange_any z (-1048576) 1048576 w
    rwa [hrz] at h
  have hE : vectorErr x y z = firstNZ [rx, ry, rz] := by unfold vectorErr; rw [hrx, hry, hrz]
  rw [hE]
  clear hE hrx hry hrz
  by_cases hx : rx = 0
  · by_cases hy : ry = 0
    · by_cases hz : rz = 0
      ·
        subst hx
        subst hy
        subst hz
        rw [show firstNZ [0, 0, 0] = 0 from rfl]
        go_enter Tryz.func46, Tryz.ntmps46
        go_wp2_with (go_at_call 45; refine KP.out.mono ?_; rintro e w1 ⟨rfl, hb1⟩)
        refine wp_loop_rounds 4 ?_
        rw [rounds_succ]
        go_wp2_with (go_at_call 54; refine (Kx.out _).mono ?_; rintro e w9 ⟨rfl, rfl⟩)
        rw [rounds_succ]
        go_wp2_with (go_at_call 54; refine (Ky.out _).mono ?_; rintro e w9 ⟨rfl, rfl⟩)
        rw [rounds_succ]
        go_wp2_with (go_at_call 54; refine (Kz.out _).mono ?_; rintro e w9 ⟨rfl, rfl⟩)
        rw [rounds_succ]
        go_wp2_with fail
        go_ret
        exact ⟨rfl, HB0.out.trans (hb1.mono HB0.out.size)⟩
      ·
        subst hx
        subst hy
        have ez : (rz != 0) = true := by simp [hz]
        rw [show firstNZ [0, 0, rz] = rz from by simp [firstNZ, hz]]
        clear hz
        go_enter Tryz.func46, Tryz.ntmps46
        go_wp2_with (go_at_call 45; refine KP.out.mono ?_; rintro e w1 ⟨rfl, hb1⟩)
        refine wp_loop_rounds 3 ?_
        rw [rounds_succ]
        go_wp2_with (go_at_call 54; refine (Kx.out _).mono ?_; rintro e w9 ⟨rfl, rfl⟩)
        rw [rounds_succ]
        go_wp2_with (go_at_call 54; refine (Ky.out _).mono ?_; rintro e w9 ⟨rfl, rfl⟩)
        rw [rounds_succ]
        go_wp2_with (go_at_call 54; refine (Kz.out _).mono ?_; rintro e w9 ⟨rfl, rfl⟩)
        go_ret
        exact ⟨rfl, HB0.out.trans (hb1.mono HB0.out.size)⟩
    ·
      subst hx
      have ey : (ry != 0) = true := by simp [hy]
      rw [show firstNZ [0, ry, rz] = ry from by simp [firstNZ, hy]]
      clear hy
      go_enter Tryz.func46, Tryz.ntmps46
      go_wp2_with (go_at_call 45; refine KP.out.mono ?_; rintro e w1 ⟨rfl, hb1⟩)
      refine wp_loop_rounds 2 ?_
      rw [rounds_succ]
      go_wp2_with (go_at_call 54; refine (Kx.out _).mono ?_; rintro e w9 ⟨rfl, rfl⟩)
      rw [rounds_succ]
      go_wp2_with (go_at_call 54; refine (Ky.out _).mono ?_; rintro e w9 ⟨rfl, rfl⟩)
      go_ret
      exact ⟨rfl, HB0.out.trans (hb1.mono HB0.out.size)⟩
  ·
    have ex : (rx != 0) = true := by simp [hx]
    rw [show firstNZ [rx, ry, rz] = rx from by simp [firstNZ, hx]]
    clear hx
    go_enter Tryz.func46, Tryz.ntmps46
    go_wp2_with (go_at_call 45; refine KP.out.mono ?_; rintro e w1 ⟨rfl, hb1⟩)
    refine wp_loop_rounds 1 ?_
    rw [rounds_succ]
    go_wp2_with (go_at_call 54; refine (Kx.out _).mono ?_; rintro e w9 ⟨rfl, rfl⟩)
    go_ret
    exact ⟨rfl, HB0.out.trans (hb1.mono HB0.out.size)⟩
end Go.Proofs.YtggffhmdgceljaaGreatDoor
