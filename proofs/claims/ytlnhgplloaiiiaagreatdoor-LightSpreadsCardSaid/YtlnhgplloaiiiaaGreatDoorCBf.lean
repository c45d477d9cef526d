/-
  Contracts of the reference's Total and Level of a right map, and of number.
-/
import Derived.Test.YtlnhgplloaiiiaaGreatDoorCXe
import Derived.BigQuiet
namespace Go.Proofs.YtlnhgplloaiiiaaGreatDoor
open Go.RowKit
set_option linter.unusedVariables false
set_option linter.unusedSimpArgs false

set_option maxRecDepth 100000 in
set_option maxHeartbeats 3200000 in
theorem refTotal_any (W H : Int) (b o n c : Nat) (xs : List Nat) (ks : List Int) (w : World) (hw : RightMap w W H b o n xs ks) (hb : b < w.heap.size) :
    Calls Tryz.prog 37 #[.agg #[.int .i64 W, .int .i64 H, .slice (some ⟨b, o, none⟩) n c]] w fun e w' => e = .returned (.int .i64 ks.sum) ∧ Below w.heap.size w w' := by
  have HBD := Lib.hid (sum_take_bd hw.lenk hw.sizes)
  have hsm := hw.small
  have HW := Lib.hid hw
  clear hw
  go_enter Tryz.func37, Tryz.ntmps37
  go_wp2
  go_loop [3, 4] (fun x i => ∃ k : Nat, k ≤ n ∧ i = .int .i64 k ∧ x = .int .i64 (ks.take k).sum) (fun _ i => n - (intOf i).toNat)
  case atStart => exact ⟨0, Nat.zero_le _, rfl, rfl⟩
  case round =>
    obtain ⟨k, hk, rfl, rfl⟩ := hrel
    have hbd := HBD.out k hk
    by_cases hlt : k < n
    · have hcell := HW.out.cells k hlt
      have hz := HW.out.sizes k hlt
      have HS := Lib.hid (sum_take_succ ks k (by have := HW.out.lenk; omega))
      have K := Lib.hid (HW.out.smps k hlt)
      have K2 := Lib.hid (Nat.lt_of_le_of_lt hz (show 16384 < 2 ^ 40 by decide))
      have hb3 : -67108864 ≤ (ks.take k).sum ∧ (ks.take k).sum ≤ 67108864 := by
        have : 16384 * k ≤ 67108864 := by omega
        omega
      clear hbd
      go_wp2_with (go_at_call 111; refine (sixteenths_any _ _ K.out K2.out _).mono ?_; rintro e w' ⟨rfl, rfl⟩)
      go_round
      case rel => exact ⟨k + 1, by omega, by go_num, by rw [HS.out]⟩
      case measure => simp [intOf]; omega
    · go_wp2
      go_ret
      obtain rfl : k = n := by omega
      exact ⟨by rw [List.take_of_length_le (by have := HW.out.lenk; omega)]; rfl, (Below.refl _ w).alloc (Nat.le_refl _) _⟩

set_option maxRecDepth 100000 in
set_option maxHeartbeats 3200000 in
theorem refLevel_any (W H : Nat) (b o n c : Nat) (xs : List Nat) (ks : List Int) (w : World) (hw : RightMap w W H b o n xs ks) (hb : b < w.heap.size) (X Y : Nat) (hX : X < W) (hY : Y < H) :
    Calls Tryz.prog 40 #[.agg #[.int .i64 W, .int .i64 H, .slice (some ⟨b, o, none⟩) n c], .int .i64 X, .int .i64 Y] w fun e w' => e = .returned (.int .i64 (ks[Y * W + X]?.getD 0)) ∧ Below w.heap.size w w' := by
  have hW := hw.wid
  have hH := hw.hei
  have hN : W * H = n := by have := hw.area; exact_mod_cast this
  have hlt : Y * W + X < n := idx_lt (p := (X, Y)) hX hY hN
  have hsm := hw.small
  have hcell := hw.cells _ hlt
  have K := Lib.hid (hw.smps _ hlt)
  have K2 := Lib.hid (Nat.lt_of_le_of_lt (hw.sizes _ hlt) (show 16384 < 2 ^ 40 by decide))
  have m1 : Y * W ≤ 64 * 64 := Nat.mul_le_mul (by omega) (by omega)
  have e2 : (Y : Int) * (W : Int) = ((Y * W : Nat) : Int) := by push_cast; rfl
  have w2 : IntKind.wrap .i64 (((Y * W : Nat) : Int)) = ((Y * W : Nat) : Int) := IntWalk.i64_in _ (by omega)
  have e1 : (((Y * W : Nat) : Int) + (X : Int)) = ((Y * W + X : Nat) : Int) := by push_cast; rfl
  clear hw
  have t1 : ((X : Int) < 0) = False := by simp
  have t2 : ((W : Int) ≤ (X : Int)) = False := by simp; omega
  have t3 : ((Y : Int) < 0) = False := by simp
  have t4 : ((H : Int) ≤ (Y : Int)) = False := by simp; omega
  generalize hp : Y * W + X = P at *
  have w1 : IntKind.wrap .i64 (P : Int) = (P : Int) := IntWalk.i64_in _ (by omega)
  generalize hq : Y * W = Q at *
  go_enter Tryz.func40, Tryz.ntmps40
  go_wp2_with (go_at_call 111; refine (sixteenths_any _ _ K.out K2.out _).mono ?_; rintro e w' ⟨rfl, rfl⟩)
  go_ret
  exact ⟨rfl, (Below.refl _ w).alloc (Nat.le_refl _) _⟩

set_option maxHeartbeats 800000 in
theorem number_same (v r : Int) (w : World) :
    Calls Tryz.prog 42 #[.int .i64 (if r = 0 then v else 0), .int .i64 r, .int .i64 r, .int .i64 (if r = 0 then v else 0)] w fun e w' => e = .returned (.bool true) ∧ w = w' := by
  by_cases h : r = 0
  · subst h
    simp only [if_true]
    go_enter Tryz.func42, Tryz.ntmps42
    go_wp2
    go_ret
    exact ⟨rfl, rfl⟩
  · have e0 : (r != 0) = true := by simp [h]
    have e1 : (r == r) = true := by simp
    rw [if_neg h]
    clear h
    go_enter Tryz.func42, Tryz.ntmps42
    go_wp2
    go_ret
    exact ⟨rfl, rfl⟩
end Go.Proofs.YtlnhgplloaiiiaaGreatDoor
