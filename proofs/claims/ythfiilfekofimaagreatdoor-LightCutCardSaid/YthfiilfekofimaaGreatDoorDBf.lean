/-
  Contracts of the reference's Total and Level of a right map, and of number.
-/
import Derived.Test.YthfiilfekofimaaGreatDoorDBc
import Derived.BigQuiet
namespace Go.Proofs.YthfiilfekofimaaGreatDoor
open Go.RowKit
set_option linter.unusedVariables false
set_option linter.unusedSimpArgs false

set_option maxRecDepth 100000 in
set_option maxHeartbeats 3200000 in
theorem refLevel_any (W H : Nat) (b o n c : Nat) (xs : List Nat) (ks : List Int) (w : World) (hw : RightMap w W H b o n xs ks) (hb : b < w.heap.size) (X Y : Nat) (hX : X < W) (hY : Y < H) :
    Calls Tryz.prog 83 #[.agg #[.int .i64 W, .int .i64 H, .slice (some ⟨b, o, none⟩) n c], .int .i64 X, .int .i64 Y] w fun e w' => e = .returned (.int .i64 (ks[Y * W + X]?.getD 0)) ∧ Below w.heap.size w w' := by
  have hW := hw.wid
  have hH := hw.hei
  have hN : W * H = n := by have := hw.area; exact_mod_cast this
  have hlt : Y * W + X < n := idx_lt (p := (X, Y)) hX hY hN
  have hsm := hw.small
  have hcell := hw.cells _ hlt
  have K := Lib.hid (hw.smps _ hlt)
  have K2 := Lib.hid (Nat.lt_of_le_of_lt (hw.sizes _ hlt) (show 16384 < 2 ^ 40 by decide))
  have m1 : Y * W ≤ 64 * 64 := Nat.mul_le_mul (by omega) (by omega)
  have e2 : (Y : Int) * (W : Int) = ((Y * W : Nat) : Int) := by push_cast; rfl
  have w2 : IntKind.wrap .i64 (((Y * W : Nat) : Int)) = ((Y * W : Nat) : Int) := IntWalk.i64_in _ (by omega)
  have e1 : (((Y * W : Nat) : Int) + (X : Int)) = ((Y * W + X : Nat) : Int) := by push_cast; rfl
  clear hw
  have t1 : ((X : Int) < 0) = False := by simp
  have t2 : ((W : Int) ≤ (X : Int)) = False := by simp; omega
  have t3 : ((Y : Int) < 0) = False := by simp
  have t4 : ((H : Int) ≤ (Y : Int)) = False := by simp; omega
  generalize hp : Y * W + X = P at *
  have w1 : IntKind.wrap .i64 (P : Int) = (P : Int) := IntWalk.i64_in _ (by omega)
  generalize hq : Y * W = Q at *
  go_enter Tryz.func83, Tryz.ntmps83
  go_wp2_with (go_at_call 35; refine (sixteenths_any _ _ K.out K2.out _).mono ?_; rintro e w' ⟨rfl, rfl⟩)
  go_ret
  exact ⟨rfl, (Below.refl _ w).alloc (Nat.le_refl _) _⟩

end Go.Proofs.YthfiilfekofimaaGreatDoor
