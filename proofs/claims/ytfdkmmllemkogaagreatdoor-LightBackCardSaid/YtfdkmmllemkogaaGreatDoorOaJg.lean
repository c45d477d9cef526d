/-
  Contract of the reference's Unpack for any bytes, in parts: the loop over the samples.
-/
import Derived.Deep.QuietTactic
import Derived.BigQuiet
import Derived.Deep.AppendLies
import Derived.Deep.RegionHeldLaw
import Derived.Deep.RegionLaw
import Derived.Test.YtfdkmmllemkogaaGreatDoorOaJd
namespace Go.Proofs.YtfdkmmllemkogaaGreatDoor
open Go.RowKit
set_option linter.unusedVariables false
set_option linter.unusedSimpArgs false

def mzB (xs : List Nat) : Bool := xs.any (· == 2147483648)
theorem mzB_err (xs : List Nat) : firstNZ (xs.map zeroErr) = if mzB xs then 1 else 0 := by
  induction xs with
  | nil => rfl
  | cons x xs ih =>
    simp only [List.map_cons, firstNZ]
    by_cases h : x = 2147483648
    · simp [zeroErr, mzB, h]
    · have hz : zeroErr x = 0 := by simp [zeroErr, h]
      rw [hz]
      simp only [ne_eq, not_true_eq_false, if_false, ih]
      have : mzB (x :: xs) = mzB xs := by simp [mzB, h]
      rw [this]

theorem run_from32 (d : Nat) : ∀ w : World, (callFunc 180 #[.int .u32 d]).run Tryz.prog w = .ok (.value (.float .f32 d)) w := fun w => by
  have h : ∀ w : World, (callFunc 180 #[.int .u32 d]).run Tryz.prog w = .ok (.value (.float .f32 (d : Int).toNat)) w := fun w => by kernel_rfl
  rw [Int.toNat_natCast] at h
  exact h w

end Go.Proofs.YtfdkmmllemkogaaGreatDoor
