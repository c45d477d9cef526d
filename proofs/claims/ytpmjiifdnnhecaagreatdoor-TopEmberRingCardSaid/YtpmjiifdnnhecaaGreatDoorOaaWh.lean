/-
  Contracts of the reference's check of a map, for any map with at most 4096 samples: if it returns 0 the map is right.
-/
import Derived.Test.YtpmjiifdnnhecaaGreatDoorOaaWf
namespace Go.Proofs.YtpmjiifdnnhecaaGreatDoor
open Go.RowKit
set_option linter.unusedVariables false

theorem float1024 : floatOfInt .f32 1024 = 1149239296 := by decide +kernel
theorem sub1024 : floatBits .sub .f32 0 1149239296 = some 3296722944 := by decide +kernel

/-- All words are samples'. -/
def AllSmp (n : Nat) (xs : List Nat) : Prop := ∀ j, j < n → ∃ k, Smp (xs[j]?.getD 0) k ∧ k.natAbs ≤ 16384

end Go.Proofs.YtpmjiifdnnhecaaGreatDoor

/-
  Contract of the reference's CheckMap for any map with at most 4096 samples: if it returns 0 the map is right.
-/

namespace Go.Proofs.YtpmjiifdnnhecaaGreatDoor
open Go.RowKit
set_option linter.unusedVariables false

theorem firstNZ_two {a b : Int} (h : firstNZ [a, b] = 0) : a = 0 ∧ b = 0 := by
  unfold firstNZ at h
  split at h
  · rename_i ha; exact absurd h ha
  · rename_i ha
    unfold firstNZ at h
    split at h
    · rename_i hb; exact absurd h hb
    · exact ⟨by omega, by omega⟩

def RightSays (W H : Int) (n : Nat) (xs : List Nat) : Prop := 1 ≤ W ∧ W ≤ 64 ∧ 1 ≤ H ∧ H ≤ 64 ∧ W * H = n ∧ AllSmp n xs

end Go.Proofs.YtpmjiifdnnhecaaGreatDoor

/-
  Contracts of the reference's comparisons of two slices: equal ones are told as equal.
-/

namespace Go.Proofs.YtpmjiifdnnhecaaGreatDoor
open Go.RowKit
set_option linter.unusedVariables false

theorem order_eq_neq {x y : Nat} {k : Int} (hx : Smp x k) (hy : Smp y k) : (FloatKind.f32.format.order x y != some .eq) = false := by
  have h : Ieee.single.order x y = some (compare k k) := hx.order hy
  have e : compare k k = .eq := by
    show compareOfLessAndEq k k = .eq
    unfold compareOfLessAndEq; simp
  show (Ieee.single.order x y != some .eq) = false
  rw [h, e]; rfl

set_option maxRecDepth 100000 in
set_option maxHeartbeats 3200000 in
theorem sameSamples_any {w : World} (b o c b' o' c' n : Nat) (xs ys : List Nat) (ks : List Int) (hm : n ≤ 4096) (hb : b < w.heap.size) (hb' : b' < w.heap.size)
    (hc : ∀ j, j < n → w.cell? ⟨b, o + j, none⟩ = some (.float .f32 (xs[j]?.getD 0))) (hc' : ∀ j, j < n → w.cell? ⟨b', o' + j, none⟩ = some (.float .f32 (ys[j]?.getD 0)))
    (hx : ∀ j, j < n → Smp (xs[j]?.getD 0) (ks[j]?.getD 0)) (hy : ∀ j, j < n → Smp (ys[j]?.getD 0) (ks[j]?.getD 0)) :
    Calls Tryz.prog 133 #[.slice (some ⟨b, o, none⟩) n c, .slice (some ⟨b', o', none⟩) n c'] w fun e w' => e = .returned (.bool true) ∧ Below w.heap.size w w' := by
  have Hc := Lib.hid hc
  have Hc' := Lib.hid hc'
  have Hx := Lib.hid hx
  have Hy := Lib.hid hy
  have e0 : ((n : Int) != n) = false := by simp
  clear hc hc' hx hy
  go_enter Tryz.func133, Tryz.ntmps133
  go_wp2
  go_loopw [5] (fun i wr => ∃ k : Nat, k ≤ n ∧ i = .int .i64 k ∧ Below w.heap.size w wr) (fun i _ => n - (intOf i).toNat)
  case atStart => exact ⟨0, Nat.zero_le _, rfl, Below.refl _ _⟩
  case round =>
    obtain ⟨k, hk, rfl, hnx⟩ := hrel
    by_cases hlt : k < n
    · have h1 : wr.cell? ⟨b, o + k, none⟩ = some (.float .f32 (xs[k]?.getD 0)) := (hnx.cell (by exact hb)).trans (Hc.out k hlt)
      have h2 : wr.cell? ⟨b', o' + k, none⟩ = some (.float .f32 (ys[k]?.getD 0)) := (hnx.cell (by exact hb')).trans (Hc'.out k hlt)
      have h3 := order_eq_neq (Hx.out k hlt) (Hy.out k hlt)
      have h4 : (k : Int) < (n : Int) := by omega
      have h5 : (0 : Int) ≤ (k : Int) := by omega
      go_wp2_with fail
      go_quiet (fail)
      go_wp2
      go_roundw
      case rel => exact ⟨k + 1, by omega, by go_num, below_drewN hnx _⟩
      case measure => simp [intOf]; omega
    · go_wp2
      go_ret
      exact ⟨rfl, hnx⟩

end Go.Proofs.YtpmjiifdnnhecaaGreatDoor
