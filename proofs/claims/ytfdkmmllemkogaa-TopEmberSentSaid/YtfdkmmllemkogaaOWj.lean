/-
  Contracts of the reference's comparisons of two slices: equal ones are told as equal.
-/
import Derived.Test.YtfdkmmllemkogaaOWi
namespace Go.Proofs.Ytfdkmmllemkogaa
open Go.RowKit
set_option linter.unusedVariables false

theorem order_eq_neq {x y : Nat} {k : Int} (hx : Smp x k) (hy : Smp y k) : (FloatKind.f32.format.order x y != some .eq) = false := by
  have h : Ieee.single.order x y = some (compare k k) := hx.order hy
  have e : compare k k = .eq := by
    show compareOfLessAndEq k k = .eq
    unfold compareOfLessAndEq; simp
  show (Ieee.single.order x y != some .eq) = false
  rw [h, e]; rfl

set_option maxRecDepth 100000 in
set_option maxHeartbeats 3200000 in
theorem sameSamples_any {w : World} (b o c b' o' c' n : Nat) (xs ys : List Nat) (ks : List Int) (hm : n ≤ 4096) (hb : b < w.heap.size) (hb' : b' < w.heap.size)
    (hc : ∀ j, j < n → w.cell? ⟨b, o + j, none⟩ = some (.float .f32 (xs[j]?.getD 0))) (hc' : ∀ j, j < n → w.cell? ⟨b', o' + j, none⟩ = some (.float .f32 (ys[j]?.getD 0)))
    (hx : ∀ j, j < n → Smp (xs[j]?.getD 0) (ks[j]?.getD 0)) (hy : ∀ j, j < n → Smp (ys[j]?.getD 0) (ks[j]?.getD 0)) :
    Calls Try.prog 20 #[.slice (some ⟨b, o, none⟩) n c, .slice (some ⟨b', o', none⟩) n c'] w fun e w' => e = .returned (.bool true) ∧ Below w.heap.size w w' := by
  have Hc := Lib.hid hc
  have Hc' := Lib.hid hc'
  have Hx := Lib.hid hx
  have Hy := Lib.hid hy
  have e0 : ((n : Int) != n) = false := by simp
  clear hc hc' hx hy
  go_enter Try.func20, Try.ntmps20
  go_wp2
  go_loopw [5] (fun i wr => ∃ k : Nat, k ≤ n ∧ i = .int .i64 k ∧ Below w.heap.size w wr) (fun i _ => n - (intOf i).toNat)
  case atStart => exact ⟨0, Nat.zero_le _, rfl, Below.refl _ _⟩
  case round =>
    obtain ⟨k, hk, rfl, hnx⟩ := hrel
    by_cases hlt : k < n
    · have h1 : wr.cell? ⟨b, o + k, none⟩ = some (.float .f32 (xs[k]?.getD 0)) := (hnx.cell (by exact hb)).trans (Hc.out k hlt)
      have h2 : wr.cell? ⟨b', o' + k, none⟩ = some (.float .f32 (ys[k]?.getD 0)) := (hnx.cell (by exact hb')).trans (Hc'.out k hlt)
      have h3 := order_eq_neq (Hx.out k hlt) (Hy.out k hlt)
      have h4 : (k : Int) < (n : Int) := by omega
      have h5 : (0 : Int) ≤ (k : Int) := by omega
      go_wp2_with fail
      go_quiet (fail)
      go_wp2
      go_roundw
      case rel => exact ⟨k + 1, by omega, by go_num, below_drewN hnx _⟩
      case measure => simp [intOf]; omega
    · go_wp2
      go_ret
      exact ⟨rfl, hnx⟩

set_option maxRecDepth 100000 in
set_option maxHeartbeats 3200000 in
theorem sameInts_any {w : World} (a a' : Option Addr) (n c c' : Nat) (zs : List Int) (hm : n ≤ 4096)
    (hc : ∀ j, j < n → ∃ b o, a = some ⟨b, o, none⟩ ∧ b < w.heap.size ∧ w.cell? ⟨b, o + j, none⟩ = some (.int .i64 (zs[j]?.getD 0))) (hc' : ∀ j, j < n → ∃ b o, a' = some ⟨b, o, none⟩ ∧ b < w.heap.size ∧ w.cell? ⟨b, o + j, none⟩ = some (.int .i64 (zs[j]?.getD 0))) :
    Calls Try.prog 15 #[.slice a n c, .slice a' n c'] w fun e w' => e = .returned (.bool true) ∧ Below w.heap.size w w' := by
  have Hc := Lib.hid hc
  have Hc' := Lib.hid hc'
  have e0 : ((n : Int) != n) = false := by simp
  clear hc hc'
  go_enter Try.func15, Try.ntmps15
  go_wp2
  go_loopw [5] (fun i wr => ∃ k : Nat, k ≤ n ∧ i = .int .i64 k ∧ Below w.heap.size w wr) (fun i _ => n - (intOf i).toNat)
  case atStart => exact ⟨0, Nat.zero_le _, rfl, Below.refl _ _⟩
  case round =>
    obtain ⟨k, hk, rfl, hnx⟩ := hrel
    by_cases hlt : k < n
    · obtain ⟨b, o, rfl, hb, h1⟩ := Hc.out k hlt
      obtain ⟨b', o', rfl, hb', h2⟩ := Hc'.out k hlt
      replace h1 := (hnx.cell (p := ⟨b, o + k, none⟩) hb).trans h1
      replace h2 := (hnx.cell (p := ⟨b', o' + k, none⟩) hb').trans h2
      have h3 : (zs[k]?.getD 0 != zs[k]?.getD 0) = false := by simp
      have h4 : (k : Int) < (n : Int) := by omega
      have h5 : (0 : Int) ≤ (k : Int) := by omega
      clear Hc Hc'
      go_wp2_with fail
      go_quiet (fail)
      go_wp2
      go_roundw
      case rel => exact ⟨k + 1, by omega, by go_num, below_drewN hnx _⟩
      case measure => simp [intOf]; omega
    · go_wp2
      go_ret
      exact ⟨rfl, hnx⟩
end Go.Proofs.Ytfdkmmllemkogaa
