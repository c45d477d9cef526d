/-
  Contracts of rounded, of Scaled's literal, of mapped with it, and of Scaled for a right map whose scaled integers are in range.
-/
import Derived.Test.YtljfdmoknkhekaaGreatDoorCZa
import Derived.Test.YtljfdmoknkhekaaGreatDoorCXc
namespace Go.Proofs.YtljfdmoknkhekaaGreatDoor
open Go.RowKit
set_option linter.unusedVariables false

/-- The nearest integer of a quotient, from the middle the greater one. -/
def roundK (a b : Int) : Int := (2 * a + b) / (2 * b)

set_option maxHeartbeats 1600000 in
theorem rounded_any (a b : Int) (h0 : -1073741824 ≤ a) (h1 : a ≤ 1073741824) (h2 : 1 ≤ b) (h3 : b ≤ 1073741824) (w : World) :
    Calls Tryz.prog 85 #[.int .i64 a, .int .i64 b] w fun e w' => e = .returned (.int .i64 (roundK a b)) ∧ w = w' := by
  have K : Hid (∀ w1 : World, Calls Tryz.prog 88 #[.int .i64 (2 * a + b), .int .i64 (2 * b)] w1 fun e w' => e = .returned (.int .i64 (roundK a b)) ∧ w1 = w') := Lib.hid fun w1 =>
    lowered_any (2 * a + b) (2 * b) (by omega) (by omega) (by omega) (by omega) w1
  have i1 : IntKind.i64.wrap (2 * a) = 2 * a := IntWalk.i64_in _ ⟨by omega, by omega⟩
  have i2 : IntKind.i64.wrap (2 * a + b) = 2 * a + b := IntWalk.i64_in _ ⟨by omega, by omega⟩
  have i3 : IntKind.i64.wrap (2 * b) = 2 * b := IntWalk.i64_in _ ⟨by omega, by omega⟩
  go_enter Tryz.func85, Tryz.ntmps85
  go_wp2_with (go_at_call 88; refine (K.out _).mono ?_; rintro e w' ⟨rfl, rfl⟩)
  go_ret
  exact ⟨rfl, rfl⟩

set_option maxHeartbeats 1600000 in
theorem scaledlit_any (k num den : Int) (hk : k.natAbs ≤ 16384) (hn : -1000 ≤ num ∧ num ≤ 1000) (hd : 1 ≤ den ∧ den ≤ 1000) (g4 g5 : Nat) (w : World) (h4 : w.cell? ⟨g4, 0, none⟩ = some (.int .i64 num)) (h5 : w.cell? ⟨g5, 0, none⟩ = some (.int .i64 den)) :
    Calls Tryz.prog 84 #[.int .i64 k, .pointer (some ⟨g4, 0, none⟩), .pointer (some ⟨g5, 0, none⟩)] w fun e w' => e = .returned (.int .i64 (roundK (k * num) den)) ∧ w = w' := by
  have hb : (k * num).natAbs ≤ 16384 * 1000 := by rw [Int.natAbs_mul]; exact Nat.mul_le_mul hk (by omega)
  have K : Hid (∀ w1 : World, Calls Tryz.prog 85 #[.int .i64 (k * num), .int .i64 den] w1 fun e w' => e = .returned (.int .i64 (roundK (k * num) den)) ∧ w1 = w') := Lib.hid fun w1 =>
    rounded_any _ _ (by omega) (by omega) (by omega) (by omega) w1
  have i1 : IntKind.i64.wrap (k * num) = k * num := IntWalk.i64_in _ ⟨by omega, by omega⟩
  clear hb
  go_enter Tryz.func84, Tryz.ntmps84
  go_wp2_with (go_at_call 85; refine (K.out _).mono ?_; rintro e w' ⟨rfl, rfl⟩)
  go_ret
  exact ⟨rfl, rfl⟩

set_option maxHeartbeats 2000000 in
set_option maxRecDepth 100000 in
theorem mapped_scaled {w : World} (b o n c : Nat) (ks : List Int) (num den : Int) (hnum : -1000 ≤ num ∧ num ≤ 1000) (hden : 1 ≤ den ∧ den ≤ 1000) (g4 g5 : Nat) (hk : ks.length = n) (hn : n ≤ 4096) (hb : b < w.heap.size) (l4 : g4 < w.heap.size) (l5 : g5 < w.heap.size)
    (h4 : w.cell? ⟨g4, 0, none⟩ = some (.int .i64 num)) (h5 : w.cell? ⟨g5, 0, none⟩ = some (.int .i64 den))
    (hc : ∀ j, j < n → w.cell? ⟨b, o + j, none⟩ = some (.int .i64 (ks[j]?.getD 0))) (hs : ∀ j, j < n → (ks[j]?.getD 0).natAbs ≤ 16384) :
    Calls Tryz.prog 83 #[.slice (some ⟨b, o, none⟩) n c, .func (.func 84) #[] #[.pointer (some ⟨g4, 0, none⟩), .pointer (some ⟨g5, 0, none⟩)]] w fun e w' =>
      e = .returned (.slice (some ⟨w.heap.size, 0, none⟩) n n) ∧ w'.ownsRow w.heap.size 3 1 (.slice (some ⟨w.heap.size, 0, none⟩) n n) n (ks.map (fun k : Int => Value.int .i64 (roundK (k * num) den))) ∧ Below w.heap.size w w' := by
  obtain ⟨i0, hi, hz0, hz1, hz2⟩ := info_parts Tryz.infoInt
  have Hk := Lib.hid hk
  have Hc := Lib.hid hc
  have Hs := Lib.hid hs
  clear hk hc hs
  go_enter Tryz.func83, Tryz.ntmps83
  go_wp2_with (at_make; refine wpList_make_own _ rfl _ _ 104 rfl w.heap.size 3 i0 (.int .i64 0) 1 Tryz.underlying104 hi hz0 hz1 _ _ _ n rfl rfl (by omega) ?b2 ?b3 (Nat.le_refl _) ?_)
  case b2 => rw [hz2]; omega
  case b3 => unfold maxLen; omega
  intro w0 hown0 hgrow0
  go_wp2
  go_loopw [5, 13] (fun out i wr => ∃ k : Nat, k ≤ n ∧ i = .int .i64 k ∧ out = .slice (some ⟨w.heap.size, 0, none⟩) k n ∧
      wr.ownsRow w.heap.size 3 1 (.slice (some ⟨w.heap.size, 0, none⟩) k n) k ((ks.take k).map (fun k : Int => Value.int .i64 (roundK (k * num) den))) ∧ Below w.heap.size w wr)
    (fun _ i _ => n - (intOf i).toNat)
  case atStart => exact ⟨0, Nat.zero_le _, rfl, rfl, hown0, (Below.refl _ _).grown hgrow0 (Nat.le_refl _) (fun k h => by cases h)⟩
  case round =>
    obtain ⟨k, hk, rfl, rfl, hown, hnx⟩ := hrel
    by_cases hlt : k < n
    · have hcell : wr.cell? ⟨b, o + k, none⟩ = some (.int .i64 (ks[k]?.getD 0)) := (hnx.cell (by exact hb)).trans (Hc.out k hlt)
      have K := Lib.hid (scaledlit_any (ks[k]?.getD 0) num den (Hs.out k hlt) hnum hden g4 g5 wr ((hnx.cell (by exact l4)).trans h4) ((hnx.cell (by exact l5)).trans h5))
      have hsz := hnx.size
      go_wp2_with (first
        | (go_at_call 84; refine K.out.mono ?_; rintro e w' ⟨rfl, rfl⟩)
        | (at_builtin; refine wpList_append_fits _ rfl (.tmp 17) (.tmp 21) 104 rfl w.heap.size 3 i0 1 Tryz.underlying104 hi hz1 w.heap.size k n _ rfl (hown.alloc _) ⟨wr.heap.size, 0, none⟩ 1 1 [.int .i64 (roundK ((ks[k]?.getD 0) * num) den)] rfl rfl (cell_one_new _ _ _) (by intro u hu; simp at hu; subst hu; rfl) (by omega) ?_; intro w1 hown1 hgrow1))
      go_roundw
      case rel => exact ⟨k + 1, by omega, by go_num, rfl, by rw [take_map_succ (fun k : Int => Value.int .i64 (roundK (k * num) den)) ks k (by have := Hk.out; omega) 0]; exact hown1, (hnx.alloc hnx.size _).grown hgrow1 (by simp; omega) (fun j hj => by cases hj; exact Nat.le_refl _)⟩
      case measure => simp [intOf]; omega
    · go_wp2
      go_ret
      obtain rfl : k = n := by omega
      rw [List.take_of_length_le (by have := Hk.out; omega)] at hown
      exact ⟨rfl, hown, hnx⟩
end Go.Proofs.YtljfdmoknkhekaaGreatDoor
