/-
  Contract of emberSmall at 36 samples up to 1024: it returns a bool; if it is true the map is right and has at most 36 samples.
-/
import Derived.Test.YtnlbgikhkpalcaaCWl
namespace Go.Proofs.Ytnlbgikhkpalcaa
open Go.RowKit
set_option linter.unusedVariables false

def SmallPost (w : World) (W H : Int) (n : Nat) (xs : List Nat) (e : Ending) (w' : World) : Prop :=
  ∃ r : Bool, e = .returned (.bool r) ∧ (r = true → RightSays W H n xs ∧ n ≤ 36) ∧ Below w.heap.size w w'

set_option maxRecDepth 100000 in
set_option maxHeartbeats 3200000 in
theorem emberSmall_any {w : World} (W H : Int) (a : Option Addr) (n c : Nat) (xs : List Nat)
    (hs : ∀ j, j < n → ∃ b o, a = some ⟨b, o, none⟩ ∧ b < w.heap.size ∧ ∀ j, j < n → w.cell? ⟨b, o + j, none⟩ = some (.float .f32 (xs[j]?.getD 0))) (hm : n ≤ 4611686018427387904) :
    Calls Try.prog 4 #[.agg #[.int .i64 W, .int .i64 H, .slice a n c], .int .i64 36, .float .f32 1149239296] w (SmallPost w W H n xs) := by
  by_cases h36 : n ≤ 36
  · have t1 : ((36 : Int) < (n : Int)) = False := by simp; omega
    have K : ∀ w1 : World, Below w.heap.size w w1 → Calls Try.prog 17 #[.agg #[.int .i64 W, .int .i64 H, .slice a n c]] w1 fun e w' => ∃ r, e = .returned (.int .i64 r) ∧ Hid (r = 0 → RightSays W H n xs) ∧ Below w1.heap.size w1 w' := fun w1 h =>
      refCheckMap_any W H a n c xs (by omega) w1 (fun j hj => by
        obtain ⟨b, o, ha, hb, hc⟩ := hs j hj
        exact ⟨b, o, ha, by have := h.size; omega, fun j hj => (h.cell (by exact hb)).trans (hc j hj)⟩)
    have HK := Lib.hid K
    have Hs := Lib.hid hs
    clear K hs
    go_enter Try.func4, Try.ntmps4
    go_wp2_with fail
    refine (HK.out _ ?_).mono ?_
    · exact (Below.refl _ w).alloc (Nat.le_refl _) _
    rintro e w1 ⟨r, rfl, hr, hb1⟩
    have hB : Below w.heap.size w w1 := ((Below.refl _ w).alloc (Nat.le_refl _) _).trans (hb1.mono (by simp))
    have s2 : w1.cell? ⟨w.heap.size, 2, none⟩ = some (.slice a n c) := by rw [hb1.cell (by simp)]; simp [go_sem]
    have HB := Lib.hid hB
    clear hb1 hB
    by_cases h0 : r = 0
    · have e0 : (r != 0) = false := by simp [h0]
      have H0 := Lib.hid h0
      clear h0
      go_wp2
      go_loop [22] (fun i => ∃ k : Nat, k ≤ n ∧ i = .int .i64 k) (fun i => n - (intOf i).toNat)
      case atStart => exact ⟨0, Nat.zero_le _, rfl⟩
      case round =>
        obtain ⟨k, hk, rfl⟩ := hrel
        by_cases hlt : k < n
        · obtain ⟨b, o, rfl, hb, hc⟩ := Hs.out k hlt
          have hcell : w1.cell? ⟨b, o + k, none⟩ = some (.float .f32 (xs[k]?.getD 0)) := (HB.out.cell (p := ⟨b, o + k, none⟩) hb).trans (hc k hlt)
          clear hc Hs
          have hun : ∀ w : World, (Op.unary .neg (.float .f32 1149239296)).run Try.prog w = .ok (.float .f32 3296722944) w := fun w => by kernel_rfl
          go_wp2
          all_goals first
            | (go_ret; exact ⟨false, rfl, fun h => (by cases h), HB.out⟩)
            | (go_round
               case rel => exact ⟨k + 1, by omega, by go_num⟩
               case measure => simp [intOf]; omega)
        · go_wp2
          go_ret
          exact ⟨true, rfl, fun _ => ⟨hr.out H0.out, h36⟩, HB.out⟩
    · have e0 : (r != 0) = true := by simp [h0]
      clear h0
      go_wp2
      go_ret
      exact ⟨false, rfl, fun h => (by cases h), HB.out⟩
  · have t1 : (36 : Int) < (n : Int) := by omega
    go_enter Try.func4, Try.ntmps4
    go_wp2
    go_ret
    exact ⟨false, rfl, fun h => (by cases h), (Below.refl _ w).alloc (Nat.le_refl _) _⟩
end Go.Proofs.Ytnlbgikhkpalcaa
