/-
  Contract of Total for a right map: the sum of its integers.
-/
import Derived.Test.YtnlbgikhkpalcaaCWe
import Derived.Test.YtnlbgikhkpalcaaCWa
namespace Go.Proofs.Ytnlbgikhkpalcaa
open Go.RowKit
set_option linter.unusedVariables false

theorem sum_take_succ (ks : List Int) (k : Nat) (hk : k < ks.length) : (ks.take (k + 1)).sum = (ks.take k).sum + ks[k]?.getD 0 := by
  rw [List.take_succ_eq_append_getElem hk, List.sum_append, List.getElem?_eq_getElem hk]; simp
theorem sum_take_bd {ks : List Int} {M : Nat} {n : Nat} (hl : ks.length = n) (h : ∀ j, j < n → (ks[j]?.getD 0).natAbs ≤ M) : ∀ k, k ≤ n → -((M * k : Nat) : Int) ≤ (ks.take k).sum ∧ (ks.take k).sum ≤ ((M * k : Nat) : Int)
  | 0, _ => by simp
  | k + 1, hk => by
    have ih := sum_take_bd hl h k (by omega)
    have hb := h k (by omega)
    rw [sum_take_succ ks k (by omega)]
    rw [Nat.mul_succ]
    push_cast at ih ⊢
    omega

set_option maxRecDepth 100000 in
set_option maxHeartbeats 3200000 in
theorem total_any (W H : Int) (b o n c : Nat) (xs : List Nat) (ks : List Int) (w : World) (hw : RightMap w W H b o n xs ks) (hb : b < w.heap.size) :
    Calls Try.prog 14 #[.agg #[.int .i64 W, .int .i64 H, .slice (some ⟨b, o, none⟩) n c]] w fun e w' => e = .returned (.tuple #[.int .i64 ks.sum, .int .i64 0]) ∧ Below w.heap.size w w' := by
  have K1 : Hid (∀ w1 : World, Below w.heap.size w w1 → Calls Try.prog 31 #[.agg #[.int .i64 W, .int .i64 H, .slice (some ⟨b, o, none⟩) n c]] w1 fun e w' => e = .returned (.int .i64 0) ∧ Below w1.heap.size w1 w') :=
    Lib.hid fun w1 h => checkMap_any W H b o n c xs ks w1 (hw.below h hb) (by have := h.size; omega)
  have K2 : Hid (∀ w1 : World, Below w.heap.size w w1 → Calls Try.prog 32 #[.agg #[.int .i64 W, .int .i64 H, .slice (some ⟨b, o, none⟩) n c]] w1 fun e w' =>
      e = .returned (.agg #[.int .i64 W, .int .i64 H, .slice (some ⟨w1.heap.size + 2, 0, none⟩) n n]) ∧ w'.ownsRow (w1.heap.size + 2) 3 1 (.slice (some ⟨w1.heap.size + 2, 0, none⟩) n n) n (ks.map (Value.int .i64)) ∧ Below w1.heap.size w1 w') :=
    Lib.hid fun w1 h => gridOf_any W H b o n c xs ks w1 (hw.below h hb).toWords (by have := h.size; omega)
  have hfld : ∀ (g : Nat) (w : World), (Instr.field 77 (.agg #[.int .i64 W, .int .i64 H, .slice (some ⟨g, 0, none⟩) n n]) 2).run Try.prog w = .ok (.slice (some ⟨g, 0, none⟩) n n) w := fun _ _ => by kernel_rfl
  have hsm := hw.small
  have HW := Lib.hid hw
  have HBD := Lib.hid (sum_take_bd hw.lenk hw.sizes)
  clear hw
  go_enter Try.func14, Try.ntmps14
  go_wp2_with (first
    | (go_at_call 31; refine (K1.out _ ((Below.refl _ w).alloc (Nat.le_refl _) _)).mono ?_; rintro e w1 ⟨rfl, hb1⟩
       have hs1 : w.heap.size + 1 ≤ w1.heap.size := by have := hb1.size; simpa using this
       have hB1 : Below w.heap.size w w1 := ((Below.refl _ w).alloc (Nat.le_refl _) _).trans (hb1.mono (by simp))
       have c0 : w1.cell? ⟨w.heap.size, 0, none⟩ = some (.int .i64 W) := by rw [hb1.cell (by simp)]; simp [go_sem]
       have c1 : w1.cell? ⟨w.heap.size, 1, none⟩ = some (.int .i64 H) := by rw [hb1.cell (by simp)]; simp [go_sem]
       have c2 : w1.cell? ⟨w.heap.size, 2, none⟩ = some (.slice (some ⟨b, o, none⟩) n c) := by rw [hb1.cell (by simp)]; simp [go_sem]
       have HB1 := Lib.hid hB1
       clear hb1 hB1)
    | (go_at_call 32; refine (K2.out _ HB1.out).mono ?_; rintro e w2 ⟨rfl, hown2, hb2⟩
       have HB2 := Lib.hid (HB1.out.trans (hb2.mono HB1.out.size))
       have HO2 := Lib.hid hown2
       clear hb2 hown2 c0 c1 c2))
  go_loop [5, 17] (fun x i => ∃ k : Nat, k ≤ n ∧ i = .int .i64 k ∧ x = .int .i64 (ks.take k).sum) (fun _ i => n - (intOf i).toNat)
  case atStart => exact ⟨0, Nat.zero_le _, rfl, rfl⟩
  case round =>
    obtain ⟨k, hk, rfl, rfl⟩ := hrel
    have hbd := HBD.out k hk
    by_cases hlt : k < n
    · have hcell : w2.cell? ⟨w1.heap.size + 2, k, none⟩ = some (.int .i64 (ks[k]?.getD 0)) := owns_cell HO2.out (by
        rw [List.getElem?_map, List.getElem?_eq_getElem (by have := HW.out.lenk; omega)]; rfl)
      have hz := HW.out.sizes k hlt
      have hS := sum_take_succ ks k (by have := HW.out.lenk; omega)
      have HS := Lib.hid hS
      have hb3 : -67108864 ≤ (ks.take k).sum ∧ (ks.take k).sum ≤ 67108864 := by
        have : 16384 * k ≤ 67108864 := by omega
        omega
      clear hS hbd
      go_wp2
      go_round
      case rel => exact ⟨k + 1, by omega, by go_num, by rw [HS.out]⟩
      case measure => simp [intOf]; omega
    · go_wp2
      go_ret2
      obtain rfl : k = n := by omega
      exact ⟨by rw [List.take_of_length_le (by have := HW.out.lenk; omega)]; rfl, HB2.out⟩
end Go.Proofs.Ytnlbgikhkpalcaa
