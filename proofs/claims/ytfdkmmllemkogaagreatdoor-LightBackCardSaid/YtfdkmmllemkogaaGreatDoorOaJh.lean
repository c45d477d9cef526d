/-
  Contracts of checkZero for every word, and of mapped over it: which samples are -0.
-/
import Derived.Test.YtfdkmmllemkogaaGreatDoorOaBp
import Derived.Test.YtfdkmmllemkogaaGreatDoorOVk
namespace Go.Proofs.YtfdkmmllemkogaaGreatDoor
open Go.RowKit
open Ieee (Format single)
set_option linter.unusedVariables false
set_option linter.unusedSimpArgs false

theorem isNum_0 : IsNum single 0 false 0 := ⟨0, -149, by decide +kernel, by decide, by decide, by decide⟩
theorem order_no {x : Nat} (hx : x < 2 ^ 32) (h0 : x ≠ 0) (h1 : x ≠ 2147483648) : (FloatKind.f32.format.order x 0 == some .eq) = false := by
  show (single.order x 0 == some .eq) = false
  rcases smp_class x with ⟨a, b, hd⟩ | ⟨s, hd⟩ | ⟨s, v, hn, _⟩
  · unfold Format.order
    rw [hd]; rfl
  · have h2 : single.read 0 = .number false 0 (-149) := by decide +kernel
    unfold Format.order
    rw [hd, h2]
    cases s <;> rfl
  · have hv : v ≠ 0 := by
      rintro rfl
      have e0 : IsNum single (single.word s 0) s 0 := by
        cases s
        · exact ⟨0, -149, by decide +kernel, by decide, by decide, by decide⟩
        · exact ⟨0, -149, by decide +kernel, by decide, by decide, by decide⟩
      have e := isNum_inj hx (by cases s <;> decide) hn e0
      cases s
      · exact h0 e
      · exact h1 e
    rw [hn.order isNum_0]
    have hs : sgn s v ≠ sgn false 0 := by unfold sgn; cases s <;> simp <;> omega
    have e2 : compare (sgn s v) (sgn false 0) ≠ .eq := by
      show compareOfLessAndEq _ _ ≠ .eq
      unfold compareOfLessAndEq
      split
      · simp
      · simp [hs]
    cases h2 : compare (sgn s v) (sgn false 0) <;> simp_all

theorem signbit_0 (w : World) : Calls Tryz.prog 212 #[.float .f64 0] w fun e w' => e = .returned (.bool false) ∧ w = w' := by
  have h : ∀ w : World, (callFunc 229 #[.float .f64 0]).run Tryz.prog w = .ok (.value (.int .u64 0)) w := fun w => by kernel_rfl
  go_enter Tryz.func212, Tryz.ntmps212
  go_wp2
  go_ret
  exact ⟨rfl, rfl⟩
theorem signbit_neg (w : World) : Calls Tryz.prog 212 #[.float .f64 9223372036854775808] w fun e w' => e = .returned (.bool true) ∧ w = w' := by
  have h : ∀ w : World, (callFunc 229 #[.float .f64 9223372036854775808]).run Tryz.prog w = .ok (.value (.int .u64 9223372036854775808)) w := fun w => by kernel_rfl
  have hw : wrap64 9223372036854775808 = -9223372036854775808 := by decide +kernel
  go_enter Tryz.func212, Tryz.ntmps212
  go_wp2
  go_ret
  exact ⟨rfl, rfl⟩

theorem checkZero_any (x : Nat) (hx : x < 2 ^ 32) (w : World) :
    Calls Tryz.prog 181 #[.float .f32 x] w fun e w' => e = .returned (.int .i64 (zeroErr x)) ∧ w = w' := by
  by_cases h0 : x = 0
  · subst h0
    have t0 : (FloatKind.f32.format.order 0 0 == some .eq) = true := by decide +kernel
    have c := run_to64 (show floatToFloatBits .f32 0 .f64 = some 0 by decide +kernel)
    rw [show zeroErr 0 = 0 from rfl]
    go_enter Tryz.func181, Tryz.ntmps181
    go_wp2_with (go_at_call 212; refine (signbit_0 _).mono ?_; rintro e w' ⟨rfl, rfl⟩)
    go_ret
    exact ⟨rfl, rfl⟩
  by_cases h1 : x = 2147483648
  · subst h1
    have t0 : (FloatKind.f32.format.order 2147483648 0 == some .eq) = true := by decide +kernel
    have c := run_to64 (show floatToFloatBits .f32 2147483648 .f64 = some 9223372036854775808 by decide +kernel)
    rw [show zeroErr 2147483648 = 1 from rfl]
    clear hx h0
    go_enter Tryz.func181, Tryz.ntmps181
    go_wp2_with (go_at_call 212; refine (signbit_neg _).mono ?_; rintro e w' ⟨rfl, rfl⟩)
    go_ret
    exact ⟨rfl, rfl⟩
  · have t0 := order_no hx h0 h1
    rw [show zeroErr x = 0 from if_neg h1]
    clear hx h0 h1
    go_enter Tryz.func181, Tryz.ntmps181
    go_wp2
    go_ret
    exact ⟨rfl, rfl⟩

set_option maxHeartbeats 2000000 in
set_option maxRecDepth 100000 in
theorem mapped_zero {w : World} (a : Option Addr) (n c : Nat) (xs : List Nat) (hx : xs.length = n) (hn : n ≤ 4096)
    (hc : ∀ j, j < n → ∃ b o, a = some ⟨b, o, none⟩ ∧ b < w.heap.size ∧ ∀ j, j < n → w.cell? ⟨b, o + j, none⟩ = some (.float .f32 (xs[j]?.getD 0))) (hs : ∀ j, j < n → xs[j]?.getD 0 < 2 ^ 32) :
    Calls Tryz.prog 130 #[.slice a n c, .func (.func 181) #[] #[]] w fun e w' =>
      e = .returned (.slice (some ⟨w.heap.size, 0, none⟩) n n) ∧ w'.ownsRow w.heap.size 26 1 (.slice (some ⟨w.heap.size, 0, none⟩) n n) n (xs.map (fun x => Value.int .i64 (zeroErr x))) ∧ Below w.heap.size w w' := by
  obtain ⟨i0, hi, hz0, hz1, hz2⟩ := info_parts Tryz.info26_check
  have Hx := Lib.hid hx
  have Hc := Lib.hid hc
  have Hs := Lib.hid hs
  clear hx hc hs
  go_enter Tryz.func130, Tryz.ntmps130
  go_wp2_with (at_make; refine wpList_make_own _ rfl _ _ 196 rfl w.heap.size 26 i0 (.int .i64 0) 1 Tryz.underlying196 hi hz0 hz1 _ _ _ n rfl rfl (by omega) ?b2 ?b3 (Nat.le_refl _) ?_)
  case b2 => rw [hz2]; omega
  case b3 => unfold maxLen; omega
  intro w0 hown0 hgrow0
  go_wp2
  go_loopw [5, 13] (fun out i wr => ∃ k : Nat, k ≤ n ∧ i = .int .i64 k ∧ out = .slice (some ⟨w.heap.size, 0, none⟩) k n ∧
      wr.ownsRow w.heap.size 26 1 (.slice (some ⟨w.heap.size, 0, none⟩) k n) k ((xs.take k).map (fun x => Value.int .i64 (zeroErr x))) ∧ Below w.heap.size w wr)
    (fun _ i _ => n - (intOf i).toNat)
  case atStart => exact ⟨0, Nat.zero_le _, rfl, rfl, hown0, (Below.refl _ _).grown hgrow0 (Nat.le_refl _) (fun k h => by cases h)⟩
  case round =>
    obtain ⟨k, hk, rfl, rfl, hown, hnx⟩ := hrel
    by_cases hlt : k < n
    · obtain ⟨b, o, rfl, hb, hcc⟩ := Hc.out k hlt
      have hcell : wr.cell? ⟨b, o + k, none⟩ = some (.float .f32 (xs[k]?.getD 0)) := (hnx.cell (by exact hb)).trans (hcc k hlt)
      have K := Lib.hid (Hs.out k hlt)
      have hsz := hnx.size
      clear hcc Hc
      go_wp2_with (first
        | (go_at_call 181; refine (checkZero_any _ K.out _).mono ?_; rintro e w' ⟨rfl, rfl⟩)
        | (at_builtin; refine wpList_append_fits _ rfl (.tmp 17) (.tmp 21) 196 rfl w.heap.size 26 i0 1 Tryz.underlying196 hi hz1 w.heap.size k n _ rfl (hown.alloc _) ⟨wr.heap.size, 0, none⟩ 1 1 [.int .i64 (zeroErr (xs[k]?.getD 0))] rfl rfl (cell_one_new _ _ _) (by intro u hu; simp at hu; subst hu; rfl) (by omega) ?_; intro w1 hown1 hgrow1))
      go_roundw
      case rel => exact ⟨k + 1, by omega, by go_num, rfl, by rw [take_map_succ (fun x => Value.int .i64 (zeroErr x)) xs k (by have := Hx.out; omega) 0]; exact hown1, (hnx.alloc hnx.size _).grown hgrow1 (by simp; omega) (fun j hj => by cases hj; exact Nat.le_refl _)⟩
      case measure => simp [intOf]; omega
    · go_wp2
      go_ret
      obtain rfl : k = n := by omega
      rw [List.take_of_length_le (by have := Hx.out; omega)] at hown
      exact ⟨rfl, hown, hnx⟩
end Go.Proofs.YtfdkmmllemkogaaGreatDoor
