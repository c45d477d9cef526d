/-
  Contract of the reference's Pack for a right map: the bytes of its stream.
-/
import Derived.ArgAppend
import Derived.Deep.CutBlock
import Derived.Deep.DeepCutAuto
import Derived.Stop.BytesEq
import Derived.Deep.MidRow
import Derived.Test.YtpmjiifdnnhecaaGreatDoorOaaBr
import Derived.Test.YtpmjiifdnnhecaaGreatDoorOaaZk
import Derived.Test.YtpmjiifdnnhecaaGreatDoorOaaWk
import Derived.Test.YtpmjiifdnnhecaaGreatDoorOaaJd
import Derived.Test.YtpmjiifdnnhecaaGreatDoorOaaBo
import Derived.Deep.QuietTactic
import Derived.BigQuiet
import Derived.Deep.AppendLies
import Derived.Deep.RegionHeldLaw
import Derived.Deep.RegionLaw
import Derived.Test.YtpmjiifdnnhecaaGreatDoorOaaBc
namespace Go.Proofs.YtpmjiifdnnhecaaGreatDoor
open Go.RowKit
set_option linter.unusedVariables false
set_option linter.unusedSimpArgs false

theorem row_cells {w : World} {B : Nat} {T : TypeId} {x y z : Value} (h : w.heap[B]? = some (.cells #[x, y, z] T (0, 0))) :
    w.cell? ⟨B, 0, none⟩ = some x ∧ w.cell? ⟨B, 1, none⟩ = some y ∧ w.cell? ⟨B, 2, none⟩ = some z :=
  ⟨by rw [cell_of_row w _ 0 _ _ (0, 0) h]; rfl, by rw [cell_of_row w _ 1 _ _ (0, 0) h]; rfl, by rw [cell_of_row w _ 2 _ _ (0, 0) h]; rfl⟩
end Go.Proofs.YtpmjiifdnnhecaaGreatDoor

/-
  Contract of the reference's Unpack for any bytes, in parts: its errors.
-/

namespace Go.Proofs.YtpmjiifdnnhecaaGreatDoor
open Go.RowKit
set_option linter.unusedVariables false
set_option linter.unusedSimpArgs false

/-- A result that is a map, and an error. -/
def UnRes (w : World) (r W H : Int) (L : List Int) (e : Ending) (w' : World) : Prop :=
  ∃ X Y a n c, e = .returned (.tuple #[.agg #[.int .i64 X, .int .i64 Y, .slice a n c], .int .i64 r]) ∧ ResV w' r W H L X Y a n c ∧ Below w.heap.size w w'
theorem UnRes.bad {w w' : World} {r W H : Int} {L : List Int} (hr : r ≠ 0) (hb : Below w.heap.size w w') : UnRes w r W H L (.returned (.tuple #[.agg #[.int .i64 0, .int .i64 0, .slice none 0 0], .int .i64 r])) w' :=
  ⟨0, 0, none, 0, 0, rfl, ResV.none _ _ _ _ _ hr, hb⟩

/-- A map's block behind three stores. -/
theorem map_ends {w W : World} {B : Nat} {x0 y0 s0 : Value} {T : TypeId} (hB : W.heap[B]? = some (.cells #[x0, y0, s0] T (0, 0))) (hb : Below w.heap.size w W) (hle : w.heap.size ≤ B) (x y s : Value) :
    (((W.setCell ⟨B, 0, none⟩ x).setCell ⟨B, 1, none⟩ y).setCell ⟨B, 2, none⟩ s).heap[B]? = some (.cells #[x, y, s] T (0, 0)) ∧ Below w.heap.size w (((W.setCell ⟨B, 0, none⟩ x).setCell ⟨B, 1, none⟩ y).setCell ⟨B, 2, none⟩ s) :=
  ⟨blk_set3 hB _ _ _, ((hb.setCell (p := ⟨B, 0, none⟩) hle _).setCell (p := ⟨B, 1, none⟩) hle _).setCell (p := ⟨B, 2, none⟩) hle _⟩

end Go.Proofs.YtpmjiifdnnhecaaGreatDoor

/-
  Contract of the reference's Unpack for any bytes, in parts: the loop over the samples.
-/
namespace Go.Proofs.YtpmjiifdnnhecaaGreatDoor
open Go.RowKit
set_option linter.unusedVariables false
set_option linter.unusedSimpArgs false

def mzB (xs : List Nat) : Bool := xs.any (· == 2147483648)
theorem mzB_err (xs : List Nat) : firstNZ (xs.map zeroErr) = if mzB xs then 1 else 0 := by
  induction xs with
  | nil => rfl
  | cons x xs ih =>
    simp only [List.map_cons, firstNZ]
    by_cases h : x = 2147483648
    · simp [zeroErr, mzB, h]
    · have hz : zeroErr x = 0 := by simp [zeroErr, h]
      rw [hz]
      simp only [ne_eq, not_true_eq_false, if_false, ih]
      have : mzB (x :: xs) = mzB xs := by simp [mzB, h]
      rw [this]

theorem run_from32 (d : Nat) : ∀ w : World, (callFunc 172 #[.int .u32 d]).run Tryz.prog w = .ok (.value (.float .f32 d)) w := fun w => by
  have h : ∀ w : World, (callFunc 172 #[.int .u32 d]).run Tryz.prog w = .ok (.value (.float .f32 (d : Int).toNat)) w := fun w => by kernel_rfl
  rw [Int.toNat_natCast] at h
  exact h w

end Go.Proofs.YtpmjiifdnnhecaaGreatDoor

/-
  Contracts of checkZero for every word, and of mapped over it: which samples are -0.
-/

namespace Go.Proofs.YtpmjiifdnnhecaaGreatDoor
open Go.RowKit
open Ieee (Format single)
set_option linter.unusedVariables false
set_option linter.unusedSimpArgs false

theorem isNum_0 : IsNum single 0 false 0 := ⟨0, -149, by decide +kernel, by decide, by decide, by decide⟩
theorem order_no {x : Nat} (hx : x < 2 ^ 32) (h0 : x ≠ 0) (h1 : x ≠ 2147483648) : (FloatKind.f32.format.order x 0 == some .eq) = false := by
  show (single.order x 0 == some .eq) = false
  rcases smp_class x with ⟨a, b, hd⟩ | ⟨s, hd⟩ | ⟨s, v, hn, _⟩
  · unfold Format.order
    rw [hd]; rfl
  · have h2 : single.read 0 = .number false 0 (-149) := by decide +kernel
    unfold Format.order
    rw [hd, h2]
    cases s <;> rfl
  · have hv : v ≠ 0 := by
      rintro rfl
      have e0 : IsNum single (single.word s 0) s 0 := by
        cases s
        · exact ⟨0, -149, by decide +kernel, by decide, by decide, by decide⟩
        · exact ⟨0, -149, by decide +kernel, by decide, by decide, by decide⟩
      have e := isNum_inj hx (by cases s <;> decide) hn e0
      cases s
      · exact h0 e
      · exact h1 e
    rw [hn.order isNum_0]
    have hs : sgn s v ≠ sgn false 0 := by unfold sgn; cases s <;> simp <;> omega
    have e2 : compare (sgn s v) (sgn false 0) ≠ .eq := by
      show compareOfLessAndEq _ _ ≠ .eq
      unfold compareOfLessAndEq
      split
      · simp
      · simp [hs]
    cases h2 : compare (sgn s v) (sgn false 0) <;> simp_all

theorem signbit_0 (w : World) : Calls Tryz.prog 214 #[.float .f64 0] w fun e w' => e = .returned (.bool false) ∧ w = w' := by
  have h : ∀ w : World, (callFunc 234 #[.float .f64 0]).run Tryz.prog w = .ok (.value (.int .u64 0)) w := fun w => by kernel_rfl
  go_enter Tryz.func214, Tryz.ntmps214
  go_wp2
  go_ret
  exact ⟨rfl, rfl⟩
theorem signbit_neg (w : World) : Calls Tryz.prog 214 #[.float .f64 9223372036854775808] w fun e w' => e = .returned (.bool true) ∧ w = w' := by
  have h : ∀ w : World, (callFunc 234 #[.float .f64 9223372036854775808]).run Tryz.prog w = .ok (.value (.int .u64 9223372036854775808)) w := fun w => by kernel_rfl
  have hw : wrap64 9223372036854775808 = -9223372036854775808 := by decide +kernel
  go_enter Tryz.func214, Tryz.ntmps214
  go_wp2
  go_ret
  exact ⟨rfl, rfl⟩

theorem checkZero_any (x : Nat) (hx : x < 2 ^ 32) (w : World) :
    Calls Tryz.prog 173 #[.float .f32 x] w fun e w' => e = .returned (.int .i64 (zeroErr x)) ∧ w = w' := by
  by_cases h0 : x = 0
  · subst h0
    have t0 : (FloatKind.f32.format.order 0 0 == some .eq) = true := by decide +kernel
    have c := run_to64 (show floatToFloatBits .f32 0 .f64 = some 0 by decide +kernel)
    rw [show zeroErr 0 = 0 from rfl]
    go_enter Tryz.func173, Tryz.ntmps173
    go_wp2_with (go_at_call 214; refine (signbit_0 _).mono ?_; rintro e w' ⟨rfl, rfl⟩)
    go_ret
    exact ⟨rfl, rfl⟩
  by_cases h1 : x = 2147483648
  · subst h1
    have t0 : (FloatKind.f32.format.order 2147483648 0 == some .eq) = true := by decide +kernel
    have c := run_to64 (show floatToFloatBits .f32 2147483648 .f64 = some 9223372036854775808 by decide +kernel)
    rw [show zeroErr 2147483648 = 1 from rfl]
    clear hx h0
    go_enter Tryz.func173, Tryz.ntmps173
    go_wp2_with (go_at_call 214; refine (signbit_neg _).mono ?_; rintro e w' ⟨rfl, rfl⟩)
    go_ret
    exact ⟨rfl, rfl⟩
  · have t0 := order_no hx h0 h1
    rw [show zeroErr x = 0 from if_neg h1]
    clear hx h0 h1
    go_enter Tryz.func173, Tryz.ntmps173
    go_wp2
    go_ret
    exact ⟨rfl, rfl⟩

set_option maxHeartbeats 2000000 in
set_option maxRecDepth 100000 in
theorem mapped_zero {w : World} (a : Option Addr) (n c : Nat) (xs : List Nat) (hx : xs.length = n) (hn : n ≤ 4096)
    (hc : ∀ j, j < n → ∃ b o, a = some ⟨b, o, none⟩ ∧ b < w.heap.size ∧ ∀ j, j < n → w.cell? ⟨b, o + j, none⟩ = some (.float .f32 (xs[j]?.getD 0))) (hs : ∀ j, j < n → xs[j]?.getD 0 < 2 ^ 32) :
    Calls Tryz.prog 155 #[.slice a n c, .func (.func 173) #[] #[]] w fun e w' =>
      e = .returned (.slice (some ⟨w.heap.size, 0, none⟩) n n) ∧ w'.ownsRow w.heap.size 26 1 (.slice (some ⟨w.heap.size, 0, none⟩) n n) n (xs.map (fun x => Value.int .i64 (zeroErr x))) ∧ Below w.heap.size w w' := by
  obtain ⟨i0, hi, hz0, hz1, hz2⟩ := info_parts Tryz.info26_check
  have Hx := Lib.hid hx
  have Hc := Lib.hid hc
  have Hs := Lib.hid hs
  clear hx hc hs
  go_enter Tryz.func155, Tryz.ntmps155
  go_wp2_with (at_make; refine wpList_make_own _ rfl _ _ 197 rfl w.heap.size 26 i0 (.int .i64 0) 1 Tryz.underlying197 hi hz0 hz1 _ _ _ n rfl rfl (by omega) ?b2 ?b3 (Nat.le_refl _) ?_)
  case b2 => rw [hz2]; omega
  case b3 => unfold maxLen; omega
  intro w0 hown0 hgrow0
  go_wp2
  go_loopw [5, 13] (fun out i wr => ∃ k : Nat, k ≤ n ∧ i = .int .i64 k ∧ out = .slice (some ⟨w.heap.size, 0, none⟩) k n ∧
      wr.ownsRow w.heap.size 26 1 (.slice (some ⟨w.heap.size, 0, none⟩) k n) k ((xs.take k).map (fun x => Value.int .i64 (zeroErr x))) ∧ Below w.heap.size w wr)
    (fun _ i _ => n - (intOf i).toNat)
  case atStart => exact ⟨0, Nat.zero_le _, rfl, rfl, hown0, (Below.refl _ _).grown hgrow0 (Nat.le_refl _) (fun k h => by cases h)⟩
  case round =>
    obtain ⟨k, hk, rfl, rfl, hown, hnx⟩ := hrel
    by_cases hlt : k < n
    · obtain ⟨b, o, rfl, hb, hcc⟩ := Hc.out k hlt
      have hcell : wr.cell? ⟨b, o + k, none⟩ = some (.float .f32 (xs[k]?.getD 0)) := (hnx.cell (by exact hb)).trans (hcc k hlt)
      have K := Lib.hid (Hs.out k hlt)
      have hsz := hnx.size
      clear hcc Hc
      go_wp2_with (first
        | (go_at_call 173; refine (checkZero_any _ K.out _).mono ?_; rintro e w' ⟨rfl, rfl⟩)
        | (at_builtin; refine wpList_append_fits _ rfl (.tmp 17) (.tmp 21) 197 rfl w.heap.size 26 i0 1 Tryz.underlying197 hi hz1 w.heap.size k n _ rfl (hown.alloc _) ⟨wr.heap.size, 0, none⟩ 1 1 [.int .i64 (zeroErr (xs[k]?.getD 0))] rfl rfl (cell_one_new _ _ _) (by intro u hu; simp at hu; subst hu; rfl) (by omega) ?_; intro w1 hown1 hgrow1))
      go_roundw
      case rel => exact ⟨k + 1, by omega, by go_num, rfl, by rw [take_map_succ (fun x => Value.int .i64 (zeroErr x)) xs k (by have := Hx.out; omega) 0]; exact hown1, (hnx.alloc hnx.size _).grown hgrow1 (by simp; omega) (fun j hj => by cases hj; exact Nat.le_refl _)⟩
      case measure => simp [intOf]; omega
    · go_wp2
      go_ret
      obtain rfl : k = n := by omega
      rw [List.take_of_length_le (by have := Hx.out; omega)] at hown
      exact ⟨rfl, hown, hnx⟩
end Go.Proofs.YtpmjiifdnnhecaaGreatDoor
