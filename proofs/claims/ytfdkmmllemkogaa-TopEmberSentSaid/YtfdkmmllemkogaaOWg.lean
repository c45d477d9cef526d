/-
  Contract of CheckMap for a map that is right: width and height from 1 to 64, as many samples as places, each one a sample's word.
-/
import Derived.Test.YtfdkmmllemkogaaOWf
namespace Go.Proofs.Ytfdkmmllemkogaa
open Go.RowKit
set_option linter.unusedVariables false

/-- A right map in memory. -/
structure RightMap (w : World) (W H : Int) (b o n : Nat) (xs : List Nat) (ks : List Int) : Prop extends Words w b o n xs ks where
  wid : 1 ≤ W ∧ W ≤ 64
  hei : 1 ≤ H ∧ H ≤ 64
  area : W * H = n

theorem RightMap.below {B : Nat} {w w' : World} {W H : Int} {b o n : Nat} {xs : List Nat} {ks : List Int} (h : RightMap w W H b o n xs ks) (hb : Below B w w') (hB : b < B) : RightMap w' W H b o n xs ks :=
  ⟨h.toWords.below hb hB, h.wid, h.hei, h.area⟩

set_option maxRecDepth 100000 in
set_option maxHeartbeats 3200000 in
theorem checkMap_any (W H : Int) (b o n c : Nat) (xs : List Nat) (ks : List Int) (w : World) (hw : RightMap w W H b o n xs ks) (hb : b < w.heap.size) :
    Calls Try.prog 31 #[.agg #[.int .i64 W, .int .i64 H, .slice (some ⟨b, o, none⟩) n c]] w fun e w' => e = .returned (.int .i64 0) ∧ Below w.heap.size w w' := by
  have hW := hw.wid
  have hH := hw.hei
  have hA := hw.area
  have eW := rangeErr_in hW.1 hW.2
  have eH := rangeErr_in hH.1 hH.2
  have KW : ∀ w1 : World, Calls Try.prog 54 #[.int .i64 W] w1 fun e w' => e = .returned (.int .i64 0) ∧ w1 = w' := fun w1 => by rw [← eW]; exact checkSide_any W w1
  have KH : ∀ w1 : World, Calls Try.prog 54 #[.int .i64 H] w1 fun e w' => e = .returned (.int .i64 0) ∧ w1 = w' := fun w1 => by rw [← eH]; exact checkSide_any H w1
  have HKW := Lib.hid KW
  have HKH := Lib.hid KH
  have KM : ∀ w1 : World, Below w.heap.size w w1 → w1.heap.size = w.heap.size + 2 → Calls Try.prog 55 #[.slice (some ⟨b, o, none⟩) n c, .func (.func 56) #[] #[]] w1 fun e w' =>
      e = .returned (.slice (some ⟨w.heap.size + 2, 0, none⟩) n n) ∧ w'.ownsRow (w.heap.size + 2) 37 1 (.slice (some ⟨w.heap.size + 2, 0, none⟩) n n) n (ks.map (fun _ => Value.int .i64 0)) ∧ Below (w.heap.size + 2) w1 w' := by
    intro w1 h1 hs
    have hw1 := hw.below h1 hb
    rw [← hs]
    exact mapped_check b o n c xs ks hw1.len hw1.lenk hw1.small (by omega) hw1.cells (fun j hj => ⟨hw1.words j hj, hw1.smps j hj, hw1.sizes j hj⟩)
  have HM := Lib.hid KM
  have Hw := Lib.hid hw
  have HA := Lib.hid hA
  have hn : W * H ≤ 4096 := by have := hw.small; omega
  have hn0 : 0 ≤ W * H := by omega
  have hne : (n : Int) = W * H := hA.symm
  have e1 : ((n : Int) != W * H) = false := by rw [hne]; simp
  have hsm := hw.small
  clear KM KW KH eW eH hA hne hw
  go_enter Try.func31, Try.ntmps31
  go_wp2_with fail
  go_region_held3 (fun w' => w'.cell? ⟨w.heap.size, 0, none⟩ = some (.int .i64 W) ∧ w'.cell? ⟨w.heap.size, 1, none⟩ = some (.int .i64 H))
    (go_keep)
    (first
      | ((go_at_call_of 54 (Value.int .i64 W); refine (HKW.out _).mono ?_; rintro e w' ⟨rfl, rfl⟩))
      | ((go_at_call_of 54 (Value.int .i64 H); refine (HKH.out _).mono ?_; rintro e w' ⟨rfl, rfl⟩))
      | ((go_at_call 26; refine (first_zeros _ 0 2 2 (by omega) _ ?_).mono ?_; rotate_left 1; rintro e w' ⟨rfl, rfl⟩; rotate_left 1; (intro j hj; match j, hj with | 0, _ => simp [go_sem] | 1, _ => simp [go_sem]))))
  all_goals
    go_wp2_with (first
      | (go_at_call 55; refine (HM.out _ ?_ ?_).mono ?_; rotate_left 2; rintro e w' ⟨rfl, hown, hb1⟩; rotate_left 1; exact (((Below.refl _ w).alloc (Nat.le_refl _) _).alloc (by simp) _).drew; simp)
      | (go_at_call 26; refine (first_zeros _ 0 n n (by omega) _ (fun j hj => by rw [Nat.zero_add]; exact owns_cell hown (by have := (Hw.out).lenk; simp [this, hj]))).mono ?_; rintro e w' ⟨rfl, rfl⟩))
    go_ret
    exact ⟨rfl, (((Below.refl _ w).alloc (Nat.le_refl _) _).alloc (by simp) _).drew.trans (hb1.mono (by omega))⟩
end Go.Proofs.Ytfdkmmllemkogaa
