/-
  Contracts of the instances of the program's generic function 'mapped': the new slice's cells are what the given function makes of each cell.
  Condition: at most 4096 elements, each of which the given function takes.
-/
import Derived.Test.YtfpagmalblmnkaaGreatDoorGWc
import Derived.Deep.RegionHeld3
import Derived.Handy
namespace Go.Proofs.YtfpagmalblmnkaaGreatDoor
open Go.RowKit
set_option linter.unusedVariables false

theorem take_map_succ {α : Type} [Inhabited α] (f : α → Value) (l : List α) (k : Nat) (hk : k < l.length) (d : α) : (l.take (k + 1)).map f = (l.take k).map f ++ [f (l[k]?.getD d)] := by
  rw [List.take_succ_eq_append_getElem hk, List.map_append, List.getElem?_eq_getElem hk]; rfl

theorem Tryz.info3_int : (Tryz.prog.info? 3).map (fun i => (i.zero, i.size, i.bytes)) = some (some (.int .i64 0), 1, 8) := by kernel_rfl

set_option maxHeartbeats 2000000 in
set_option maxRecDepth 100000 in
theorem mapped_int {w : World} (b o n c : Nat) (xs : List Nat) (ks : List Int) (hx : xs.length = n) (hk : ks.length = n) (hn : n ≤ 4096) (hb : b < w.heap.size)
    (hc : ∀ j, j < n → w.cell? ⟨b, o + j, none⟩ = some (.float .f32 (xs[j]?.getD 0))) (hs : ∀ j, j < n → Smp (xs[j]?.getD 0) (ks[j]?.getD 0) ∧ (ks[j]?.getD 0).natAbs < 2 ^ 40) :
    Calls Tryz.prog 133 #[.slice (some ⟨b, o, none⟩) n c, .func (.func 134) #[] #[]] w fun e w' =>
      e = .returned (.slice (some ⟨w.heap.size, 0, none⟩) n n) ∧ w'.ownsRow w.heap.size 3 1 (.slice (some ⟨w.heap.size, 0, none⟩) n n) n (ks.map (Value.int .i64)) ∧ Below w.heap.size w w' := by
  obtain ⟨i0, hi, hz0, hz1, hz2⟩ := info_parts Tryz.info3_int
  have Hx := Lib.hid hx
  have Hk := Lib.hid hk
  have Hc := Lib.hid hc
  have Hs := Lib.hid hs
  clear hx hk hc hs
  go_enter Tryz.func133, Tryz.ntmps133
  go_wp2_with (at_make; refine wpList_make_own _ rfl _ _ 91 rfl w.heap.size 3 i0 (.int .i64 0) 1 Tryz.underlying91 hi hz0 hz1 _ _ _ n rfl rfl (by omega) ?b2 ?b3 (Nat.le_refl _) ?_)
  case b2 => rw [hz2]; omega
  case b3 => unfold maxLen; omega
  intro w0 hown0 hgrow0
  go_wp2
  go_loopw [5, 13] (fun out i wr => ∃ k : Nat, k ≤ n ∧ i = .int .i64 k ∧ out = .slice (some ⟨w.heap.size, 0, none⟩) k n ∧
      wr.ownsRow w.heap.size 3 1 (.slice (some ⟨w.heap.size, 0, none⟩) k n) k ((ks.take k).map (Value.int .i64)) ∧ Below w.heap.size w wr)
    (fun _ i _ => n - (intOf i).toNat)
  case atStart => exact ⟨0, Nat.zero_le _, rfl, rfl, hown0, (Below.refl _ _).grown hgrow0 (Nat.le_refl _) (fun k h => by cases h)⟩
  case round =>
    obtain ⟨k, hk, rfl, rfl, hown, hnx⟩ := hrel
    by_cases hlt : k < n
    · have hcell : wr.cell? ⟨b, o + k, none⟩ = some (.float .f32 (xs[k]?.getD 0)) := (hnx.cell (by exact hb)).trans (Hc.out k hlt)
      have K := Lib.hid (Hs.out k hlt)
      have hsz := hnx.size
      go_wp2_with (first
        | (go_at_call 134; refine (integer_any _ _ K.out.1 K.out.2 _).mono ?_; rintro e w' ⟨rfl, rfl⟩)
        | (at_builtin; refine wpList_append_fits _ rfl (.tmp 17) (.tmp 21) 91 rfl w.heap.size 3 i0 1 Tryz.underlying91 hi hz1 w.heap.size k n _ rfl (hown.alloc _) ⟨wr.heap.size, 0, none⟩ 1 1 [.int .i64 (ks[k]?.getD 0)] rfl rfl (cell_one_new _ _ _) (by intro u hu; simp at hu; subst hu; rfl) (by omega) ?_; intro w1 hown1 hgrow1))
      go_roundw
      case rel => exact ⟨k + 1, by omega, by go_num, rfl, by rw [take_map_succ (Value.int .i64) ks k (by have := Hk.out; omega) 0]; exact hown1, (hnx.alloc hnx.size _).grown hgrow1 (by simp; omega) (fun j hj => by cases hj; exact Nat.le_refl _)⟩
      case measure => simp [intOf]; omega
    · go_wp2
      go_ret
      obtain rfl : k = n := by omega
      rw [List.take_of_length_le (by have := Hk.out; omega)] at hown
      exact ⟨rfl, hown, hnx⟩

theorem Tryz.info22_sample : (Tryz.prog.info? 22).map (fun i => (i.zero, i.size, i.bytes)) = some (some (.float .f32 0), 1, 4) := by kernel_rfl

set_option maxHeartbeats 2000000 in
set_option maxRecDepth 100000 in
theorem mapped_sample {w : World} (b o n c : Nat) (xs : List Int) (ks : List Int) (hx : xs.length = n) (hk : ks.length = n) (hn : n ≤ 4096) (hb : b < w.heap.size)
    (hc : ∀ j, j < n → w.cell? ⟨b, o + j, none⟩ = some (.int .i64 (xs[j]?.getD 0))) (hs : ∀ j, j < n → xs[j]?.getD 0 = ks[j]?.getD 0 ∧ (ks[j]?.getD 0).natAbs < 2 ^ 24) :
    Calls Tryz.prog 145 #[.slice (some ⟨b, o, none⟩) n c, .func (.func 107) #[] #[]] w fun e w' =>
      e = .returned (.slice (some ⟨w.heap.size, 0, none⟩) n n) ∧ w'.ownsRow w.heap.size 22 1 (.slice (some ⟨w.heap.size, 0, none⟩) n n) n (ks.map (fun n : Int => Value.float .f32 (smpOf n))) ∧ Below w.heap.size w w' := by
  obtain ⟨i0, hi, hz0, hz1, hz2⟩ := info_parts Tryz.info22_sample
  have Hx := Lib.hid hx
  have Hk := Lib.hid hk
  have Hc := Lib.hid hc
  have Hs := Lib.hid hs
  clear hx hk hc hs
  go_enter Tryz.func145, Tryz.ntmps145
  go_wp2_with (at_make; refine wpList_make_own _ rfl _ _ 33 rfl w.heap.size 22 i0 (.float .f32 0) 1 Tryz.underlying33 hi hz0 hz1 _ _ _ n rfl rfl (by omega) ?b2 ?b3 (Nat.le_refl _) ?_)
  case b2 => rw [hz2]; omega
  case b3 => unfold maxLen; omega
  intro w0 hown0 hgrow0
  go_wp2
  go_loopw [5, 13] (fun out i wr => ∃ k : Nat, k ≤ n ∧ i = .int .i64 k ∧ out = .slice (some ⟨w.heap.size, 0, none⟩) k n ∧
      wr.ownsRow w.heap.size 22 1 (.slice (some ⟨w.heap.size, 0, none⟩) k n) k ((ks.take k).map (fun n : Int => Value.float .f32 (smpOf n))) ∧ Below w.heap.size w wr)
    (fun _ i _ => n - (intOf i).toNat)
  case atStart => exact ⟨0, Nat.zero_le _, rfl, rfl, hown0, (Below.refl _ _).grown hgrow0 (Nat.le_refl _) (fun k h => by cases h)⟩
  case round =>
    obtain ⟨k, hk, rfl, rfl, hown, hnx⟩ := hrel
    by_cases hlt : k < n
    · have hcell : wr.cell? ⟨b, o + k, none⟩ = some (.int .i64 (xs[k]?.getD 0)) := (hnx.cell (by exact hb)).trans (Hc.out k hlt)
      have K := Lib.hid (Hs.out k hlt)
      have hsz := hnx.size
      go_wp2_with (first
        | (go_at_call 107; refine (show Calls _ _ _ _ _ from by rw [K.out.1]; exact sample_any _ K.out.2 _).mono ?_; rintro e w' ⟨rfl, rfl⟩)
        | (at_builtin; refine wpList_append_fits _ rfl (.tmp 17) (.tmp 21) 33 rfl w.heap.size 22 i0 1 Tryz.underlying33 hi hz1 w.heap.size k n _ rfl (hown.alloc _) ⟨wr.heap.size, 0, none⟩ 1 1 [.float .f32 (smpOf (ks[k]?.getD 0))] rfl rfl (cell_one_new _ _ _) (by intro u hu; simp at hu; subst hu; rfl) (by omega) ?_; intro w1 hown1 hgrow1))
      go_roundw
      case rel => exact ⟨k + 1, by omega, by go_num, rfl, by rw [take_map_succ (fun n : Int => Value.float .f32 (smpOf n)) ks k (by have := Hk.out; omega) 0]; exact hown1, (hnx.alloc hnx.size _).grown hgrow1 (by simp; omega) (fun j hj => by cases hj; exact Nat.le_refl _)⟩
      case measure => simp [intOf]; omega
    · go_wp2
      go_ret
      obtain rfl : k = n := by omega
      rw [List.take_of_length_le (by have := Hk.out; omega)] at hown
      exact ⟨rfl, hown, hnx⟩

theorem Tryz.info27_check : (Tryz.prog.info? 27).map (fun i => (i.zero, i.size, i.bytes)) = some (some (.int .i64 0), 1, 8) := by kernel_rfl

set_option maxHeartbeats 2000000 in
set_option maxRecDepth 100000 in
theorem mapped_check {w : World} (b o n c : Nat) (xs : List Nat) (ks : List Int) (hx : xs.length = n) (hk : ks.length = n) (hn : n ≤ 4096) (hb : b < w.heap.size)
    (hc : ∀ j, j < n → w.cell? ⟨b, o + j, none⟩ = some (.float .f32 (xs[j]?.getD 0))) (hs : ∀ j, j < n → xs[j]?.getD 0 < 2 ^ 32 ∧ Smp (xs[j]?.getD 0) (ks[j]?.getD 0) ∧ (ks[j]?.getD 0).natAbs ≤ 16384) :
    Calls Tryz.prog 42 #[.slice (some ⟨b, o, none⟩) n c, .func (.func 43) #[] #[]] w fun e w' =>
      e = .returned (.slice (some ⟨w.heap.size, 0, none⟩) n n) ∧ w'.ownsRow w.heap.size 27 1 (.slice (some ⟨w.heap.size, 0, none⟩) n n) n (ks.map (fun _ : Int => Value.int .i64 0)) ∧ Below w.heap.size w w' := by
  obtain ⟨i0, hi, hz0, hz1, hz2⟩ := info_parts Tryz.info27_check
  have Hx := Lib.hid hx
  have Hk := Lib.hid hk
  have Hc := Lib.hid hc
  have Hs := Lib.hid hs
  clear hx hk hc hs
  go_enter Tryz.func42, Tryz.ntmps42
  go_wp2_with (at_make; refine wpList_make_own _ rfl _ _ 102 rfl w.heap.size 27 i0 (.int .i64 0) 1 Tryz.underlying102 hi hz0 hz1 _ _ _ n rfl rfl (by omega) ?b2 ?b3 (Nat.le_refl _) ?_)
  case b2 => rw [hz2]; omega
  case b3 => unfold maxLen; omega
  intro w0 hown0 hgrow0
  go_wp2
  go_loopw [5, 13] (fun out i wr => ∃ k : Nat, k ≤ n ∧ i = .int .i64 k ∧ out = .slice (some ⟨w.heap.size, 0, none⟩) k n ∧
      wr.ownsRow w.heap.size 27 1 (.slice (some ⟨w.heap.size, 0, none⟩) k n) k ((ks.take k).map (fun _ : Int => Value.int .i64 0)) ∧ Below w.heap.size w wr)
    (fun _ i _ => n - (intOf i).toNat)
  case atStart => exact ⟨0, Nat.zero_le _, rfl, rfl, hown0, (Below.refl _ _).grown hgrow0 (Nat.le_refl _) (fun k h => by cases h)⟩
  case round =>
    obtain ⟨k, hk, rfl, rfl, hown, hnx⟩ := hrel
    by_cases hlt : k < n
    · have hcell : wr.cell? ⟨b, o + k, none⟩ = some (.float .f32 (xs[k]?.getD 0)) := (hnx.cell (by exact hb)).trans (Hc.out k hlt)
      have K := Lib.hid (Hs.out k hlt)
      have hsz := hnx.size
      go_wp2_with (first
        | (go_at_call 43; refine (checkSample_any _ _ K.out.1 K.out.2.1 K.out.2.2 _).mono ?_; rintro e w' ⟨rfl, rfl⟩)
        | (at_builtin; refine wpList_append_fits _ rfl (.tmp 17) (.tmp 21) 102 rfl w.heap.size 27 i0 1 Tryz.underlying102 hi hz1 w.heap.size k n _ rfl (hown.alloc _) ⟨wr.heap.size, 0, none⟩ 1 1 [.int .i64 0] rfl rfl (cell_one_new _ _ _) (by intro u hu; simp at hu; subst hu; rfl) (by omega) ?_; intro w1 hown1 hgrow1))
      go_roundw
      case rel => exact ⟨k + 1, by omega, by go_num, rfl, by rw [take_map_succ (fun _ : Int => Value.int .i64 0) ks k (by have := Hk.out; omega) 0]; exact hown1, (hnx.alloc hnx.size _).grown hgrow1 (by simp; omega) (fun j hj => by cases hj; exact Nat.le_refl _)⟩
      case measure => simp [intOf]; omega
    · go_wp2
      go_ret
      obtain rfl : k = n := by omega
      rw [List.take_of_length_le (by have := Hk.out; omega)] at hown
      exact ⟨rfl, hown, hnx⟩
end Go.Proofs.YtfpagmalblmnkaaGreatDoor

/-
  Contracts of the program's functions on places of a grid: index, at, has; of gridOf. Sizes and places are from 0 to 2^20.
-/
namespace Go.Proofs.YtfpagmalblmnkaaGreatDoor
open Go.RowKit
set_option linter.unusedVariables false

set_option maxHeartbeats 800000 in
theorem index_any (W H X Y : Int) (a : Option Addr) (n c : Nat) (h0 : 0 ≤ W ∧ W ≤ 1048576) (hx : 0 ≤ X ∧ X ≤ 1048576) (hy : 0 ≤ Y ∧ Y ≤ 1048576) (hp : 0 ≤ Y * W ∧ Y * W ≤ 1099511627776) (w : World) :
    Calls Tryz.prog 127 #[.agg #[.int .i64 W, .int .i64 H, .slice a n c], .agg #[.int .i64 X, .int .i64 Y]] w fun e w' => e = .returned (.int .i64 (Y * W + X)) ∧ Below w.heap.size w w' := by
  go_enter Tryz.func127, Tryz.ntmps127
  go_wp2
  go_ret
  exact ⟨rfl, (((Below.refl _ _).alloc (Nat.le_refl _) _).alloc (by simp) _)⟩

set_option maxRecDepth 100000 in
set_option maxHeartbeats 3200000 in
theorem at_any (W H X Y : Int) (g n c : Nat) (v : Int) (h0 : 0 ≤ W ∧ W ≤ 1048576) (hx : 0 ≤ X ∧ X ≤ 1048576) (hy : 0 ≤ Y ∧ Y ≤ 1048576) (hp : 0 ≤ Y * W ∧ Y * W ≤ 1099511627776) (w : World)
    (hn : Y * W + X < n) (hg : g < w.heap.size) (hc : w.cell? ⟨g, (Y * W + X).toNat, none⟩ = some (.int .i64 v)) :
    Calls Tryz.prog 88 #[.agg #[.int .i64 W, .int .i64 H, .slice (some ⟨g, 0, none⟩) n c], .agg #[.int .i64 X, .int .i64 Y]] w fun e w' => e = .returned (.int .i64 v) ∧ Below w.heap.size w w' := by
  have hi0 : 0 ≤ Y * W + X := by omega
  have hnn : Y * W + X ≤ 1099512676352 := by omega
  go_enter Tryz.func88, Tryz.ntmps88
  go_wp2_with fail
  go_region_held3 (fun w' => w'.cell? ⟨w.heap.size, 0, none⟩ = some (.int .i64 W) ∧ w'.cell? ⟨w.heap.size, 1, none⟩ = some (.int .i64 H) ∧ w'.cell? ⟨w.heap.size, 2, none⟩ = some (.slice (some ⟨g, 0, none⟩) n c) ∧
      w'.cell? ⟨w.heap.size + 1, 0, none⟩ = some (.int .i64 X) ∧ w'.cell? ⟨w.heap.size + 1, 1, none⟩ = some (.int .i64 Y) ∧ w'.cell? ⟨g, (Y * W + X).toNat, none⟩ = some (.int .i64 v))
    (first | go_keep | (go_split_ands; refine ⟨?_, ?_, ?_, ?_, ?_, ?_⟩ <;> (rw [hb.cell (by simp; try omega)]; assumption)))
    ((go_at_call 127; refine (index_any _ _ _ _ _ _ _ h0 hx hy hp _).mono ?_; rintro e w' ⟨rfl, hb⟩))
  all_goals
    go_wp2
    go_ret
    refine ⟨rfl, ?_⟩
    exact (((Below.refl _ w).alloc (Nat.le_refl _) _).alloc (by simp) _).drew.trans (hb.mono (by simp; omega))
end Go.Proofs.YtfpagmalblmnkaaGreatDoor

/-
  Contract of gridOf: the grid of a map whose samples' words are known.
-/
namespace Go.Proofs.YtfpagmalblmnkaaGreatDoor
open Go.RowKit
set_option linter.unusedVariables false

/-- The samples of a map, word by word, and their integers. -/
structure Words (w : World) (b o n : Nat) (xs : List Nat) (ks : List Int) : Prop where
  len : xs.length = n
  lenk : ks.length = n
  small : n ≤ 4096
  cells : ∀ j, j < n → w.cell? ⟨b, o + j, none⟩ = some (.float .f32 (xs[j]?.getD 0))
  words : ∀ j, j < n → xs[j]?.getD 0 < 2 ^ 32
  smps : ∀ j, j < n → Smp (xs[j]?.getD 0) (ks[j]?.getD 0)
  sizes : ∀ j, j < n → (ks[j]?.getD 0).natAbs ≤ 16384

theorem Words.below {B : Nat} {w w' : World} {b o n : Nat} {xs : List Nat} {ks : List Int} (h : Words w b o n xs ks) (hb : Below B w w') (hB : b < B) : Words w' b o n xs ks :=
  ⟨h.len, h.lenk, h.small, fun j hj => (hb.cell (by exact hB)).trans (h.cells j hj), h.words, h.smps, h.sizes⟩

set_option maxRecDepth 100000 in
set_option maxHeartbeats 3200000 in
theorem gridOf_any (W H : Int) (b o n c : Nat) (xs : List Nat) (ks : List Int) (w : World) (hw : Words w b o n xs ks) (hb : b < w.heap.size) :
    Calls Tryz.prog 69 #[.agg #[.int .i64 W, .int .i64 H, .slice (some ⟨b, o, none⟩) n c]] w fun e w' =>
      e = .returned (.agg #[.int .i64 W, .int .i64 H, .slice (some ⟨w.heap.size + 2, 0, none⟩) n n]) ∧ w'.ownsRow (w.heap.size + 2) 3 1 (.slice (some ⟨w.heap.size + 2, 0, none⟩) n n) n (ks.map (Value.int .i64)) ∧ Below w.heap.size w w' := by
  have K : ∀ w1 : World, Below w.heap.size w w1 → w1.heap.size = w.heap.size + 2 → Calls Tryz.prog 133 #[.slice (some ⟨b, o, none⟩) n c, .func (.func 134) #[] #[]] w1 fun e w' =>
      e = .returned (.slice (some ⟨w.heap.size + 2, 0, none⟩) n n) ∧ w'.ownsRow (w.heap.size + 2) 3 1 (.slice (some ⟨w.heap.size + 2, 0, none⟩) n n) n (ks.map (Value.int .i64)) ∧ Below (w.heap.size + 2) w1 w' := by
    intro w1 h1 hs
    have hw1 := hw.below h1 hb
    rw [← hs]
    exact mapped_int b o n c xs ks hw1.len hw1.lenk hw1.small (by omega) hw1.cells (fun j hj => ⟨hw1.smps j hj, Nat.lt_of_le_of_lt (hw1.sizes j hj) (by decide)⟩)
  have HK := Lib.hid K
  clear K hw
  go_enter Tryz.func69, Tryz.ntmps69
  go_wp2_with fail
  go_region_held3 (fun w' => w'.cell? ⟨w.heap.size, 0, none⟩ = some (.int .i64 W) ∧ w'.cell? ⟨w.heap.size, 1, none⟩ = some (.int .i64 H) ∧ w'.cell? ⟨w.heap.size, 2, none⟩ = some (.slice (some ⟨b, o, none⟩) n c))
    (first | go_keep | (go_split_ands; refine ⟨?_, ?_, ?_⟩ <;> rw [hb1.cell (by simp; try omega)] <;> assumption))
    ((go_at_call 133; refine (HK.out _ ?_ ?_).mono ?_; rotate_left 2; rintro e w' ⟨rfl, hown, hb1⟩
      have s0 : w'.cell? ⟨w.heap.size + 1, 0, none⟩ = some (.int .i64 0) := by rw [hb1.cell (by simp)]; simp [go_sem]
      have s1 : w'.cell? ⟨w.heap.size + 1, 1, none⟩ = some (.int .i64 0) := by rw [hb1.cell (by simp)]; simp [go_sem]
      have s2 : w'.cell? ⟨w.heap.size + 1, 2, none⟩ = some (.slice none 0 0) := by rw [hb1.cell (by simp)]; simp [go_sem]
      have f0 : w'.frozen? ⟨w.heap.size + 1, 0, none⟩ = false := by rw [hb1.frozen (by simp)]; simp [go_sem]
      have f1 : w'.frozen? ⟨w.heap.size + 1, 1, none⟩ = false := by rw [hb1.frozen (by simp)]; simp [go_sem]
      have f2 : w'.frozen? ⟨w.heap.size + 1, 2, none⟩ = false := by rw [hb1.frozen (by simp)]; simp [go_sem]
      rotate_left 1; exact (((Below.refl _ w).alloc (Nat.le_refl _) _).alloc (by simp) _).drew; simp))
  all_goals
    go_wp2
    refine bodyPost_ret (v := .agg #[.int .i64 W, .int .i64 H, .slice (some ⟨w.heap.size + 2, 0, none⟩) n n]) (by simp [results, Tryz.results69, go_sem, s0, s1, s2]) rfl ⟨rfl, ?_, ?_⟩
    · exact ownsRow_setCell_below (ownsRow_setCell_below (ownsRow_setCell_below hown (by simp) _) (by simp) _) (by simp) _
    · exact ((((((Below.refl _ w).alloc (Nat.le_refl _) _).alloc (by simp) _).drew.trans (hb1.mono (by omega))).setCell (p := ⟨w.heap.size + 1, 0, none⟩) (by simp) _).setCell (p := ⟨w.heap.size + 1, 1, none⟩) (by simp) _).setCell (p := ⟨w.heap.size + 1, 2, none⟩) (by simp) _
end Go.Proofs.YtfpagmalblmnkaaGreatDoor
