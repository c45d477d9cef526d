/-
  Contract of gridOf: the grid of a map whose samples' words are known.
-/
import Derived.Handy
import Derived.Test.YtpmjiifdnnhecaaGreatDoorOaaWe
import Derived.Test.YtpmjiifdnnhecaaGreatDoorOaaWc
import Derived.Test.YtpmjiifdnnhecaaGreatDoorOaaXc
namespace Go.Proofs.YtpmjiifdnnhecaaGreatDoor
open Go.RowKit
set_option linter.unusedVariables false

/-- The samples of a map, word by word, and their integers. -/
structure Words (w : World) (b o n : Nat) (xs : List Nat) (ks : List Int) : Prop where
  len : xs.length = n
  lenk : ks.length = n
  small : n ≤ 4096
  cells : ∀ j, j < n → w.cell? ⟨b, o + j, none⟩ = some (.float .f32 (xs[j]?.getD 0))
  words : ∀ j, j < n → xs[j]?.getD 0 < 2 ^ 32
  smps : ∀ j, j < n → Smp (xs[j]?.getD 0) (ks[j]?.getD 0)
  sizes : ∀ j, j < n → (ks[j]?.getD 0).natAbs ≤ 16384

theorem Words.below {B : Nat} {w w' : World} {b o n : Nat} {xs : List Nat} {ks : List Int} (h : Words w b o n xs ks) (hb : Below B w w') (hB : b < B) : Words w' b o n xs ks :=
  ⟨h.len, h.lenk, h.small, fun j hj => (hb.cell (by exact hB)).trans (h.cells j hj), h.words, h.smps, h.sizes⟩

set_option maxRecDepth 100000 in
set_option maxHeartbeats 3200000 in
theorem gridOf_any (W H : Int) (b o n c : Nat) (xs : List Nat) (ks : List Int) (w : World) (hw : Words w b o n xs ks) (hb : b < w.heap.size) :
    Calls Tryz.prog 135 #[.agg #[.int .i64 W, .int .i64 H, .slice (some ⟨b, o, none⟩) n c]] w fun e w' =>
      e = .returned (.agg #[.int .i64 W, .int .i64 H, .slice (some ⟨w.heap.size + 2, 0, none⟩) n n]) ∧ w'.ownsRow (w.heap.size + 2) 3 1 (.slice (some ⟨w.heap.size + 2, 0, none⟩) n n) n (ks.map (Value.int .i64)) ∧ Below w.heap.size w w' := by
  have K : ∀ w1 : World, Below w.heap.size w w1 → w1.heap.size = w.heap.size + 2 → Calls Tryz.prog 197 #[.slice (some ⟨b, o, none⟩) n c, .func (.func 198) #[] #[]] w1 fun e w' =>
      e = .returned (.slice (some ⟨w.heap.size + 2, 0, none⟩) n n) ∧ w'.ownsRow (w.heap.size + 2) 3 1 (.slice (some ⟨w.heap.size + 2, 0, none⟩) n n) n (ks.map (Value.int .i64)) ∧ Below (w.heap.size + 2) w1 w' := by
    intro w1 h1 hs
    have hw1 := hw.below h1 hb
    rw [← hs]
    exact mapped_int b o n c xs ks hw1.len hw1.lenk hw1.small (by omega) hw1.cells (fun j hj => ⟨hw1.smps j hj, Nat.lt_of_le_of_lt (hw1.sizes j hj) (by decide)⟩)
  have HK := Lib.hid K
  clear K hw
  go_enter Tryz.func135, Tryz.ntmps135
  go_wp2_with fail
  go_region_held3 (fun w' => w'.cell? ⟨w.heap.size, 0, none⟩ = some (.int .i64 W) ∧ w'.cell? ⟨w.heap.size, 1, none⟩ = some (.int .i64 H) ∧ w'.cell? ⟨w.heap.size, 2, none⟩ = some (.slice (some ⟨b, o, none⟩) n c))
    (first | go_keep | (go_split_ands; refine ⟨?_, ?_, ?_⟩ <;> rw [hb1.cell (by simp; try omega)] <;> assumption))
    ((go_at_call 197; refine (HK.out _ ?_ ?_).mono ?_; rotate_left 2; rintro e w' ⟨rfl, hown, hb1⟩
      have s0 : w'.cell? ⟨w.heap.size + 1, 0, none⟩ = some (.int .i64 0) := by rw [hb1.cell (by simp)]; simp [go_sem]
      have s1 : w'.cell? ⟨w.heap.size + 1, 1, none⟩ = some (.int .i64 0) := by rw [hb1.cell (by simp)]; simp [go_sem]
      have s2 : w'.cell? ⟨w.heap.size + 1, 2, none⟩ = some (.slice none 0 0) := by rw [hb1.cell (by simp)]; simp [go_sem]
      have f0 : w'.frozen? ⟨w.heap.size + 1, 0, none⟩ = false := by rw [hb1.frozen (by simp)]; simp [go_sem]
      have f1 : w'.frozen? ⟨w.heap.size + 1, 1, none⟩ = false := by rw [hb1.frozen (by simp)]; simp [go_sem]
      have f2 : w'.frozen? ⟨w.heap.size + 1, 2, none⟩ = false := by rw [hb1.frozen (by simp)]; simp [go_sem]
      rotate_left 1; exact (((Below.refl _ w).alloc (Nat.le_refl _) _).alloc (by simp) _).drew; simp))
  all_goals
    go_wp2
    refine bodyPost_ret (v := .agg #[.int .i64 W, .int .i64 H, .slice (some ⟨w.heap.size + 2, 0, none⟩) n n]) (by simp [results, Tryz.results135, go_sem, s0, s1, s2]) rfl ⟨rfl, ?_, ?_⟩
    · exact ownsRow_setCell_below (ownsRow_setCell_below (ownsRow_setCell_below hown (by simp) _) (by simp) _) (by simp) _
    · exact ((((((Below.refl _ w).alloc (Nat.le_refl _) _).alloc (by simp) _).drew.trans (hb1.mono (by omega))).setCell (p := ⟨w.heap.size + 1, 0, none⟩) (by simp) _).setCell (p := ⟨w.heap.size + 1, 1, none⟩) (by simp) _).setCell (p := ⟨w.heap.size + 1, 2, none⟩) (by simp) _
end Go.Proofs.YtpmjiifdnnhecaaGreatDoor

/-
  Contract of grid.toMap where the integers are those of samples: the map.
-/

namespace Go.Proofs.YtpmjiifdnnhecaaGreatDoor
open Go.RowKit
set_option linter.unusedVariables false

set_option maxRecDepth 100000 in
set_option maxHeartbeats 3200000 in
theorem toMap_any (W H : Int) (g o n c : Nat) (ks : List Int) (hk : ks.length = n) (hn : n ≤ 4096) (w : World) (hg : g < w.heap.size) (hc : ∀ j, j < n → w.cell? ⟨g, o + j, none⟩ = some (.int .i64 (ks[j]?.getD 0))) (hs : ∀ j, j < n → (ks[j]?.getD 0).natAbs ≤ 16384) :
    Calls Tryz.prog 153 #[.agg #[.int .i64 W, .int .i64 H, .slice (some ⟨g, o, none⟩) n c]] w fun e w' =>
      e = .returned (.tuple #[.agg #[.int .i64 W, .int .i64 H, .slice (some ⟨w.heap.size + 2, 0, none⟩) n n], .int .i64 0]) ∧ w'.ownsRow (w.heap.size + 2) 119 1 (.slice (some ⟨w.heap.size + 2, 0, none⟩) n n) n (ks.map (fun n : Int => Value.float .f32 (smpOf n))) ∧ Below w.heap.size w w' := by
  have K : ∀ w1 : World, Below w.heap.size w w1 → w1.heap.size = w.heap.size + 2 → Calls Tryz.prog 203 #[.slice (some ⟨g, o, none⟩) n c, .func (.func 168) #[] #[]] w1 fun e w' =>
      e = .returned (.slice (some ⟨w.heap.size + 2, 0, none⟩) n n) ∧ w'.ownsRow (w.heap.size + 2) 119 1 (.slice (some ⟨w.heap.size + 2, 0, none⟩) n n) n (ks.map (fun n : Int => Value.float .f32 (smpOf n))) ∧ Below (w.heap.size + 2) w1 w' := by
    intro w1 h1 hs1
    rw [← hs1]
    exact mapped_sample g o n c ks ks hk hk hn (by omega) (fun j hj => (h1.cell (by exact hg)).trans (hc j hj)) (fun j hj => ⟨rfl, Nat.lt_of_le_of_lt (hs j hj) (by decide)⟩)
  have HK := Lib.hid K
  have HC := Lib.hid hc
  have HS := Lib.hid hs
  clear K hc hs hk
  go_enter Tryz.func153, Tryz.ntmps153
  go_wp2_with fail
  obtain ⟨W0, hW0⟩ : ∃ W0, ((w.alloc (.cells #[.int .i64 W, .int .i64 H, .slice (some ⟨g, o, none⟩) n c] 225)).alloc (.cells #[.int .i64 0, .int .i64 0, .slice none 0 0] 121)) = W0 := ⟨_, rfl⟩
  have hB0 : Below w.heap.size w W0 := by rw [← hW0]; exact ((Below.refl _ w).alloc (Nat.le_refl _) _).alloc (by simp) _
  have hz0 : W0.heap.size = w.heap.size + 2 := by rw [← hW0]; simp
  have c0 : W0.cell? ⟨w.heap.size, 0, none⟩ = some (.int .i64 W) := by rw [← hW0]; simp [go_sem]
  have c1 : W0.cell? ⟨w.heap.size, 1, none⟩ = some (.int .i64 H) := by rw [← hW0]; simp [go_sem]
  have c2 : W0.cell? ⟨w.heap.size, 2, none⟩ = some (.slice (some ⟨g, o, none⟩) n c) := by rw [← hW0]; simp [go_sem]
  have t0 : W0.cell? ⟨w.heap.size + 1, 0, none⟩ = some (.int .i64 0) := by rw [← hW0]; simp [go_sem]
  have t1 : W0.cell? ⟨w.heap.size + 1, 1, none⟩ = some (.int .i64 0) := by rw [← hW0]; simp [go_sem]
  have t2 : W0.cell? ⟨w.heap.size + 1, 2, none⟩ = some (.slice none 0 0) := by rw [← hW0]; simp [go_sem]
  have fz : ∀ j, W0.frozen? ⟨w.heap.size + 1, j, none⟩ = false := fun j => by rw [← hW0]; simp [go_sem]
  rw [hW0]
  have HB0 := Lib.hid hB0
  have HZ0 := Lib.hid hz0
  clear hW0 hB0 hz0
  go_loop [9] (fun i => ∃ k : Nat, k ≤ n ∧ i = .int .i64 k) (fun i => n - (intOf i).toNat)
  case atStart => exact ⟨0, Nat.zero_le _, rfl⟩
  case round =>
    obtain ⟨k, hkn, rfl⟩ := hrel
    by_cases hlt : k < n
    · have hcell : W0.cell? ⟨g, o + k, none⟩ = some (.int .i64 (ks[k]?.getD 0)) := (HB0.out.cell (by exact hg)).trans (HC.out k hlt)
      have hs := HS.out k hlt
      obtain ⟨v, hv⟩ : ∃ v, ks[k]?.getD 0 = v := ⟨_, rfl⟩
      rw [hv] at hcell hs
      have h1 : ¬ (v < -16384) := by omega
      have h2 : ¬ (16384 < v) := by omega
      clear hs hv
      go_wp2
      go_round
      case rel => exact ⟨k + 1, by omega, by go_num⟩
      case measure => simp [intOf]; omega
    · go_wp2_with fail
      go_region_held3 (fun w' => w'.cell? ⟨w.heap.size, 0, none⟩ = some (.int .i64 W) ∧ w'.cell? ⟨w.heap.size, 1, none⟩ = some (.int .i64 H) ∧ w'.cell? ⟨w.heap.size, 2, none⟩ = some (.slice (some ⟨g, o, none⟩) n c))
        (first | go_keep | (go_split_ands; refine ⟨?_, ?_, ?_⟩ <;> rw [hb1.cell (by simp; try omega)] <;> assumption))
        ((go_at_call 203; refine (HK.out _ HB0.out.drew (by show W0.heap.size = _; exact HZ0.out)).mono ?_; rintro e w' ⟨rfl, hown, hb1⟩
          have s0 : w'.cell? ⟨w.heap.size + 1, 0, none⟩ = some (.int .i64 0) := by rw [hb1.cell (by simp)]; assumption
          have s1 : w'.cell? ⟨w.heap.size + 1, 1, none⟩ = some (.int .i64 0) := by rw [hb1.cell (by simp)]; assumption
          have s2 : w'.cell? ⟨w.heap.size + 1, 2, none⟩ = some (.slice none 0 0) := by rw [hb1.cell (by simp)]; assumption
          have f0 : w'.frozen? ⟨w.heap.size + 1, 0, none⟩ = false := by rw [hb1.frozen (by simp)]; exact fz 0
          have f1 : w'.frozen? ⟨w.heap.size + 1, 1, none⟩ = false := by rw [hb1.frozen (by simp)]; exact fz 1
          have f2 : w'.frozen? ⟨w.heap.size + 1, 2, none⟩ = false := by rw [hb1.frozen (by simp)]; exact fz 2))
      all_goals
        go_wp2
        refine bodyPost_ret (v := .tuple #[.agg #[.int .i64 W, .int .i64 H, .slice (some ⟨w.heap.size + 2, 0, none⟩) n n], .int .i64 0]) (by simp [results, Tryz.results153, go_sem, s0, s1, s2]) rfl ⟨rfl, ?_, ?_⟩
        · exact ownsRow_setCell_below (ownsRow_setCell_below (ownsRow_setCell_below hown (by simp) _) (by simp) _) (by simp) _
        · exact (((HB0.out.drew.trans (hb1.mono (by omega))).setCell (p := ⟨w.heap.size + 1, 0, none⟩) (by simp) _).setCell (p := ⟨w.heap.size + 1, 1, none⟩) (by simp) _).setCell (p := ⟨w.heap.size + 1, 2, none⟩) (by simp) _
end Go.Proofs.YtpmjiifdnnhecaaGreatDoor

/-
  Contract of CheckMap for a map that is right: width and height from 1 to 64, as many samples as places, each one a sample's word.
-/

namespace Go.Proofs.YtpmjiifdnnhecaaGreatDoor
open Go.RowKit
set_option linter.unusedVariables false

/-- A right map in memory. -/
structure RightMap (w : World) (W H : Int) (b o n : Nat) (xs : List Nat) (ks : List Int) : Prop extends Words w b o n xs ks where
  wid : 1 ≤ W ∧ W ≤ 64
  hei : 1 ≤ H ∧ H ≤ 64
  area : W * H = n

theorem RightMap.below {B : Nat} {w w' : World} {W H : Int} {b o n : Nat} {xs : List Nat} {ks : List Int} (h : RightMap w W H b o n xs ks) (hb : Below B w w') (hB : b < B) : RightMap w' W H b o n xs ks :=
  ⟨h.toWords.below hb hB, h.wid, h.hei, h.area⟩

set_option maxRecDepth 100000 in
set_option maxHeartbeats 3200000 in
theorem checkMap_any (W H : Int) (b o n c : Nat) (xs : List Nat) (ks : List Int) (w : World) (hw : RightMap w W H b o n xs ks) (hb : b < w.heap.size) :
    Calls Tryz.prog 134 #[.agg #[.int .i64 W, .int .i64 H, .slice (some ⟨b, o, none⟩) n c]] w fun e w' => e = .returned (.int .i64 0) ∧ Below w.heap.size w w' := by
  have hW := hw.wid
  have hH := hw.hei
  have hA := hw.area
  have eW := rangeErr_in hW.1 hW.2
  have eH := rangeErr_in hH.1 hH.2
  have KW : ∀ w1 : World, Calls Tryz.prog 137 #[.int .i64 W] w1 fun e w' => e = .returned (.int .i64 0) ∧ w1 = w' := fun w1 => by rw [← eW]; exact checkSide_any W w1
  have KH : ∀ w1 : World, Calls Tryz.prog 137 #[.int .i64 H] w1 fun e w' => e = .returned (.int .i64 0) ∧ w1 = w' := fun w1 => by rw [← eH]; exact checkSide_any H w1
  have HKW := Lib.hid KW
  have HKH := Lib.hid KH
  have KM : ∀ w1 : World, Below w.heap.size w w1 → w1.heap.size = w.heap.size + 2 → Calls Tryz.prog 155 #[.slice (some ⟨b, o, none⟩) n c, .func (.func 156) #[] #[]] w1 fun e w' =>
      e = .returned (.slice (some ⟨w.heap.size + 2, 0, none⟩) n n) ∧ w'.ownsRow (w.heap.size + 2) 26 1 (.slice (some ⟨w.heap.size + 2, 0, none⟩) n n) n (ks.map (fun _ => Value.int .i64 0)) ∧ Below (w.heap.size + 2) w1 w' := by
    intro w1 h1 hs
    have hw1 := hw.below h1 hb
    rw [← hs]
    exact mapped_check b o n c xs ks hw1.len hw1.lenk hw1.small (by omega) hw1.cells (fun j hj => ⟨hw1.words j hj, hw1.smps j hj, hw1.sizes j hj⟩)
  have HM := Lib.hid KM
  have Hw := Lib.hid hw
  have HA := Lib.hid hA
  have hn : W * H ≤ 4096 := by have := hw.small; omega
  have hn0 : 0 ≤ W * H := by omega
  have hne : (n : Int) = W * H := hA.symm
  have e1 : ((n : Int) != W * H) = false := by rw [hne]; simp
  have hsm := hw.small
  clear KM KW KH eW eH hA hne hw
  go_enter Tryz.func134, Tryz.ntmps134
  go_wp2_with fail
  go_region_held3 (fun w' => w'.cell? ⟨w.heap.size, 0, none⟩ = some (.int .i64 W) ∧ w'.cell? ⟨w.heap.size, 1, none⟩ = some (.int .i64 H))
    (go_keep)
    (first
      | ((go_at_call_of 137 (Value.int .i64 W); refine (HKW.out _).mono ?_; rintro e w' ⟨rfl, rfl⟩))
      | ((go_at_call_of 137 (Value.int .i64 H); refine (HKH.out _).mono ?_; rintro e w' ⟨rfl, rfl⟩))
      | ((go_at_call 77; refine (first_zeros _ 0 2 2 (by omega) _ ?_).mono ?_; rotate_left 1; rintro e w' ⟨rfl, rfl⟩; rotate_left 1; (intro j hj; match j, hj with | 0, _ => simp [go_sem] | 1, _ => simp [go_sem]))))
  all_goals
    go_wp2_with (first
      | (go_at_call 155; refine (HM.out _ ?_ ?_).mono ?_; rotate_left 2; rintro e w' ⟨rfl, hown, hb1⟩; rotate_left 1; exact (((Below.refl _ w).alloc (Nat.le_refl _) _).alloc (by simp) _).drew; simp)
      | (go_at_call 77; refine (first_zeros _ 0 n n (by omega) _ (fun j hj => by rw [Nat.zero_add]; exact owns_cell hown (by have := (Hw.out).lenk; simp [this, hj]))).mono ?_; rintro e w' ⟨rfl, rfl⟩))
    go_ret
    exact ⟨rfl, (((Below.refl _ w).alloc (Nat.le_refl _) _).alloc (by simp) _).drew.trans (hb1.mono (by omega))⟩
end Go.Proofs.YtpmjiifdnnhecaaGreatDoor

/-
  Plain facts on any word of float32: if it passes the reference's tests for a sample, it stands for k/16 with k from -16384 to 16384.
-/

namespace Go.Proofs.YtpmjiifdnnhecaaGreatDoor
open Ieee

theorem isNum_of_read {f : Format} {x : Nat} {s : Bool} {m : Nat} {e : Int} (h : f.read x = .number s m e) : IsNum f x s (m * 2 ^ (e - f.leastPlace).toNat) := by
  refine ⟨m, e, h, ?_, ?_, rfl⟩
  · unfold Format.read at h
    dsimp only at h
    split at h
    · simp only [Datum.number.injEq] at h; omega
    · split at h
      · simp only [Datum.number.injEq] at h; omega
      · split at h <;> cases h
  · have hb : f.binade = 2 ^ f.fractionBits := rfl
    have hbp : 0 < f.binade := Nat.two_pow_pos _
    rw [Nat.pow_succ, Nat.mul_comm, ← hb]
    unfold Format.read at h
    dsimp only at h
    split at h
    · simp only [Datum.number.injEq] at h; omega
    · split at h
      · simp only [Datum.number.injEq] at h
        have := Nat.mod_lt (x % f.signWeight) hbp
        omega
      · split at h <;> cases h

theorem cmp_gt_of {a b : Int} (h : b < a) : compare a b = .gt := by
  show compareOfLessAndEq a b = .gt
  unfold compareOfLessAndEq
  rw [if_neg (by omega), if_neg (by omega)]
theorem cmp_lt_of {a b : Int} (h : a < b) : compare a b = .lt := by
  show compareOfLessAndEq a b = .lt
  unfold compareOfLessAndEq
  rw [if_pos h]
theorem cmp_eq_of {a b : Int} (h : compare a b = .eq) : a = b := by
  have h' : compareOfLessAndEq a b = .eq := h
  unfold compareOfLessAndEq at h'
  split at h'
  · cases h'
  · split at h'
    · assumption
    · cases h'

theorem isNum1024 : IsNum single 1149239296 false (1024 * 2 ^ 149) := ⟨2 ^ 23, -13, by decide +kernel, by decide, by decide, by decide +kernel⟩
theorem isNum1024n : IsNum single 3296722944 true (1024 * 2 ^ 149) := ⟨2 ^ 23, -13, by decide +kernel, by decide, by decide, by decide +kernel⟩

theorem checkPart_num {x : Nat} (t1 : (single.order x x != some .eq) = false) (t2 : (single.order x 2139095039 == some .gt) = false) (t3 : (single.order x 4286578687 == some .lt) = false)
    (t4 : (single.order x 1149239296 == some .gt) = false) (t5 : (single.order x 3296722944 == some .lt) = false) : ∃ s v, IsNum single x s v ∧ v ≤ 1024 * 2 ^ 149 := by
  cases hd : single.read x with
  | nan a b =>
    exfalso
    have : single.order x x = none := by unfold Format.order; rw [hd]; rfl
    rw [this] at t1; cases t1
  | infinity s =>
    exfalso
    cases s with
    | false =>
      have hm : single.read 2139095039 = .number false 16777215 104 := by decide +kernel
      have : single.order x 2139095039 = some .gt := by unfold Format.order; rw [hd, hm]; rfl
      rw [this] at t2; cases t2
    | true =>
      have hm : single.read 4286578687 = .number true 16777215 104 := by decide +kernel
      have : single.order x 4286578687 = some .lt := by unfold Format.order; rw [hd, hm]; rfl
      rw [this] at t3; cases t3
  | number s m e =>
    have h := isNum_of_read hd
    generalize m * 2 ^ (e - single.leastPlace).toNat = v at h
    refine ⟨s, v, h, ?_⟩
    rw [h.order isNum1024] at t4
    rw [h.order isNum1024n] at t5
    generalize hc : 1024 * 2 ^ 149 = c at t4 t5 ⊢
    refine Classical.byContradiction fun hlt => ?_
    cases s with
    | false =>
      rw [cmp_gt_of (show sgn false c < sgn false v by unfold sgn; simp only [Bool.false_eq_true, if_false]; omega)] at t4
      cases t4
    | true =>
      rw [cmp_lt_of (show sgn true v < sgn true c by unfold sgn; simp only [if_true]; omega)] at t5
      cases t5

theorem checkPart_fin {x : Nat} {s : Bool} {v : Nat} (h : IsNum single x s v) (hv : v ≤ 1024 * 2 ^ 149) :
    ∃ r q, floatBits .mul .f32 1098907648 x = some r ∧ floatToIntVal .f32 r .i64 = some q ∧ ((single.order (floatOfInt .f32 q) r != some .eq) = false → Smp x q ∧ q.natAbs ≤ 16384) := by
  have hc : single.read 1098907648 = .number false (2 ^ single.fractionBits) (((4 : Nat) : Int) - single.fractionBits) := by decide +kernel
  have hmax : v * 2 ^ 4 < 2 ^ (single.fractionBits + 2 ^ single.exponentBits - 2) := by
    have h1 : v < 2 ^ 160 := Nat.lt_of_le_of_lt hv (by decide)
    exact pow_split_lt h1 (by decide)
  obtain ⟨r, _, m2, m3⟩ := h.mul_pow two32 hc hmax
  have ht := m3.toInt (by decide)
  have eL : (-single.leastPlace).toNat = 149 := by decide
  rw [eL] at ht
  have hq : v * 2 ^ 4 / 2 ^ 149 ≤ 16384 := by
    have h1 : v * 2 ^ 4 ≤ 16384 * 2 ^ 149 := by
      have := Nat.mul_le_mul_right (2 ^ 4) hv
      have e : 1024 * 2 ^ 149 * 2 ^ 4 = 16384 * 2 ^ 149 := by decide +kernel
      rw [e] at this; exact this
    have h2 := Nat.div_le_div_right (c := 2 ^ 149) h1
    rwa [Nat.mul_div_cancel _ (Nat.two_pow_pos _)] at h2
  generalize hqq : v * 2 ^ 4 / 2 ^ 149 = p at ht hq
  have hpa : (sgn s p).natAbs = p := by unfold sgn; cases s <;> simp
  refine ⟨r, sgn s p, m2, ?_, ?_⟩
  · unfold floatToIntVal
    have ht' : (FloatKind.f32.decode r).toInt .zero = some (sgn s p) := ht
    rw [ht']
    have : IntKind.i64.min ≤ sgn s p ∧ sgn s p ≤ IntKind.i64.max := by
      have e1 : IntKind.i64.min = -9223372036854775808 := by decide
      have e2 : IntKind.i64.max = 9223372036854775807 := by decide
      rw [e1, e2]; omega
    simp only [this, and_self, if_true]
  · intro hne
    have hy := isNum_ofInt (sgn s p) (by rw [hpa]; exact Nat.lt_of_le_of_lt hq (by decide))
    rw [hy.order m3, hpa] at hne
    have heq : compare (sgn (decide (sgn s p < 0)) (p * 2 ^ 149)) (sgn s (v * 2 ^ 4)) = .eq := by
      cases hcmp : compare (sgn (decide (sgn s p < 0)) (p * 2 ^ 149)) (sgn s (v * 2 ^ 4)) <;> rw [hcmp] at hne <;> first | rfl | cases hne
    have hab : p * 2 ^ 149 = v * 2 ^ 4 := by
      have e := congrArg Int.natAbs (cmp_eq_of heq)
      have n1 : ∀ (b : Bool) (n : Nat), (sgn b n).natAbs = n := fun b n => by unfold sgn; cases b <;> simp
      rwa [n1, n1] at e
    have hv2 : v = p * 2 ^ 145 := by
      have e : p * 2 ^ 149 = p * 2 ^ 145 * 2 ^ 4 := by rw [Nat.mul_assoc]
      rw [e] at hab
      exact (Nat.eq_of_mul_eq_mul_right (by decide) hab).symm
    refine ⟨⟨s, ?_, ?_, ?_⟩, by rw [hpa]; exact hq⟩
    · rw [hpa, ← hv2]; exact h
    · intro hs; unfold sgn at hs; cases s
      · simp only [Bool.false_eq_true, if_false] at hs; omega
      · rfl
    · intro hs; unfold sgn at hs; cases s
      · rfl
      · simp only [if_true] at hs; omega
end Go.Proofs.YtpmjiifdnnhecaaGreatDoor
