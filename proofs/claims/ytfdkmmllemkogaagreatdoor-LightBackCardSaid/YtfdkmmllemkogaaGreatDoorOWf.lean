/-
  Contract of gridOf: the grid of a map whose samples' words are known.
-/
import Derived.Test.YtfdkmmllemkogaaGreatDoorOWa
import Derived.Handy
import Derived.RangeFuncNested
import Derived.RangeFuncBound
import Derived.RangeFuncCalls
import Derived.RangeFuncLeaves
import Derived.RangeFuncBox
import Derived.Shelf.Abstract
import Derived.Shelf.RegionOpen
import Derived.WalkKit
import Derived.OwnWalkIn
import Derived.TacticsInMore
import Derived.LoopNIn
import Derived.LoopIn
import Derived.Maps.AppendAt
import Derived.Lib.Hide
import Derived.Test.YtfdkmmllemkogaaGreatDoorProg
namespace Go.Proofs.YtfdkmmllemkogaaGreatDoor
open Go.RowKit
set_option linter.unusedVariables false

/-- The samples of a map, word by word, and their integers. -/
structure Words (w : World) (b o n : Nat) (xs : List Nat) (ks : List Int) : Prop where
  len : xs.length = n
  lenk : ks.length = n
  small : n ≤ 4096
  cells : ∀ j, j < n → w.cell? ⟨b, o + j, none⟩ = some (.float .f32 (xs[j]?.getD 0))
  words : ∀ j, j < n → xs[j]?.getD 0 < 2 ^ 32
  smps : ∀ j, j < n → Smp (xs[j]?.getD 0) (ks[j]?.getD 0)
  sizes : ∀ j, j < n → (ks[j]?.getD 0).natAbs ≤ 16384

theorem Words.below {B : Nat} {w w' : World} {b o n : Nat} {xs : List Nat} {ks : List Int} (h : Words w b o n xs ks) (hb : Below B w w') (hB : b < B) : Words w' b o n xs ks :=
  ⟨h.len, h.lenk, h.small, fun j hj => (hb.cell (by exact hB)).trans (h.cells j hj), h.words, h.smps, h.sizes⟩

set_option maxRecDepth 100000 in
set_option maxHeartbeats 3200000 in
theorem gridOf_any (W H : Int) (b o n c : Nat) (xs : List Nat) (ks : List Int) (w : World) (hw : Words w b o n xs ks) (hb : b < w.heap.size) :
    Calls Tryz.prog 123 #[.agg #[.int .i64 W, .int .i64 H, .slice (some ⟨b, o, none⟩) n c]] w fun e w' =>
      e = .returned (.agg #[.int .i64 W, .int .i64 H, .slice (some ⟨w.heap.size + 2, 0, none⟩) n n]) ∧ w'.ownsRow (w.heap.size + 2) 3 1 (.slice (some ⟨w.heap.size + 2, 0, none⟩) n n) n (ks.map (Value.int .i64)) ∧ Below w.heap.size w w' := by
  have K : ∀ w1 : World, Below w.heap.size w w1 → w1.heap.size = w.heap.size + 2 → Calls Tryz.prog 199 #[.slice (some ⟨b, o, none⟩) n c, .func (.func 200) #[] #[]] w1 fun e w' =>
      e = .returned (.slice (some ⟨w.heap.size + 2, 0, none⟩) n n) ∧ w'.ownsRow (w.heap.size + 2) 3 1 (.slice (some ⟨w.heap.size + 2, 0, none⟩) n n) n (ks.map (Value.int .i64)) ∧ Below (w.heap.size + 2) w1 w' := by
    intro w1 h1 hs
    have hw1 := hw.below h1 hb
    rw [← hs]
    exact mapped_int b o n c xs ks hw1.len hw1.lenk hw1.small (by omega) hw1.cells (fun j hj => ⟨hw1.smps j hj, Nat.lt_of_le_of_lt (hw1.sizes j hj) (by decide)⟩)
  have HK := Lib.hid K
  clear K hw
  go_enter Tryz.func123, Tryz.ntmps123
  go_wp2_with fail
  go_region_held3 (fun w' => w'.cell? ⟨w.heap.size, 0, none⟩ = some (.int .i64 W) ∧ w'.cell? ⟨w.heap.size, 1, none⟩ = some (.int .i64 H) ∧ w'.cell? ⟨w.heap.size, 2, none⟩ = some (.slice (some ⟨b, o, none⟩) n c))
    (first | go_keep | (go_split_ands; refine ⟨?_, ?_, ?_⟩ <;> rw [hb1.cell (by simp; try omega)] <;> assumption))
    ((go_at_call 199; refine (HK.out _ ?_ ?_).mono ?_; rotate_left 2; rintro e w' ⟨rfl, hown, hb1⟩
      have s0 : w'.cell? ⟨w.heap.size + 1, 0, none⟩ = some (.int .i64 0) := by rw [hb1.cell (by simp)]; simp [go_sem]
      have s1 : w'.cell? ⟨w.heap.size + 1, 1, none⟩ = some (.int .i64 0) := by rw [hb1.cell (by simp)]; simp [go_sem]
      have s2 : w'.cell? ⟨w.heap.size + 1, 2, none⟩ = some (.slice none 0 0) := by rw [hb1.cell (by simp)]; simp [go_sem]
      have f0 : w'.frozen? ⟨w.heap.size + 1, 0, none⟩ = false := by rw [hb1.frozen (by simp)]; simp [go_sem]
      have f1 : w'.frozen? ⟨w.heap.size + 1, 1, none⟩ = false := by rw [hb1.frozen (by simp)]; simp [go_sem]
      have f2 : w'.frozen? ⟨w.heap.size + 1, 2, none⟩ = false := by rw [hb1.frozen (by simp)]; simp [go_sem]
      rotate_left 1; exact (((Below.refl _ w).alloc (Nat.le_refl _) _).alloc (by simp) _).drew; simp))
  all_goals
    go_wp2
    refine bodyPost_ret (v := .agg #[.int .i64 W, .int .i64 H, .slice (some ⟨w.heap.size + 2, 0, none⟩) n n]) (by simp [results, Tryz.results123, go_sem, s0, s1, s2]) rfl ⟨rfl, ?_, ?_⟩
    · exact ownsRow_setCell_below (ownsRow_setCell_below (ownsRow_setCell_below hown (by simp) _) (by simp) _) (by simp) _
    · exact ((((((Below.refl _ w).alloc (Nat.le_refl _) _).alloc (by simp) _).drew.trans (hb1.mono (by omega))).setCell (p := ⟨w.heap.size + 1, 0, none⟩) (by simp) _).setCell (p := ⟨w.heap.size + 1, 1, none⟩) (by simp) _).setCell (p := ⟨w.heap.size + 1, 2, none⟩) (by simp) _
end Go.Proofs.YtfdkmmllemkogaaGreatDoor

/-
  Contract of CheckMap for a map that is right: width and height from 1 to 64, as many samples as places, each one a sample's word.
-/
namespace Go.Proofs.YtfdkmmllemkogaaGreatDoor
open Go.RowKit
set_option linter.unusedVariables false

/-- A right map in memory. -/
structure RightMap (w : World) (W H : Int) (b o n : Nat) (xs : List Nat) (ks : List Int) : Prop extends Words w b o n xs ks where
  wid : 1 ≤ W ∧ W ≤ 64
  hei : 1 ≤ H ∧ H ≤ 64
  area : W * H = n

theorem RightMap.below {B : Nat} {w w' : World} {W H : Int} {b o n : Nat} {xs : List Nat} {ks : List Int} (h : RightMap w W H b o n xs ks) (hb : Below B w w') (hB : b < B) : RightMap w' W H b o n xs ks :=
  ⟨h.toWords.below hb hB, h.wid, h.hei, h.area⟩

set_option maxRecDepth 100000 in
set_option maxHeartbeats 3200000 in
theorem checkMap_any (W H : Int) (b o n c : Nat) (xs : List Nat) (ks : List Int) (w : World) (hw : RightMap w W H b o n xs ks) (hb : b < w.heap.size) :
    Calls Tryz.prog 47 #[.agg #[.int .i64 W, .int .i64 H, .slice (some ⟨b, o, none⟩) n c]] w fun e w' => e = .returned (.int .i64 0) ∧ Below w.heap.size w w' := by
  have hW := hw.wid
  have hH := hw.hei
  have hA := hw.area
  have eW := rangeErr_in hW.1 hW.2
  have eH := rangeErr_in hH.1 hH.2
  have KW : ∀ w1 : World, Calls Tryz.prog 129 #[.int .i64 W] w1 fun e w' => e = .returned (.int .i64 0) ∧ w1 = w' := fun w1 => by rw [← eW]; exact checkSide_any W w1
  have KH : ∀ w1 : World, Calls Tryz.prog 129 #[.int .i64 H] w1 fun e w' => e = .returned (.int .i64 0) ∧ w1 = w' := fun w1 => by rw [← eH]; exact checkSide_any H w1
  have HKW := Lib.hid KW
  have HKH := Lib.hid KH
  have KM : ∀ w1 : World, Below w.heap.size w w1 → w1.heap.size = w.heap.size + 2 → Calls Tryz.prog 130 #[.slice (some ⟨b, o, none⟩) n c, .func (.func 30) #[] #[]] w1 fun e w' =>
      e = .returned (.slice (some ⟨w.heap.size + 2, 0, none⟩) n n) ∧ w'.ownsRow (w.heap.size + 2) 26 1 (.slice (some ⟨w.heap.size + 2, 0, none⟩) n n) n (ks.map (fun _ => Value.int .i64 0)) ∧ Below (w.heap.size + 2) w1 w' := by
    intro w1 h1 hs
    have hw1 := hw.below h1 hb
    rw [← hs]
    exact mapped_check b o n c xs ks hw1.len hw1.lenk hw1.small (by omega) hw1.cells (fun j hj => ⟨hw1.words j hj, hw1.smps j hj, hw1.sizes j hj⟩)
  have HM := Lib.hid KM
  have Hw := Lib.hid hw
  have HA := Lib.hid hA
  have hn : W * H ≤ 4096 := by have := hw.small; omega
  have hn0 : 0 ≤ W * H := by omega
  have hne : (n : Int) = W * H := hA.symm
  have e1 : ((n : Int) != W * H) = false := by rw [hne]; simp
  have hsm := hw.small
  clear KM KW KH eW eH hA hne hw
  go_enter Tryz.func47, Tryz.ntmps47
  go_wp2_with fail
  go_region_held3 (fun w' => w'.cell? ⟨w.heap.size, 0, none⟩ = some (.int .i64 W) ∧ w'.cell? ⟨w.heap.size, 1, none⟩ = some (.int .i64 H))
    (go_keep)
    (first
      | ((go_at_call_of 129 (Value.int .i64 W); refine (HKW.out _).mono ?_; rintro e w' ⟨rfl, rfl⟩))
      | ((go_at_call_of 129 (Value.int .i64 H); refine (HKH.out _).mono ?_; rintro e w' ⟨rfl, rfl⟩))
      | ((go_at_call 109; refine (first_zeros _ 0 2 2 (by omega) _ ?_).mono ?_; rotate_left 1; rintro e w' ⟨rfl, rfl⟩; rotate_left 1; (intro j hj; match j, hj with | 0, _ => simp [go_sem] | 1, _ => simp [go_sem]))))
  all_goals
    go_wp2_with (first
      | (go_at_call 130; refine (HM.out _ ?_ ?_).mono ?_; rotate_left 2; rintro e w' ⟨rfl, hown, hb1⟩; rotate_left 1; exact (((Below.refl _ w).alloc (Nat.le_refl _) _).alloc (by simp) _).drew; simp)
      | (go_at_call 109; refine (first_zeros _ 0 n n (by omega) _ (fun j hj => by rw [Nat.zero_add]; exact owns_cell hown (by have := (Hw.out).lenk; simp [this, hj]))).mono ?_; rintro e w' ⟨rfl, rfl⟩))
    go_ret
    exact ⟨rfl, (((Below.refl _ w).alloc (Nat.le_refl _) _).alloc (by simp) _).drew.trans (hb1.mono (by omega))⟩
end Go.Proofs.YtfdkmmllemkogaaGreatDoor

/-
  Plain facts on any word of float32: if it passes the reference's tests for a sample, it stands for k/16 with k from -16384 to 16384.
-/
namespace Go.Proofs.YtfdkmmllemkogaaGreatDoor
open Ieee

theorem isNum_of_read {f : Format} {x : Nat} {s : Bool} {m : Nat} {e : Int} (h : f.read x = .number s m e) : IsNum f x s (m * 2 ^ (e - f.leastPlace).toNat) := by
  refine ⟨m, e, h, ?_, ?_, rfl⟩
  · unfold Format.read at h
    dsimp only at h
    split at h
    · simp only [Datum.number.injEq] at h; omega
    · split at h
      · simp only [Datum.number.injEq] at h; omega
      · split at h <;> cases h
  · have hb : f.binade = 2 ^ f.fractionBits := rfl
    have hbp : 0 < f.binade := Nat.two_pow_pos _
    rw [Nat.pow_succ, Nat.mul_comm, ← hb]
    unfold Format.read at h
    dsimp only at h
    split at h
    · simp only [Datum.number.injEq] at h; omega
    · split at h
      · simp only [Datum.number.injEq] at h
        have := Nat.mod_lt (x % f.signWeight) hbp
        omega
      · split at h <;> cases h

theorem cmp_gt_of {a b : Int} (h : b < a) : compare a b = .gt := by
  show compareOfLessAndEq a b = .gt
  unfold compareOfLessAndEq
  rw [if_neg (by omega), if_neg (by omega)]
theorem cmp_lt_of {a b : Int} (h : a < b) : compare a b = .lt := by
  show compareOfLessAndEq a b = .lt
  unfold compareOfLessAndEq
  rw [if_pos h]
theorem cmp_eq_of {a b : Int} (h : compare a b = .eq) : a = b := by
  have h' : compareOfLessAndEq a b = .eq := h
  unfold compareOfLessAndEq at h'
  split at h'
  · cases h'
  · split at h'
    · assumption
    · cases h'

theorem isNum1024 : IsNum single 1149239296 false (1024 * 2 ^ 149) := ⟨2 ^ 23, -13, by decide +kernel, by decide, by decide, by decide +kernel⟩
theorem isNum1024n : IsNum single 3296722944 true (1024 * 2 ^ 149) := ⟨2 ^ 23, -13, by decide +kernel, by decide, by decide, by decide +kernel⟩

theorem checkPart_num {x : Nat} (t1 : (single.order x x != some .eq) = false) (t2 : (single.order x 2139095039 == some .gt) = false) (t3 : (single.order x 4286578687 == some .lt) = false)
    (t4 : (single.order x 1149239296 == some .gt) = false) (t5 : (single.order x 3296722944 == some .lt) = false) : ∃ s v, IsNum single x s v ∧ v ≤ 1024 * 2 ^ 149 := by
  cases hd : single.read x with
  | nan a b =>
    exfalso
    have : single.order x x = none := by unfold Format.order; rw [hd]; rfl
    rw [this] at t1; cases t1
  | infinity s =>
    exfalso
    cases s with
    | false =>
      have hm : single.read 2139095039 = .number false 16777215 104 := by decide +kernel
      have : single.order x 2139095039 = some .gt := by unfold Format.order; rw [hd, hm]; rfl
      rw [this] at t2; cases t2
    | true =>
      have hm : single.read 4286578687 = .number true 16777215 104 := by decide +kernel
      have : single.order x 4286578687 = some .lt := by unfold Format.order; rw [hd, hm]; rfl
      rw [this] at t3; cases t3
  | number s m e =>
    have h := isNum_of_read hd
    generalize m * 2 ^ (e - single.leastPlace).toNat = v at h
    refine ⟨s, v, h, ?_⟩
    rw [h.order isNum1024] at t4
    rw [h.order isNum1024n] at t5
    generalize hc : 1024 * 2 ^ 149 = c at t4 t5 ⊢
    refine Classical.byContradiction fun hlt => ?_
    cases s with
    | false =>
      rw [cmp_gt_of (show sgn false c < sgn false v by unfold sgn; simp only [Bool.false_eq_true, if_false]; omega)] at t4
      cases t4
    | true =>
      rw [cmp_lt_of (show sgn true v < sgn true c by unfold sgn; simp only [if_true]; omega)] at t5
      cases t5

theorem checkPart_fin {x : Nat} {s : Bool} {v : Nat} (h : IsNum single x s v) (hv : v ≤ 1024 * 2 ^ 149) :
    ∃ r q, floatBits .mul .f32 1098907648 x = some r ∧ floatToIntVal .f32 r .i64 = some q ∧ ((single.order (floatOfInt .f32 q) r != some .eq) = false → Smp x q ∧ q.natAbs ≤ 16384) := by
  have hc : single.read 1098907648 = .number false (2 ^ single.fractionBits) (((4 : Nat) : Int) - single.fractionBits) := by decide +kernel
  have hmax : v * 2 ^ 4 < 2 ^ (single.fractionBits + 2 ^ single.exponentBits - 2) := by
    have h1 : v < 2 ^ 160 := Nat.lt_of_le_of_lt hv (by decide)
    exact pow_split_lt h1 (by decide)
  obtain ⟨r, _, m2, m3⟩ := h.mul_pow two32 hc hmax
  have ht := m3.toInt (by decide)
  have eL : (-single.leastPlace).toNat = 149 := by decide
  rw [eL] at ht
  have hq : v * 2 ^ 4 / 2 ^ 149 ≤ 16384 := by
    have h1 : v * 2 ^ 4 ≤ 16384 * 2 ^ 149 := by
      have := Nat.mul_le_mul_right (2 ^ 4) hv
      have e : 1024 * 2 ^ 149 * 2 ^ 4 = 16384 * 2 ^ 149 := by decide +kernel
      rw [e] at this; exact this
    have h2 := Nat.div_le_div_right (c := 2 ^ 149) h1
    rwa [Nat.mul_div_cancel _ (Nat.two_pow_pos _)] at h2
  generalize hqq : v * 2 ^ 4 / 2 ^ 149 = p at ht hq
  have hpa : (sgn s p).natAbs = p := by unfold sgn; cases s <;> simp
  refine ⟨r, sgn s p, m2, ?_, ?_⟩
  · unfold floatToIntVal
    have ht' : (FloatKind.f32.decode r).toInt .zero = some (sgn s p) := ht
    rw [ht']
    have : IntKind.i64.min ≤ sgn s p ∧ sgn s p ≤ IntKind.i64.max := by
      have e1 : IntKind.i64.min = -9223372036854775808 := by decide
      have e2 : IntKind.i64.max = 9223372036854775807 := by decide
      rw [e1, e2]; omega
    simp only [this, and_self, if_true]
  · intro hne
    have hy := isNum_ofInt (sgn s p) (by rw [hpa]; exact Nat.lt_of_le_of_lt hq (by decide))
    rw [hy.order m3, hpa] at hne
    have heq : compare (sgn (decide (sgn s p < 0)) (p * 2 ^ 149)) (sgn s (v * 2 ^ 4)) = .eq := by
      cases hcmp : compare (sgn (decide (sgn s p < 0)) (p * 2 ^ 149)) (sgn s (v * 2 ^ 4)) <;> rw [hcmp] at hne <;> first | rfl | cases hne
    have hab : p * 2 ^ 149 = v * 2 ^ 4 := by
      have e := congrArg Int.natAbs (cmp_eq_of heq)
      have n1 : ∀ (b : Bool) (n : Nat), (sgn b n).natAbs = n := fun b n => by unfold sgn; cases b <;> simp
      rwa [n1, n1] at e
    have hv2 : v = p * 2 ^ 145 := by
      have e : p * 2 ^ 149 = p * 2 ^ 145 * 2 ^ 4 := by rw [Nat.mul_assoc]
      rw [e] at hab
      exact (Nat.eq_of_mul_eq_mul_right (by decide) hab).symm
    refine ⟨⟨s, ?_, ?_, ?_⟩, by rw [hpa]; exact hq⟩
    · rw [hpa, ← hv2]; exact h
    · intro hs; unfold sgn at hs; cases s
      · simp only [Bool.false_eq_true, if_false] at hs; omega
      · rfl
    · intro hs; unfold sgn at hs; cases s
      · rfl
      · simp only [if_true] at hs; omega
end Go.Proofs.YtfdkmmllemkogaaGreatDoor

/-
  Contracts of the reference's check of a map, for any map with at most 4096 samples: if it returns 0 the map is right.
-/
namespace Go.Proofs.YtfdkmmllemkogaaGreatDoor
open Go.RowKit
set_option linter.unusedVariables false

theorem float1024 : floatOfInt .f32 1024 = 1149239296 := by decide +kernel
theorem sub1024 : floatBits .sub .f32 0 1149239296 = some 3296722944 := by decide +kernel

/-- What the reference's check of a number says: 0 only for a sample's word. -/
def PartPost (x : Nat) (r : Int) : Prop := r = 0 → ∃ k, Smp x k ∧ k.natAbs ≤ 16384

set_option maxHeartbeats 1600000 in
theorem checkPart_any (x : Nat) (w : World) :
    Calls Tryz.prog 119 #[.float .f32 x, .int .i64 1024] w fun e w' => ∃ r, e = .returned (.int .i64 r) ∧ Hid (PartPost x r) ∧ w = w' := by
  have c0 := run_ofInt 1024
  rw [float1024] at c0
  have c1 := run_sub 23 sub1024
  by_cases t1 : (FloatKind.f32.format.order x x != some .eq) = true
  · go_enter Tryz.func119, Tryz.ntmps119
    go_wp2
    go_ret
    exact ⟨1, rfl, fun h => (by cases h), rfl⟩
  have t1 := Bool.eq_false_iff.2 t1
  by_cases t2 : (FloatKind.f32.format.order x 2139095039 == some .gt) = true
  · go_enter Tryz.func119, Tryz.ntmps119
    go_wp2
    go_ret
    exact ⟨1, rfl, fun h => (by cases h), rfl⟩
  have t2 := Bool.eq_false_iff.2 t2
  by_cases t3 : (FloatKind.f32.format.order x 4286578687 == some .lt) = true
  · go_enter Tryz.func119, Tryz.ntmps119
    go_wp2
    go_ret
    exact ⟨1, rfl, fun h => (by cases h), rfl⟩
  have t3 := Bool.eq_false_iff.2 t3
  by_cases t4 : (FloatKind.f32.format.order x 1149239296 == some .gt) = true
  · go_enter Tryz.func119, Tryz.ntmps119
    go_wp2
    go_ret
    exact ⟨3, rfl, fun h => (by cases h), rfl⟩
  have t4 := Bool.eq_false_iff.2 t4
  by_cases t5 : (FloatKind.f32.format.order x 3296722944 == some .lt) = true
  · go_enter Tryz.func119, Tryz.ntmps119
    go_wp2
    go_ret
    exact ⟨3, rfl, fun h => (by cases h), rfl⟩
  have t5 := Bool.eq_false_iff.2 t5
  obtain ⟨s, v, hn, hv⟩ := checkPart_num t1 t2 t3 t4 t5
  obtain ⟨r, q, m1, m2, m3⟩ := checkPart_fin hn hv
  have c2 := run_mul 23 m1
  have c3 := run_toInt m2
  have c4 := run_ofInt q
  have M3 := Lib.hid m3
  clear hn hv m1 m2 m3
  by_cases t6 : (FloatKind.f32.format.order (floatOfInt .f32 q) r != some .eq) = true
  · go_enter Tryz.func119, Tryz.ntmps119
    go_wp2_with (go_at_call 42; refine (when_any true 3 _).mono ?_; rintro e w' ⟨rfl, rfl⟩)
    go_ret
    exact ⟨3, rfl, fun h => (by cases h), rfl⟩
  have t6 := Bool.eq_false_iff.2 t6
  have P := M3.out t6
  have HP := Lib.hid P
  clear P
  go_enter Tryz.func119, Tryz.ntmps119
  go_wp2_with (go_at_call 42; refine (when_any false 3 _).mono ?_; rintro e w' ⟨rfl, rfl⟩)
  go_ret
  exact ⟨0, rfl, fun _ => ⟨q, HP.out⟩, rfl⟩

set_option maxHeartbeats 400000 in
theorem refCheckSample_any (x : Nat) (w : World) :
    Calls Tryz.prog 31 #[.float .f32 x] w fun e w' => ∃ r, e = .returned (.int .i64 r) ∧ Hid (PartPost x r) ∧ w = w' := by
  go_enter Tryz.func31, Tryz.ntmps31
  go_wp2_with (go_at_call 119; refine (checkPart_any x _).mono ?_; rintro e w' ⟨r, rfl, hr, rfl⟩)
  go_ret
  exact ⟨r, rfl, hr, rfl⟩

/-- All words are samples'. -/
def AllSmp (n : Nat) (xs : List Nat) : Prop := ∀ j, j < n → ∃ k, Smp (xs[j]?.getD 0) k ∧ k.natAbs ≤ 16384

set_option maxHeartbeats 1600000 in
theorem checkSamples_any (b o n c : Nat) (xs : List Nat) (hm : n ≤ 4611686018427387904) (w : World)
    (hc : ∀ j, j < n → w.cell? ⟨b, o + j, none⟩ = some (.float .f32 (xs[j]?.getD 0))) :
    Calls Tryz.prog 70 #[.slice (some ⟨b, o, none⟩) n c] w fun e w' => ∃ r, e = .returned (.int .i64 r) ∧ Hid (r = 0 → AllSmp n xs) ∧ w = w' := by
  have Hc := Lib.hid hc
  clear hc
  go_enter Tryz.func70, Tryz.ntmps70
  go_wp2
  go_loop [3] (fun i => ∃ k : Nat, k ≤ n ∧ i = .int .i64 k ∧ Hid (∀ j, j < k → ∃ q, Smp (xs[j]?.getD 0) q ∧ q.natAbs ≤ 16384)) (fun i => n - (intOf i).toNat)
  case atStart => exact ⟨0, Nat.zero_le _, rfl, fun j hj => absurd hj (by omega)⟩
  case round =>
    obtain ⟨k, hk, rfl, hh⟩ := hrel
    by_cases hlt : k < n
    · have hcell := Hc.out k hlt
      go_wp2_with (go_at_call 31; refine (refCheckSample_any _ _).mono ?_; rintro e w' ⟨r, rfl, hr, rfl⟩)
      · have h0 : (r != 0) = true := by assumption
        go_ret
        exact ⟨r, rfl, fun h => (by simp [h] at h0), rfl⟩
      · have h0 : (r != 0) = false := by assumption
        have hr0 : r = 0 := by simpa using h0
        go_round
        case rel => exact ⟨k + 1, by omega, by go_num, fun j hj => by
          by_cases hjk : j < k
          · exact hh.out j hjk
          · obtain rfl : j = k := by omega
            exact hr.out hr0⟩
        case measure => simp [intOf]; omega
    · go_wp2
      go_ret
      obtain rfl : k = n := by omega
      exact ⟨0, rfl, fun _ => hh.out, rfl⟩
end Go.Proofs.YtfdkmmllemkogaaGreatDoor

/-
  Contract of the reference's CheckMap for any map with at most 4096 samples: if it returns 0 the map is right.
-/
namespace Go.Proofs.YtfdkmmllemkogaaGreatDoor
open Go.RowKit
set_option linter.unusedVariables false

theorem firstNZ_two {a b : Int} (h : firstNZ [a, b] = 0) : a = 0 ∧ b = 0 := by
  unfold firstNZ at h
  split at h
  · rename_i ha; exact absurd h ha
  · rename_i ha
    unfold firstNZ at h
    split at h
    · rename_i hb; exact absurd h hb
    · exact ⟨by omega, by omega⟩

def RightSays (W H : Int) (n : Nat) (xs : List Nat) : Prop := 1 ≤ W ∧ W ≤ 64 ∧ 1 ≤ H ∧ H ≤ 64 ∧ W * H = n ∧ AllSmp n xs

set_option maxRecDepth 100000 in
set_option maxHeartbeats 6400000 in
theorem refCheckMap_any (W H : Int) (a : Option Addr) (n c : Nat) (xs : List Nat) (hm : n ≤ 4096) (w : World)
    (hs : ∀ j, j < n → ∃ b o, a = some ⟨b, o, none⟩ ∧ b < w.heap.size ∧ ∀ j, j < n → w.cell? ⟨b, o + j, none⟩ = some (.float .f32 (xs[j]?.getD 0))) :
    Calls Tryz.prog 41 #[.agg #[.int .i64 W, .int .i64 H, .slice a n c]] w fun e w' => ∃ r, e = .returned (.int .i64 r) ∧ Hid (r = 0 → RightSays W H n xs) ∧ Below w.heap.size w w' := by
  have Hs := Lib.hid hs
  clear hs
  by_cases hne : firstNZ [rangeErr W 1 64, rangeErr H 1 64] = 0
  · obtain ⟨eW, eH⟩ := firstNZ_two hne
    have hW := rangeErr_zero eW
    have hH := rangeErr_zero eH
    have e0 : (firstNZ [rangeErr W 1 64, rangeErr H 1 64] != 0) = false := by simp [hne]
    have hmul0 : 1 ≤ W * H := by
      have := Int.mul_le_mul hW.1 hH.1 (by omega) (by omega)
      omega
    have hmul1 : W * H ≤ 4096 := by
      have := Int.mul_le_mul hW.2 hH.2 (by omega) (by omega)
      omega
    clear hne eW eH
    by_cases hA : W * H = n
    · have e1 : ((n : Int) != W * H) = false := by rw [hA]; simp
      obtain ⟨b, o, ha, hb, hc⟩ := Hs.out 0 (by omega)
      subst ha
      have HA := Lib.hid hA
      have Hc := Lib.hid hc
      clear hA hc Hs
      go_enter Tryz.func41, Tryz.ntmps41
      go_wp2_with fail
      go_region_held3 (fun w' => w'.cell? ⟨w.heap.size, 0, none⟩ = some (.int .i64 W) ∧ w'.cell? ⟨w.heap.size, 1, none⟩ = some (.int .i64 H))
        (go_keep)
        (first
          | ((go_at_call 51; refine (refCheckSide_any _ _).mono ?_; rintro e w' ⟨rfl, rfl⟩))
          | ((go_at_call 111; refine (refFirst_any _ 0 2 2 [rangeErr W 1 64, rangeErr H 1 64] rfl (by omega) _ ?_).mono ?_; rotate_left 1; rintro e w' ⟨rfl, rfl⟩; rotate_left 1; (intro j hj; match j, hj with | 0, _ => simp [go_sem] | 1, _ => simp [go_sem]))))
      all_goals
        go_wp2_with ((go_at_call 70; refine (checkSamples_any b o n c xs (by omega) _ (fun j hj => ?_)).mono ?_; rotate_left 1; rintro e w' ⟨r, rfl, hr, rfl⟩; rotate_left 1; exact ((((Below.refl _ w).alloc (Nat.le_refl _) _).alloc (by simp) _).drew.cell (by exact hb)).trans (Hc.out j hj)))
        go_ret
        exact ⟨r, rfl, fun h => ⟨hW.1, hW.2, hH.1, hH.2, HA.out, hr.out h⟩, (((Below.refl _ w).alloc (Nat.le_refl _) _).alloc (by simp) _).drew⟩
    · have e1 : ((n : Int) != W * H) = true := by simp; omega
      clear hA
      go_enter Tryz.func41, Tryz.ntmps41
      go_wp2_with fail
      go_region_held3 (fun w' => w'.cell? ⟨w.heap.size, 0, none⟩ = some (.int .i64 W) ∧ w'.cell? ⟨w.heap.size, 1, none⟩ = some (.int .i64 H))
        (go_keep)
        (first
          | ((go_at_call 51; refine (refCheckSide_any _ _).mono ?_; rintro e w' ⟨rfl, rfl⟩))
          | ((go_at_call 111; refine (refFirst_any _ 0 2 2 [rangeErr W 1 64, rangeErr H 1 64] rfl (by omega) _ ?_).mono ?_; rotate_left 1; rintro e w' ⟨rfl, rfl⟩; rotate_left 1; (intro j hj; match j, hj with | 0, _ => simp [go_sem] | 1, _ => simp [go_sem]))))
      all_goals
        go_wp2
        go_ret
        exact ⟨2, rfl, fun h => (by cases h), (((Below.refl _ w).alloc (Nat.le_refl _) _).alloc (by simp) _).drew⟩
  · have e0 : (firstNZ [rangeErr W 1 64, rangeErr H 1 64] != 0) = true := by simp [hne]
    have HNE := Lib.hid hne
    clear hne Hs
    go_enter Tryz.func41, Tryz.ntmps41
    go_wp2_with fail
    go_region_held3 (fun w' => w'.cell? ⟨w.heap.size, 0, none⟩ = some (.int .i64 W) ∧ w'.cell? ⟨w.heap.size, 1, none⟩ = some (.int .i64 H))
      (go_keep)
      (first
        | ((go_at_call 51; refine (refCheckSide_any _ _).mono ?_; rintro e w' ⟨rfl, rfl⟩))
        | ((go_at_call 111; refine (refFirst_any _ 0 2 2 [rangeErr W 1 64, rangeErr H 1 64] rfl (by omega) _ ?_).mono ?_; rotate_left 1; rintro e w' ⟨rfl, rfl⟩; rotate_left 1; (intro j hj; match j, hj with | 0, _ => simp [go_sem] | 1, _ => simp [go_sem]))))
    all_goals
      go_wp2
      go_ret
      exact ⟨_, rfl, fun h => absurd h HNE.out, (((Below.refl _ w).alloc (Nat.le_refl _) _).alloc (by simp) _).drew⟩
end Go.Proofs.YtfdkmmllemkogaaGreatDoor

/-
  The iterator over the places of a map: its contract for every loop body that keeps what lay below a number.
-/
namespace Go.Proofs.YtfdkmmllemkogaaGreatDoor
open Go.RowKit Go.Shelf
set_option linter.unusedVariables false
attribute [local go_sem] Oper.semAt_some

/-- The first k places of a map that is W wide. -/
def placesTo (W k : Nat) : List (Nat × Nat) := (List.range k).map (fun i => (i % W, i / W))
theorem placesTo_succ (W y x : Nat) (hx : x < W) : placesTo W (y * W + x + 1) = placesTo W (y * W + x) ++ [(x, y)] := by
  have h1 : (y * W + x) % W = x := by rw [Nat.mul_comm, Nat.mul_add_mod]; exact Nat.mod_eq_of_lt hx
  have h2 : (y * W + x) / W = y := by
    rw [Nat.mul_comm, Nat.mul_add_div (by omega), Nat.div_eq_of_lt hx]; rfl
  simp [placesTo, List.range_succ, h1, h2]
theorem placesTo_len (W k : Nat) : (placesTo W k).length = k := by simp [placesTo]
/-- A place of a map. -/
abbrev Pl (W H : Nat) := { p : Nat × Nat // p.1 < W ∧ p.2 < H }
abbrev encP {W H : Nat} (p : Pl W H) : Array Value := #[.agg #[.int .i64 (p.1.1 : Nat), .int .i64 (p.1.2 : Nat)]]

/-- What a round must keep: the width's box. -/
def KeepsWide (Bw W : Nat) (A B : World) : Prop := A.cell? ⟨Bw, 0, none⟩ = some (.int .i64 (W : Nat)) → B.cell? ⟨Bw, 0, none⟩ = some (.int .i64 (W : Nat))
theorem KeepsWide.t {Bw W : Nat} {A B C : World} (h : KeepsWide Bw W A B) (k : KeepsWide Bw W B C) : KeepsWide Bw W A C := fun x => k (h x)
theorem KeepsWide.r (Bw W : Nat) (A : World) : KeepsWide Bw W A A := fun x => x
theorem KeepsWide.b {Bw W N : Nat} (A : World) (l : Nat) (o o' : Obj) (_ : N ≤ l) (hl : A.heap[l]? = some o) (ho : o.isCells = false) (_ : o.isWalk = false) : KeepsWide Bw W A (A.putObj l o') := fun x =>
  cell_kept x (grownBy_putObj' A l o') (fun r e => by cases e; exact ⟨o, hl, ho⟩)
theorem KeepsWide.of_below {Bw W B : Nat} {A C : World} (h : Below B A C) (hB : Bw < B) : KeepsWide Bw W A C := fun x => (h.cell (p := ⟨Bw, 0, none⟩) hB).trans x

set_option maxRecDepth 100000 in
set_option maxHeartbeats 3200000 in
theorem places1_in (F : Fence) (n : Nat) (h6 : F.fn 202) (hro : F.round = none) (hn : 1 ≤ n) (l Bh Bw W H : Nat) (hW : W ≤ 64) (hH : H ≤ 64) (J Jx : List (Pl W H) → World → Prop)
    (hY : ∀ pre x W1, J pre W1 → pre.length < W * H → YieldAt F (n - 1) Tryz.prog l (encP x) W1 fun e W' =>
      (e = .returned (.bool true) ∧ J (pre ++ [x]) W' ∧ KeepsWide Bw W W1 W') ∨ (e = .returned (.bool false) ∧ Jx (pre ++ [x]) W'))
    (w : World) (hcH : w.cell? ⟨Bh, 0, none⟩ = some (.int .i64 H)) (hcW : w.cell? ⟨Bw, 0, none⟩ = some (.int .i64 W)) (h0 : J [] w) :
    CallsIn F n Tryz.prog 202 #[.func (.yield l) #[] #[], .pointer (some ⟨Bh, 0, none⟩), .pointer (some ⟨Bw, 0, none⟩)] w fun e W' => (∃ v, e = .returned v) ∧
      ((∃ ys : List (Pl W H), ys.map Subtype.val = placesTo W (H * W) ∧ J ys W') ∨ (∃ pre, True ∧ Jx pre W')) := by
  have HY := Lib.hid hY
  clear hY
  have i1 : ((W : Int) ≤ 64) := by omega
  have i2 : ((H : Int) ≤ 64) := by omega
  refine callsIn_of_wp Tryz.func202 rfl h6 ?_ hro
  simp only [Tryz.ntmps202, List.size_toArray, List.length_cons, List.length_nil, Nat.reduceAdd, Nat.reduceSub, Array.replicate_succ, Array.replicate_zero, List.push_toArray, List.append_toArray, List.nil_append, List.cons_append]
  gi_wp2
  gi_loopw [7] (fun yv wr => ∃ y : Nat, y ≤ H ∧ yv = .int .i64 y ∧ wr.cell? ⟨Bw, 0, none⟩ = some (.int .i64 W) ∧ ∃ ps : List (Pl W H), ps.map Subtype.val = placesTo W (y * W) ∧ J ps wr)
    (fun yv _ => H - (intOf yv).toNat)
  case atStart => exact ⟨0, Nat.zero_le _, rfl, hcW, [], by simp [placesTo], h0⟩
  case round =>
    obtain ⟨y, hy, rfl, hcw, ps, hps, hJ⟩ := hrel
    have HPS := Lib.hid hps
    clear hps
    clear hcH hcW h0
    by_cases hlt : y < H
    · gi_wp2
      gi_loopw [11] (fun xv wi => ∃ x : Nat, x ≤ W ∧ xv = .int .i64 x ∧ wi.cell? ⟨Bw, 0, none⟩ = some (.int .i64 W) ∧ ∃ ps : List (Pl W H), ps.map Subtype.val = placesTo W (y * W + x) ∧ J ps wi)
        (fun xv _ => W - (intOf xv).toNat)
      case atStart => exact ⟨0, Nat.zero_le _, rfl, hcw, ps, by simpa using HPS.out, hJ⟩
      case round =>
        obtain ⟨x, hx, rfl, hcw2, qs, hqs, hJ2⟩ := hrel
        have HQS := Lib.hid hqs
        clear hcw hJ hqs
        by_cases hxl : x < W
        · have hlen : qs.length < W * H := by
            rw [← List.length_map (f := Subtype.val), HQS.out, placesTo_len]
            have : y * W + W ≤ H * W := by
              have := Nat.mul_le_mul_right W (show y + 1 ≤ H by omega)
              rw [Nat.add_mul] at this; omega
            rw [Nat.mul_comm W H]; omega
          have hS := placesTo_succ W y x hxl
          obtain ⟨fn, tmps, assign, body, hy1, hR⟩ := HY.out _ ⟨(x, y), hxl, hlt⟩ wr hJ2 hlen
          have HS := Lib.hid hS
          have HR := Lib.hid hR
          clear hS hR hlen
          gi_wp2
          refine HR.out.mono ?_
          rintro e W3 (⟨rfl, hJ3, hk3⟩ | ⟨rfl, hJx3⟩)
          · have hcw3 : W3.cell? ⟨Bw, 0, none⟩ = some (.int .i64 W) := hk3 hcw2
            gi_wp2
            go_roundw
            case rel => exact ⟨x + 1, by omega, by go_num, hcw3, _, by rw [← Nat.add_assoc, HS.out, List.map_append, HQS.out]; rfl, hJ3⟩
            case measure => simp [intOf]; omega
          · gi_wp2
            refine bodyPost_ret (results_none rfl _ _ _) rfl ?_
            exact ⟨⟨_, rfl⟩, .inr ⟨_, trivial, hJx3⟩⟩
        · gi_wp2
          go_roundw
          case rel =>
            refine ⟨y + 1, by omega, by go_num, hcw2, qs, ?_, hJ2⟩
            obtain rfl : x = W := by omega
            rw [Nat.add_mul, Nat.one_mul]; exact HQS.out
          case measure => simp [intOf]; omega
    · gi_wp2
      go_end0
      obtain rfl : y = H := by omega
      exact ⟨⟨_, rfl⟩, .inl ⟨ps, HPS.out, hJ⟩⟩

set_option maxHeartbeats 1000000 in
/-- The iterator's maker: both sides are boxed; the function value captures the boxes. -/
theorem places_in (F : Fence) (n : Nat) (h5 : F.fn 128) (hro : F.round = none) (W H : Int) (w : World) :
    CallsIn F n Tryz.prog 128 #[.int .i64 W, .int .i64 H] w fun e w' => e = .returned (.func (.func 202) #[] #[.pointer (some ⟨w.heap.size + 1, 0, none⟩), .pointer (some ⟨w.heap.size, 0, none⟩)]) ∧
      w' = (w.alloc (.cells #[.int .i64 W] 3)).alloc (.cells #[.int .i64 H] 3) := by
  refine callsIn_of_wp Tryz.func128 rfl h5 ?_ hro
  simp only [Tryz.ntmps128, List.size_toArray, List.length_cons, List.length_nil, Nat.reduceAdd, Nat.reduceSub, Array.replicate_succ, Array.replicate_zero, List.push_toArray, List.append_toArray, List.nil_append, List.cons_append]
  gi_wp2
  go_ret
  exact ⟨rfl, rfl⟩

/-- The places, in their order; or a part of them, where a round has said 'no more'. -/
theorem places_stops (F : Fence) (n : Nat) (h6 : F.fn 202) (hro : F.round = none) (hn : 1 ≤ n) (Bh Bw W H : Nat) (hW : W ≤ 64) (hH : H ≤ 64) (w : World) (hbh : Bh < w.heap.size) (hbw : Bw < w.heap.size)
    (hcH : w.cell? ⟨Bh, 0, none⟩ = some (.int .i64 H)) (hcW : w.cell? ⟨Bw, 0, none⟩ = some (.int .i64 W)) :
    SeqStopsK F n Tryz.prog 202 #[.pointer (some ⟨Bh, 0, none⟩), .pointer (some ⟨Bw, 0, none⟩)] encP (KeepsWide Bw W) (fun ys : List (Pl W H) => ys.map Subtype.val = placesTo W (H * W)) (fun _ => True) (W * H) w := fun l J Jx W1 hW1 _ _ hY h0 =>
  places1_in F n h6 hro hn l Bh Bw W H hW hH J Jx hY W1 ((hW1.cell (p := ⟨Bh, 0, none⟩) hbh).trans hcH) ((hW1.cell (p := ⟨Bw, 0, none⟩) hbw).trans hcW) h0
end Go.Proofs.YtfdkmmllemkogaaGreatDoor

/-
  Contract of grid.toMap where the integers are those of samples: the map.
-/
namespace Go.Proofs.YtfdkmmllemkogaaGreatDoor
open Go.RowKit
set_option linter.unusedVariables false

set_option maxRecDepth 100000 in
set_option maxHeartbeats 3200000 in
theorem toMap_any (W H : Int) (g o n c : Nat) (ks : List Int) (hk : ks.length = n) (hn : n ≤ 4096) (w : World) (hg : g < w.heap.size) (hc : ∀ j, j < n → w.cell? ⟨g, o + j, none⟩ = some (.int .i64 (ks[j]?.getD 0))) (hs : ∀ j, j < n → (ks[j]?.getD 0).natAbs ≤ 16384) :
    Calls Tryz.prog 147 #[.agg #[.int .i64 W, .int .i64 H, .slice (some ⟨g, o, none⟩) n c]] w fun e w' =>
      e = .returned (.tuple #[.agg #[.int .i64 W, .int .i64 H, .slice (some ⟨w.heap.size + 2, 0, none⟩) n n], .int .i64 0]) ∧ w'.ownsRow (w.heap.size + 2) 23 1 (.slice (some ⟨w.heap.size + 2, 0, none⟩) n n) n (ks.map (fun n : Int => Value.float .f32 (smpOf n))) ∧ Below w.heap.size w w' := by
  have K : ∀ w1 : World, Below w.heap.size w w1 → w1.heap.size = w.heap.size + 2 → Calls Tryz.prog 203 #[.slice (some ⟨g, o, none⟩) n c, .func (.func 125) #[] #[]] w1 fun e w' =>
      e = .returned (.slice (some ⟨w.heap.size + 2, 0, none⟩) n n) ∧ w'.ownsRow (w.heap.size + 2) 23 1 (.slice (some ⟨w.heap.size + 2, 0, none⟩) n n) n (ks.map (fun n : Int => Value.float .f32 (smpOf n))) ∧ Below (w.heap.size + 2) w1 w' := by
    intro w1 h1 hs1
    rw [← hs1]
    exact mapped_sample g o n c ks ks hk hk hn (by omega) (fun j hj => (h1.cell (by exact hg)).trans (hc j hj)) (fun j hj => ⟨rfl, Nat.lt_of_le_of_lt (hs j hj) (by decide)⟩)
  have HK := Lib.hid K
  have HC := Lib.hid hc
  have HS := Lib.hid hs
  clear K hc hs hk
  go_enter Tryz.func147, Tryz.ntmps147
  go_wp2_with fail
  obtain ⟨W0, hW0⟩ : ∃ W0, ((w.alloc (.cells #[.int .i64 W, .int .i64 H, .slice (some ⟨g, o, none⟩) n c] 188)).alloc (.cells #[.int .i64 0, .int .i64 0, .slice none 0 0] 54)) = W0 := ⟨_, rfl⟩
  have hB0 : Below w.heap.size w W0 := by rw [← hW0]; exact ((Below.refl _ w).alloc (Nat.le_refl _) _).alloc (by simp) _
  have hz0 : W0.heap.size = w.heap.size + 2 := by rw [← hW0]; simp
  have c0 : W0.cell? ⟨w.heap.size, 0, none⟩ = some (.int .i64 W) := by rw [← hW0]; simp [go_sem]
  have c1 : W0.cell? ⟨w.heap.size, 1, none⟩ = some (.int .i64 H) := by rw [← hW0]; simp [go_sem]
  have c2 : W0.cell? ⟨w.heap.size, 2, none⟩ = some (.slice (some ⟨g, o, none⟩) n c) := by rw [← hW0]; simp [go_sem]
  have t0 : W0.cell? ⟨w.heap.size + 1, 0, none⟩ = some (.int .i64 0) := by rw [← hW0]; simp [go_sem]
  have t1 : W0.cell? ⟨w.heap.size + 1, 1, none⟩ = some (.int .i64 0) := by rw [← hW0]; simp [go_sem]
  have t2 : W0.cell? ⟨w.heap.size + 1, 2, none⟩ = some (.slice none 0 0) := by rw [← hW0]; simp [go_sem]
  have fz : ∀ j, W0.frozen? ⟨w.heap.size + 1, j, none⟩ = false := fun j => by rw [← hW0]; simp [go_sem]
  rw [hW0]
  have HB0 := Lib.hid hB0
  have HZ0 := Lib.hid hz0
  clear hW0 hB0 hz0
  go_loop [9] (fun i => ∃ k : Nat, k ≤ n ∧ i = .int .i64 k) (fun i => n - (intOf i).toNat)
  case atStart => exact ⟨0, Nat.zero_le _, rfl⟩
  case round =>
    obtain ⟨k, hkn, rfl⟩ := hrel
    by_cases hlt : k < n
    · have hcell : W0.cell? ⟨g, o + k, none⟩ = some (.int .i64 (ks[k]?.getD 0)) := (HB0.out.cell (by exact hg)).trans (HC.out k hlt)
      have hs := HS.out k hlt
      obtain ⟨v, hv⟩ : ∃ v, ks[k]?.getD 0 = v := ⟨_, rfl⟩
      rw [hv] at hcell hs
      have h1 : ¬ (v < -16384) := by omega
      have h2 : ¬ (16384 < v) := by omega
      clear hs hv
      go_wp2
      go_round
      case rel => exact ⟨k + 1, by omega, by go_num⟩
      case measure => simp [intOf]; omega
    · go_wp2_with fail
      go_region_held3 (fun w' => w'.cell? ⟨w.heap.size, 0, none⟩ = some (.int .i64 W) ∧ w'.cell? ⟨w.heap.size, 1, none⟩ = some (.int .i64 H) ∧ w'.cell? ⟨w.heap.size, 2, none⟩ = some (.slice (some ⟨g, o, none⟩) n c))
        (first | go_keep | (go_split_ands; refine ⟨?_, ?_, ?_⟩ <;> rw [hb1.cell (by simp; try omega)] <;> assumption))
        ((go_at_call 203; refine (HK.out _ HB0.out.drew (by show W0.heap.size = _; exact HZ0.out)).mono ?_; rintro e w' ⟨rfl, hown, hb1⟩
          have s0 : w'.cell? ⟨w.heap.size + 1, 0, none⟩ = some (.int .i64 0) := by rw [hb1.cell (by simp)]; assumption
          have s1 : w'.cell? ⟨w.heap.size + 1, 1, none⟩ = some (.int .i64 0) := by rw [hb1.cell (by simp)]; assumption
          have s2 : w'.cell? ⟨w.heap.size + 1, 2, none⟩ = some (.slice none 0 0) := by rw [hb1.cell (by simp)]; assumption
          have f0 : w'.frozen? ⟨w.heap.size + 1, 0, none⟩ = false := by rw [hb1.frozen (by simp)]; exact fz 0
          have f1 : w'.frozen? ⟨w.heap.size + 1, 1, none⟩ = false := by rw [hb1.frozen (by simp)]; exact fz 1
          have f2 : w'.frozen? ⟨w.heap.size + 1, 2, none⟩ = false := by rw [hb1.frozen (by simp)]; exact fz 2))
      all_goals
        go_wp2
        refine bodyPost_ret (v := .tuple #[.agg #[.int .i64 W, .int .i64 H, .slice (some ⟨w.heap.size + 2, 0, none⟩) n n], .int .i64 0]) (by simp [results, Tryz.results147, go_sem, s0, s1, s2]) rfl ⟨rfl, ?_, ?_⟩
        · exact ownsRow_setCell_below (ownsRow_setCell_below (ownsRow_setCell_below hown (by simp) _) (by simp) _) (by simp) _
        · exact (((HB0.out.drew.trans (hb1.mono (by omega))).setCell (p := ⟨w.heap.size + 1, 0, none⟩) (by simp) _).setCell (p := ⟨w.heap.size + 1, 1, none⟩) (by simp) _).setCell (p := ⟨w.heap.size + 1, 2, none⟩) (by simp) _
end Go.Proofs.YtfdkmmllemkogaaGreatDoor

/-
  Contracts of the reference's comparisons of two slices: equal ones are told as equal.
-/
namespace Go.Proofs.YtfdkmmllemkogaaGreatDoor
open Go.RowKit
set_option linter.unusedVariables false

theorem order_eq_neq {x y : Nat} {k : Int} (hx : Smp x k) (hy : Smp y k) : (FloatKind.f32.format.order x y != some .eq) = false := by
  have h : Ieee.single.order x y = some (compare k k) := hx.order hy
  have e : compare k k = .eq := by
    show compareOfLessAndEq k k = .eq
    unfold compareOfLessAndEq; simp
  show (Ieee.single.order x y != some .eq) = false
  rw [h, e]; rfl

set_option maxRecDepth 100000 in
set_option maxHeartbeats 3200000 in
theorem sameSamples_any {w : World} (b o c b' o' c' n : Nat) (xs ys : List Nat) (ks : List Int) (hm : n ≤ 4096) (hb : b < w.heap.size) (hb' : b' < w.heap.size)
    (hc : ∀ j, j < n → w.cell? ⟨b, o + j, none⟩ = some (.float .f32 (xs[j]?.getD 0))) (hc' : ∀ j, j < n → w.cell? ⟨b', o' + j, none⟩ = some (.float .f32 (ys[j]?.getD 0)))
    (hx : ∀ j, j < n → Smp (xs[j]?.getD 0) (ks[j]?.getD 0)) (hy : ∀ j, j < n → Smp (ys[j]?.getD 0) (ks[j]?.getD 0)) :
    Calls Tryz.prog 193 #[.slice (some ⟨b, o, none⟩) n c, .slice (some ⟨b', o', none⟩) n c'] w fun e w' => e = .returned (.bool true) ∧ Below w.heap.size w w' := by
  have Hc := Lib.hid hc
  have Hc' := Lib.hid hc'
  have Hx := Lib.hid hx
  have Hy := Lib.hid hy
  have e0 : ((n : Int) != n) = false := by simp
  clear hc hc' hx hy
  go_enter Tryz.func193, Tryz.ntmps193
  go_wp2
  go_loopw [5] (fun i wr => ∃ k : Nat, k ≤ n ∧ i = .int .i64 k ∧ Below w.heap.size w wr) (fun i _ => n - (intOf i).toNat)
  case atStart => exact ⟨0, Nat.zero_le _, rfl, Below.refl _ _⟩
  case round =>
    obtain ⟨k, hk, rfl, hnx⟩ := hrel
    by_cases hlt : k < n
    · have h1 : wr.cell? ⟨b, o + k, none⟩ = some (.float .f32 (xs[k]?.getD 0)) := (hnx.cell (by exact hb)).trans (Hc.out k hlt)
      have h2 : wr.cell? ⟨b', o' + k, none⟩ = some (.float .f32 (ys[k]?.getD 0)) := (hnx.cell (by exact hb')).trans (Hc'.out k hlt)
      have h3 := order_eq_neq (Hx.out k hlt) (Hy.out k hlt)
      have h4 : (k : Int) < (n : Int) := by omega
      have h5 : (0 : Int) ≤ (k : Int) := by omega
      go_wp2_with fail
      go_quiet (fail)
      go_wp2
      go_roundw
      case rel => exact ⟨k + 1, by omega, by go_num, below_drewN hnx _⟩
      case measure => simp [intOf]; omega
    · go_wp2
      go_ret
      exact ⟨rfl, hnx⟩

set_option maxRecDepth 100000 in
set_option maxHeartbeats 3200000 in
theorem sameInts_any {w : World} (a a' : Option Addr) (n c c' : Nat) (zs : List Int) (hm : n ≤ 4096)
    (hc : ∀ j, j < n → ∃ b o, a = some ⟨b, o, none⟩ ∧ b < w.heap.size ∧ w.cell? ⟨b, o + j, none⟩ = some (.int .i64 (zs[j]?.getD 0))) (hc' : ∀ j, j < n → ∃ b o, a' = some ⟨b, o, none⟩ ∧ b < w.heap.size ∧ w.cell? ⟨b, o + j, none⟩ = some (.int .i64 (zs[j]?.getD 0))) :
    Calls Tryz.prog 101 #[.slice a n c, .slice a' n c'] w fun e w' => e = .returned (.bool true) ∧ Below w.heap.size w w' := by
  have Hc := Lib.hid hc
  have Hc' := Lib.hid hc'
  have e0 : ((n : Int) != n) = false := by simp
  clear hc hc'
  go_enter Tryz.func101, Tryz.ntmps101
  go_wp2
  go_loopw [5] (fun i wr => ∃ k : Nat, k ≤ n ∧ i = .int .i64 k ∧ Below w.heap.size w wr) (fun i _ => n - (intOf i).toNat)
  case atStart => exact ⟨0, Nat.zero_le _, rfl, Below.refl _ _⟩
  case round =>
    obtain ⟨k, hk, rfl, hnx⟩ := hrel
    by_cases hlt : k < n
    · obtain ⟨b, o, rfl, hb, h1⟩ := Hc.out k hlt
      obtain ⟨b', o', rfl, hb', h2⟩ := Hc'.out k hlt
      replace h1 := (hnx.cell (p := ⟨b, o + k, none⟩) hb).trans h1
      replace h2 := (hnx.cell (p := ⟨b', o' + k, none⟩) hb').trans h2
      have h3 : (zs[k]?.getD 0 != zs[k]?.getD 0) = false := by simp
      have h4 : (k : Int) < (n : Int) := by omega
      have h5 : (0 : Int) ≤ (k : Int) := by omega
      clear Hc Hc'
      go_wp2_with fail
      go_quiet (fail)
      go_wp2
      go_roundw
      case rel => exact ⟨k + 1, by omega, by go_num, below_drewN hnx _⟩
      case measure => simp [intOf]; omega
    · go_wp2
      go_ret
      exact ⟨rfl, hnx⟩
end Go.Proofs.YtfdkmmllemkogaaGreatDoor
