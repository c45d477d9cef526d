/-
  Contracts of checkSpan for a span that is right, and of At for a right map and a place on it.
-/
import Derived.Test.YtlnhgplloaiiiaaGreatDoorCXe
import Derived.Test.YtlnhgplloaiiiaaGreatDoorCWj
import Derived.BigQuiet
namespace Go.Proofs.YtlnhgplloaiiiaaGreatDoor
open Go.RowKit
set_option linter.unusedVariables false

set_option maxHeartbeats 1600000 in
theorem checkSpan_any (f t l : Int) (h0 : 0 ≤ f) (h1 : f < t) (h2 : t ≤ l) (w : World) :
    Calls Tryz.prog 114 #[.agg #[.int .i64 f, .int .i64 t], .int .i64 l] w fun e w' => e = .returned (.int .i64 0) ∧ Below w.heap.size w w' := by
  have i1 : ¬ (f < 0) := by omega
  have i2 : ¬ (t ≤ f) := by omega
  have i3 : ¬ (l < t) := by omega
  go_enter Tryz.func114, Tryz.ntmps114
  go_wp2
  go_ret
  exact ⟨rfl, (Below.refl _ _).alloc (Nat.le_refl _) _⟩

set_option maxRecDepth 100000 in
set_option maxHeartbeats 3200000 in
theorem lightAt_any (W H : Nat) (b o n c : Nat) (xs : List Nat) (ks : List Int) (w : World) (hA : RightMap w W H b o n xs ks) (hb : b < w.heap.size) (X Y : Nat) (hX : X < W) (hY : Y < H) :
    Calls Tryz.prog 31 #[.agg #[.int .i64 W, .int .i64 H, .slice (some ⟨b, o, none⟩) n c], .agg #[.int .i64 X, .int .i64 Y]] w fun e w' =>
      e = .returned (.tuple #[.float .f32 (smpOf (ks[Y * W + X]?.getD 0)), .int .i64 0]) ∧ Below w.heap.size w w' := by
  obtain ⟨W0, hW0⟩ : ∃ W0, (w.alloc (.cells #[.int .i64 W, .int .i64 H, .slice (some ⟨b, o, none⟩) n c] 54)).alloc (.cells #[.int .i64 X, .int .i64 Y] 50) = W0 := ⟨_, rfl⟩
  have hB0 : Below w.heap.size w W0 := by rw [← hW0]; exact ((Below.refl _ w).alloc (Nat.le_refl _) _).alloc (by simp) _
  have hS0 : W0.heap.size = w.heap.size + 2 := by rw [← hW0]; simp
  have a0 : W0.cell? ⟨w.heap.size, 0, none⟩ = some (.int .i64 W) := by rw [← hW0]; simp [go_sem]
  have a1 : W0.cell? ⟨w.heap.size, 1, none⟩ = some (.int .i64 H) := by rw [← hW0]; simp [go_sem]
  have a2 : W0.cell? ⟨w.heap.size, 2, none⟩ = some (.slice (some ⟨b, o, none⟩) n c) := by rw [← hW0]; simp [go_sem]
  have p0 : W0.cell? ⟨w.heap.size + 1, 0, none⟩ = some (.int .i64 X) := by rw [← hW0]; simp [go_sem]
  have p1 : W0.cell? ⟨w.heap.size + 1, 1, none⟩ = some (.int .i64 Y) := by rw [← hW0]; simp [go_sem]
  have K1 := Lib.hid (checkMap_any W H b o n c xs ks W0 (hA.below hB0 hb) (by omega))
  have K2 : Hid (∀ w1 : World, Below W0.heap.size W0 w1 → Calls Tryz.prog 105 #[.agg #[.int .i64 W, .int .i64 H, .slice (some ⟨b, o, none⟩) n c]] w1 fun e w' =>
      ∃ g, e = .returned (.agg #[.int .i64 W, .int .i64 H, .slice (some ⟨g, 0, none⟩) n n]) ∧ w1.heap.size ≤ g ∧ RowAt w' g n ks ∧ Below w1.heap.size w1 w') := Lib.hid (fun w1 h => by
    have h1 := h.size
    have h2 := hB0.trans (h.mono (by omega))
    exact grid_row W H b o n c xs ks w1 (hA.below h2 hb).toWords (by omega))
  have hin : insideB W H (X, Y) = true := by simp [insideB]; omega
  have hW := hA.wid
  have hH := hA.hei
  have hN : W * H = n := by have := hA.area; exact_mod_cast this
  have hlt : Y * W + X < n := idx_lt (p := (X, Y)) hX hY hN
  have hsm := hA.small
  have hsz := hA.sizes _ hlt
  have m1 : Y * W ≤ 64 * 64 := Nat.mul_le_mul (by omega) (by omega)
  have e2 : (Y : Int) * (W : Int) = ((Y * W : Nat) : Int) := by push_cast; rfl
  have e1 : ((Y : Int) * (W : Int) + (X : Int)).toNat = Y * W + X := by rw [e2]; omega
  have KT : Hid (∀ (w1 : World) (ga : Nat), RowAt w1 ga n ks → Calls Tryz.prog 108 #[.agg #[.int .i64 W, .int .i64 H, .slice (some ⟨ga, 0, none⟩) n n], .agg #[.int .i64 X, .int .i64 Y]] w1 fun e w' => e = .returned (.int .i64 (ks[Y * W + X]?.getD 0)) ∧ Below w1.heap.size w1 w') := Lib.hid fun w1 ga hr =>
    at_any W H X Y ga n n _ (by omega) (by omega) (by omega) (by rw [e2]; omega) w1 (by rw [e2]; omega) hr.lt (by rw [e1]; exact hr.cells _ hlt)
  have HSZ := Lib.hid hsz
  have HB0 := Lib.hid hB0
  have HS0 := Lib.hid hS0
  clear hA hB0 e1 e2 hsz hlt hN m1
  go_enter Tryz.func31, Tryz.ntmps31
  go_upto_region 1 with fail
  try rw [hW0]
  clear hW0
  go_wp2_with (first
    | ((go_at_call 41; refine K1.out.mono ?_; rintro e w1 ⟨rfl, hb1⟩
        have hs1 := hb1.size
        have a0' := (hb1.cell (p := ⟨w.heap.size, 0, none⟩) (by show w.heap.size < _; omega)).trans a0
        have a1' := (hb1.cell (p := ⟨w.heap.size, 1, none⟩) (by show w.heap.size < _; omega)).trans a1
        have a2' := (hb1.cell (p := ⟨w.heap.size, 2, none⟩) (by show w.heap.size < _; omega)).trans a2
        have K3 := Lib.hid (K2.out w1 hb1)))
    | ((go_at_call 105; refine K3.out.mono ?_; rintro e w2 ⟨ga, rfl, hga, hRA, hb2⟩
        have hs2 := hb2.size
        obtain ⟨W3, hW3⟩ : ∃ W3, w2.alloc (.cells #[.int .i64 W, .int .i64 H, .slice (some ⟨ga, 0, none⟩) n n] 165) = W3 := ⟨_, rfl⟩
        have hB23 : Below w2.heap.size w2 W3 := by rw [← hW3]; exact (Below.refl _ _).alloc (Nat.le_refl _) _
        have hRA3 := hRA.below hB23 hRA.lt
        have hS3 : W3.heap.size = w2.heap.size + 1 := by rw [← hW3]; simp
        have hB3 : Below W0.heap.size W0 W3 := (hb1.trans (hb2.mono hs1)).trans (hB23.mono (by omega))
        have g0 : W3.cell? ⟨w2.heap.size, 0, none⟩ = some (.int .i64 W) := by rw [← hW3]; simp [go_sem]
        have g1 : W3.cell? ⟨w2.heap.size, 1, none⟩ = some (.int .i64 H) := by rw [← hW3]; simp [go_sem]
        have g2 : W3.cell? ⟨w2.heap.size, 2, none⟩ = some (.slice (some ⟨ga, 0, none⟩) n n) := by rw [← hW3]; simp [go_sem]
        have p0' := (hB3.cell (p := ⟨w.heap.size + 1, 0, none⟩) (by show w.heap.size + 1 < _; omega)).trans p0
        have p1' := (hB3.cell (p := ⟨w.heap.size + 1, 1, none⟩) (by show w.heap.size + 1 < _; omega)).trans p1
        have HRA3 := Lib.hid hRA3
        have HB3 := Lib.hid hB3
        clear hRA hRA3 hB23 hb2 hB3 a0 a1 a2 a0' a1' a2' hb1))
    | ((go_at_call 106; refine (has_any W H X Y _ _ _ W3).mono ?_; rintro e w4 ⟨rfl, hb4⟩
        have hs4 := hb4.size
        have g0' := (hb4.cell (p := ⟨w2.heap.size, 0, none⟩) (by show w2.heap.size < _; omega)).trans g0
        have g1' := (hb4.cell (p := ⟨w2.heap.size, 1, none⟩) (by show w2.heap.size < _; omega)).trans g1
        have g2' := (hb4.cell (p := ⟨w2.heap.size, 2, none⟩) (by show w2.heap.size < _; omega)).trans g2
        have p0'' := (hb4.cell (p := ⟨w.heap.size + 1, 0, none⟩) (by show w.heap.size + 1 < _; omega)).trans p0'
        have p1'' := (hb4.cell (p := ⟨w.heap.size + 1, 1, none⟩) (by show w.heap.size + 1 < _; omega)).trans p1'
        have K5 := Lib.hid (KT.out w4 ga (HRA3.out.below hb4 HRA3.out.lt))
        have HB4 := Lib.hid (HB3.out.trans (hb4.mono (by omega)))
        clear hb4 g0 g1 g2 p0' p1' p0 p1))
    | ((go_at_call 108; refine K5.out.mono ?_; rintro e w5 ⟨rfl, hb5⟩
        have HB5 := Lib.hid (HB4.out.trans (hb5.mono HB4.out.size))
        clear hb5))
    | (go_at_call 107; refine (sample_any _ (Nat.lt_of_le_of_lt HSZ.out (by decide)) _).mono ?_; rintro e w6 ⟨rfl, rfl⟩))
  go_ret2
  exact ⟨rfl, HB0.out.trans (HB5.out.mono (by have := HS0.out; omega))⟩
end Go.Proofs.YtlnhgplloaiiiaaGreatDoor

/-
  Contracts of At and Total for every map: the error of the map, or of the place, or the sample and the light.
-/
namespace Go.Proofs.YtlnhgplloaiiiaaGreatDoor
open Go.RowKit
open Ieee (Format single)
set_option linter.unusedVariables false
set_option linter.unusedSimpArgs false

/-- The integer of a sample's word. -/
def kOf (x : Nat) : Int :=
  match single.read x with
  | .number s m e => sgn s (m * 2 ^ (e - single.leastPlace).toNat / 2 ^ 145)
  | _ => 0

theorem smp_kOf {x : Nat} (h : smpErr x = 0) : Smp x (kOf x) ∧ (kOf x).natAbs ≤ 16384 := by
  rcases smp_class x with ⟨a, b, hd⟩ | ⟨s, hd⟩ | ⟨s, v, hn, _⟩
  · rw [smpErr_nan hd] at h; cases h
  · rw [smpErr_inf hd] at h; cases h
  · rw [smpErr_num hn] at h
    split at h
    · rename_i hh
      obtain ⟨h1, h2⟩ := hh
      have e : v = v / 2 ^ 145 * 2 ^ 145 := by
        have := Nat.div_add_mod v (2 ^ 145)
        rw [h2, Nat.add_zero, Nat.mul_comm] at this; exact this.symm
      have hq : v / 2 ^ 145 ≤ 16384 := by
        have := Nat.div_le_div_right (c := 2 ^ 145) h1
        have e2 : 1024 * 2 ^ 149 = 16384 * 2 ^ 145 := by decide +kernel
        rwa [e2, Nat.mul_div_cancel _ (Nat.two_pow_pos _)] at this
      have hk : kOf x = sgn s (v / 2 ^ 145) := by
        obtain ⟨m, i, k1, _, _, k4⟩ := hn
        unfold kOf
        rw [k1]
        dsimp only
        rw [k4]
      rw [hk]
      generalize v / 2 ^ 145 = p at e hq
      have hpa : (sgn s p).natAbs = p := by unfold sgn; cases s <;> simp
      refine ⟨⟨s, ?_, ?_, ?_⟩, by rw [hpa]; exact hq⟩
      · rw [hpa, ← e]; exact hn
      · intro hs; unfold sgn at hs; cases s
        · simp only [Bool.false_eq_true, if_false] at hs; omega
        · rfl
      · intro hs; unfold sgn at hs; cases s
        · rfl
        · simp only [if_true] at hs; omega
    · cases h

theorem mapErr_smps {W H : Int} {n : Nat} {xs : List Nat} (hx : xs.length = n) (h : mapErr W H n xs = 0) : ∀ j, j < n → smpErr (xs[j]?.getD 0) = 0 := by
  intro j hj
  unfold mapErr at h
  split at h
  · split at h
    · refine firstNZ_all h _ (List.mem_map.2 ⟨xs[j]?.getD 0, ?_, rfl⟩)
      rw [List.getElem?_eq_getElem (by omega)]
      exact List.getElem_mem _
    · cases h
  · rename_i h0; exact absurd h h0

theorem AnyMap.rightK {w : World} {W H : Int} {a : Option Addr} {n c : Nat} {xs : List Nat} (h : AnyMap w a n c xs) (h0 : mapErr W H n xs = 0) :
    ∃ b o, a = some ⟨b, o, none⟩ ∧ b < w.heap.size ∧ RightMap w W H b o n xs (xs.map kOf) := by
  obtain ⟨b, o, ks, ha, hb, hr⟩ := h.right h0
  have hk : ∀ j, j < n → (xs.map kOf)[j]?.getD 0 = kOf (xs[j]?.getD 0) := fun j hj => by
    have := hr.len
    rw [List.getElem?_map, List.getElem?_eq_getElem (by omega)]; rfl
  have hs := mapErr_smps h.len h0
  exact ⟨b, o, ha, hb, ⟨⟨hr.len, by rw [List.length_map]; exact hr.len, hr.small, hr.cells, hr.words, fun j hj => by rw [hk j hj]; exact (smp_kOf (hs j hj)).1, fun j hj => by rw [hk j hj]; exact (smp_kOf (hs j hj)).2⟩, hr.wid, hr.hei, hr.area⟩⟩

/-- CheckMap, in the words of AnyMap. -/
theorem checkMap_map (W H : Int) (a : Option Addr) (n c : Nat) (xs : List Nat) (w : World) (h : AnyMap w a n c xs) :
    Calls Tryz.prog 41 #[.agg #[.int .i64 W, .int .i64 H, .slice a n c]] w fun e w' => e = .returned (.int .i64 (mapErr W H n xs)) ∧ Below w.heap.size w w' :=
  checkMap_all W H a n c xs h.len w h.words h.cells
theorem refCheckMap_map (W H : Int) (a : Option Addr) (n c : Nat) (xs : List Nat) (w : World) (h : AnyMap w a n c xs) :
    Calls Tryz.prog 35 #[.agg #[.int .i64 W, .int .i64 H, .slice a n c]] w fun e w' => e = .returned (.int .i64 (mapErr W H n xs)) ∧ Below w.heap.size w w' :=
  refCheckMap_all W H a n c xs h.len w h.cells

/-! ### At -/

def inPlace (W H X Y : Int) : Prop := 0 ≤ X ∧ X < W ∧ 0 ≤ Y ∧ Y < H
instance (W H X Y : Int) : Decidable (inPlace W H X Y) := by unfold inPlace; infer_instance
def atErr (W H X Y : Int) (n : Nat) (xs : List Nat) : Int := if mapErr W H n xs = 0 then if inPlace W H X Y then 0 else 10 else mapErr W H n xs
def atK (W X Y : Int) (xs : List Nat) : Int := kOf (xs[(Y * W + X).toNat]?.getD 0)

set_option maxRecDepth 100000 in
set_option maxHeartbeats 3200000 in
theorem at_bad (W H : Int) (a : Option Addr) (n c : Nat) (xs : List Nat) (X Y r : Int) (hr0 : r ≠ 0) (w : World)
    (hC : ∀ w1 : World, Below w.heap.size w w1 → Calls Tryz.prog 41 #[.agg #[.int .i64 W, .int .i64 H, .slice a n c]] w1 fun e w' => e = .returned (.int .i64 r) ∧ Below w1.heap.size w1 w') :
    Calls Tryz.prog 31 #[.agg #[.int .i64 W, .int .i64 H, .slice a n c], .agg #[.int .i64 X, .int .i64 Y]] w fun e w' =>
      e = .returned (.tuple #[.float .f32 0, .int .i64 r]) ∧ Below w.heap.size w w' := by
  have e0 : (r != 0) = true := by simp [hr0]
  have HC := Lib.hid hC
  clear hr0 hC
  have hB0 : ∀ o1 o2, Below w.heap.size w ((w.alloc o1).alloc o2) := fun o1 o2 => ((Below.refl _ w).alloc (Nat.le_refl _) _).alloc (by simp) _
  have HB0 := Lib.hid hB0
  clear hB0
  go_enter Tryz.func31, Tryz.ntmps31
  go_wp2_with (go_at_call 41; refine (HC.out _ (HB0.out _ _)).mono ?_; rintro e w1 ⟨rfl, hb1⟩)
  go_ret2
  exact ⟨rfl, (HB0.out _ _).trans (hb1.mono (by simp; omega))⟩

set_option maxRecDepth 100000 in
set_option maxHeartbeats 3200000 in
theorem total_bad (W H : Int) (a : Option Addr) (n c : Nat) (r : Int) (hr0 : r ≠ 0) (w : World)
    (hC : ∀ w1 : World, Below w.heap.size w w1 → Calls Tryz.prog 41 #[.agg #[.int .i64 W, .int .i64 H, .slice a n c]] w1 fun e w' => e = .returned (.int .i64 r) ∧ Below w1.heap.size w1 w') :
    Calls Tryz.prog 33 #[.agg #[.int .i64 W, .int .i64 H, .slice a n c]] w fun e w' =>
      e = .returned (.tuple #[.int .i64 0, .int .i64 r]) ∧ Below w.heap.size w w' := by
  have e0 : (r != 0) = true := by simp [hr0]
  have HC := Lib.hid hC
  clear hr0 hC
  have hB0 : ∀ o1, Below w.heap.size w (w.alloc o1) := fun o1 => (Below.refl _ w).alloc (Nat.le_refl _) _
  have HB0 := Lib.hid hB0
  clear hB0
  go_enter Tryz.func33, Tryz.ntmps33
  go_wp2_with (go_at_call 41; refine (HC.out _ (HB0.out _)).mono ?_; rintro e w1 ⟨rfl, hb1⟩)
  go_ret2
  exact ⟨rfl, (HB0.out _).trans (hb1.mono (by simp))⟩

set_option maxRecDepth 100000 in
set_option maxHeartbeats 3200000 in
theorem at_out (W H : Nat) (b o n c : Nat) (xs : List Nat) (ks : List Int) (w : World) (hA : RightMap w W H b o n xs ks) (hb : b < w.heap.size) (X Y : Int) (hin : insideB W H (X, Y) = false) :
    Calls Tryz.prog 31 #[.agg #[.int .i64 W, .int .i64 H, .slice (some ⟨b, o, none⟩) n c], .agg #[.int .i64 X, .int .i64 Y]] w fun e w' =>
      e = .returned (.tuple #[.float .f32 0, .int .i64 10]) ∧ Below w.heap.size w w' := by
  obtain ⟨W0, hW0⟩ : ∃ W0, (w.alloc (.cells #[.int .i64 W, .int .i64 H, .slice (some ⟨b, o, none⟩) n c] 54)).alloc (.cells #[.int .i64 X, .int .i64 Y] 50) = W0 := ⟨_, rfl⟩
  have hB0 : Below w.heap.size w W0 := by rw [← hW0]; exact ((Below.refl _ w).alloc (Nat.le_refl _) _).alloc (by simp) _
  have hS0 : W0.heap.size = w.heap.size + 2 := by rw [← hW0]; simp
  have a0 : W0.cell? ⟨w.heap.size, 0, none⟩ = some (.int .i64 W) := by rw [← hW0]; simp [go_sem]
  have a1 : W0.cell? ⟨w.heap.size, 1, none⟩ = some (.int .i64 H) := by rw [← hW0]; simp [go_sem]
  have a2 : W0.cell? ⟨w.heap.size, 2, none⟩ = some (.slice (some ⟨b, o, none⟩) n c) := by rw [← hW0]; simp [go_sem]
  have p0 : W0.cell? ⟨w.heap.size + 1, 0, none⟩ = some (.int .i64 X) := by rw [← hW0]; simp [go_sem]
  have p1 : W0.cell? ⟨w.heap.size + 1, 1, none⟩ = some (.int .i64 Y) := by rw [← hW0]; simp [go_sem]
  have K1 := Lib.hid (checkMap_any W H b o n c xs ks W0 (hA.below hB0 hb) (by omega))
  have K2 : Hid (∀ w1 : World, Below W0.heap.size W0 w1 → Calls Tryz.prog 105 #[.agg #[.int .i64 W, .int .i64 H, .slice (some ⟨b, o, none⟩) n c]] w1 fun e w' =>
      ∃ g, e = .returned (.agg #[.int .i64 W, .int .i64 H, .slice (some ⟨g, 0, none⟩) n n]) ∧ w1.heap.size ≤ g ∧ RowAt w' g n ks ∧ Below w1.heap.size w1 w') := Lib.hid (fun w1 h => by
    have h1 := h.size
    have h2 := hB0.trans (h.mono (by omega))
    exact grid_row W H b o n c xs ks w1 (hA.below h2 hb).toWords (by omega))
  have HB0 := Lib.hid hB0
  have HS0 := Lib.hid hS0
  clear hA hB0
  go_enter Tryz.func31, Tryz.ntmps31
  go_upto_region 1 with fail
  try rw [hW0]
  clear hW0
  go_wp2_with (first
    | ((go_at_call 41; refine K1.out.mono ?_; rintro e w1 ⟨rfl, hb1⟩
        have hs1 := hb1.size
        have a0' := (hb1.cell (p := ⟨w.heap.size, 0, none⟩) (by show w.heap.size < _; omega)).trans a0
        have a1' := (hb1.cell (p := ⟨w.heap.size, 1, none⟩) (by show w.heap.size < _; omega)).trans a1
        have a2' := (hb1.cell (p := ⟨w.heap.size, 2, none⟩) (by show w.heap.size < _; omega)).trans a2
        have K3 := Lib.hid (K2.out w1 hb1)))
    | ((go_at_call 105; refine K3.out.mono ?_; rintro e w2 ⟨ga, rfl, hga, hRA, hb2⟩
        have hs2 := hb2.size
        obtain ⟨W3, hW3⟩ : ∃ W3, w2.alloc (.cells #[.int .i64 W, .int .i64 H, .slice (some ⟨ga, 0, none⟩) n n] 165) = W3 := ⟨_, rfl⟩
        have hB23 : Below w2.heap.size w2 W3 := by rw [← hW3]; exact (Below.refl _ _).alloc (Nat.le_refl _) _
        have hS3 : W3.heap.size = w2.heap.size + 1 := by rw [← hW3]; simp
        have hB3 : Below W0.heap.size W0 W3 := (hb1.trans (hb2.mono hs1)).trans (hB23.mono (by omega))
        have g0 : W3.cell? ⟨w2.heap.size, 0, none⟩ = some (.int .i64 W) := by rw [← hW3]; simp [go_sem]
        have g1 : W3.cell? ⟨w2.heap.size, 1, none⟩ = some (.int .i64 H) := by rw [← hW3]; simp [go_sem]
        have g2 : W3.cell? ⟨w2.heap.size, 2, none⟩ = some (.slice (some ⟨ga, 0, none⟩) n n) := by rw [← hW3]; simp [go_sem]
        have p0' := (hB3.cell (p := ⟨w.heap.size + 1, 0, none⟩) (by show w.heap.size + 1 < _; omega)).trans p0
        have p1' := (hB3.cell (p := ⟨w.heap.size + 1, 1, none⟩) (by show w.heap.size + 1 < _; omega)).trans p1
        have HB3 := Lib.hid hB3
        clear hRA hB23 hb2 hB3 a0 a1 a2 a0' a1' a2' hb1))
    | ((go_at_call 106; refine (has_any W H X Y _ _ _ W3).mono ?_; rintro e w4 ⟨rfl, hb4⟩
        have HB4 := Lib.hid (HB3.out.trans (hb4.mono (by omega)))
        clear hb4)))
  go_ret2
  exact ⟨rfl, HB0.out.trans (HB4.out.mono (by have := HS0.out; omega))⟩

theorem lightAt_all (W H : Int) (a : Option Addr) (n c : Nat) (xs : List Nat) (X Y : Int) (w : World) (hM : AnyMap w a n c xs) :
    Calls Tryz.prog 31 #[.agg #[.int .i64 W, .int .i64 H, .slice a n c], .agg #[.int .i64 X, .int .i64 Y]] w fun e w' =>
      e = .returned (.tuple #[.float .f32 (if atErr W H X Y n xs = 0 then smpOf (atK W X Y xs) else 0), .int .i64 (atErr W H X Y n xs)]) ∧ Below w.heap.size w w' := by
  by_cases h0 : mapErr W H n xs = 0
  · obtain ⟨b, o, rfl, hb, hR⟩ := hM.rightK h0
    obtain ⟨Wn, rfl⟩ := Int.eq_ofNat_of_zero_le (show 0 ≤ W by have := hR.wid; omega)
    obtain ⟨Hn, rfl⟩ := Int.eq_ofNat_of_zero_le (show 0 ≤ H by have := hR.hei; omega)
    unfold atErr
    rw [if_pos h0]
    by_cases hi : inPlace Wn Hn X Y
    · rw [if_pos hi, if_pos rfl]
      obtain ⟨i1, i2, i3, i4⟩ := hi
      obtain ⟨Xn, rfl⟩ := Int.eq_ofNat_of_zero_le i1
      obtain ⟨Yn, rfl⟩ := Int.eq_ofNat_of_zero_le i3
      have h := lightAt_any Wn Hn b o n c xs (xs.map kOf) w hR hb Xn Yn (by omega) (by omega)
      have e : (xs.map kOf)[Yn * Wn + Xn]?.getD 0 = atK Wn Xn Yn xs := by
        have hN : Wn * Hn = n := by have := hR.area; exact_mod_cast this
        have hlt : Yn * Wn + Xn < n := idx_lt (p := (Xn, Yn)) (by omega) (by omega) hN
        have hl := hM.len
        unfold atK
        have e1 : ((Yn : Int) * (Wn : Int) + (Xn : Int)).toNat = Yn * Wn + Xn := by
          have e2 : (Yn : Int) * (Wn : Int) = ((Yn * Wn : Nat) : Int) := by push_cast; rfl
          rw [e2]; omega
        rw [e1, List.getElem?_map, List.getElem?_eq_getElem (by omega)]; rfl
      rw [e] at h
      exact h
    · rw [if_neg hi, if_neg (by decide)]
      refine at_out Wn Hn b o n c xs (xs.map kOf) w hR hb X Y ?_
      unfold inPlace at hi
      simp [insideB]
      omega
  · unfold atErr
    rw [if_neg h0, if_neg h0]
    exact at_bad W H a n c xs X Y _ h0 w fun w1 h1 => checkMap_map W H a n c xs w1 (hM.below h1 (Nat.le_refl _))

theorem lightTotal_all (W H : Int) (a : Option Addr) (n c : Nat) (xs : List Nat) (w : World) (hM : AnyMap w a n c xs) :
    Calls Tryz.prog 33 #[.agg #[.int .i64 W, .int .i64 H, .slice a n c]] w fun e w' =>
      e = .returned (.tuple #[.int .i64 (if mapErr W H n xs = 0 then (xs.map kOf).sum else 0), .int .i64 (mapErr W H n xs)]) ∧ Below w.heap.size w w' := by
  by_cases h0 : mapErr W H n xs = 0
  · obtain ⟨b, o, rfl, hb, hR⟩ := hM.rightK h0
    rw [if_pos h0, h0]
    exact total_any W H b o n c xs (xs.map kOf) w hR hb
  · rw [if_neg h0]
    exact total_bad W H a n c _ h0 w fun w1 h1 => checkMap_map W H a n c xs w1 (hM.below h1 (Nat.le_refl _))
end Go.Proofs.YtlnhgplloaiiiaaGreatDoor

/-
  Contracts of the reference's Total and Level of a right map, and of number.
-/
namespace Go.Proofs.YtlnhgplloaiiiaaGreatDoor
open Go.RowKit
set_option linter.unusedVariables false
set_option linter.unusedSimpArgs false

set_option maxRecDepth 100000 in
set_option maxHeartbeats 3200000 in
theorem refTotal_any (W H : Int) (b o n c : Nat) (xs : List Nat) (ks : List Int) (w : World) (hw : RightMap w W H b o n xs ks) (hb : b < w.heap.size) :
    Calls Tryz.prog 37 #[.agg #[.int .i64 W, .int .i64 H, .slice (some ⟨b, o, none⟩) n c]] w fun e w' => e = .returned (.int .i64 ks.sum) ∧ Below w.heap.size w w' := by
  have HBD := Lib.hid (sum_take_bd hw.lenk hw.sizes)
  have hsm := hw.small
  have HW := Lib.hid hw
  clear hw
  go_enter Tryz.func37, Tryz.ntmps37
  go_wp2
  go_loop [3, 4] (fun x i => ∃ k : Nat, k ≤ n ∧ i = .int .i64 k ∧ x = .int .i64 (ks.take k).sum) (fun _ i => n - (intOf i).toNat)
  case atStart => exact ⟨0, Nat.zero_le _, rfl, rfl⟩
  case round =>
    obtain ⟨k, hk, rfl, rfl⟩ := hrel
    have hbd := HBD.out k hk
    by_cases hlt : k < n
    · have hcell := HW.out.cells k hlt
      have hz := HW.out.sizes k hlt
      have HS := Lib.hid (sum_take_succ ks k (by have := HW.out.lenk; omega))
      have K := Lib.hid (HW.out.smps k hlt)
      have K2 := Lib.hid (Nat.lt_of_le_of_lt hz (show 16384 < 2 ^ 40 by decide))
      have hb3 : -67108864 ≤ (ks.take k).sum ∧ (ks.take k).sum ≤ 67108864 := by
        have : 16384 * k ≤ 67108864 := by omega
        omega
      clear hbd
      go_wp2_with (go_at_call 111; refine (sixteenths_any _ _ K.out K2.out _).mono ?_; rintro e w' ⟨rfl, rfl⟩)
      go_round
      case rel => exact ⟨k + 1, by omega, by go_num, by rw [HS.out]⟩
      case measure => simp [intOf]; omega
    · go_wp2
      go_ret
      obtain rfl : k = n := by omega
      exact ⟨by rw [List.take_of_length_le (by have := HW.out.lenk; omega)]; rfl, (Below.refl _ w).alloc (Nat.le_refl _) _⟩

set_option maxRecDepth 100000 in
set_option maxHeartbeats 3200000 in
theorem refLevel_any (W H : Nat) (b o n c : Nat) (xs : List Nat) (ks : List Int) (w : World) (hw : RightMap w W H b o n xs ks) (hb : b < w.heap.size) (X Y : Nat) (hX : X < W) (hY : Y < H) :
    Calls Tryz.prog 40 #[.agg #[.int .i64 W, .int .i64 H, .slice (some ⟨b, o, none⟩) n c], .int .i64 X, .int .i64 Y] w fun e w' => e = .returned (.int .i64 (ks[Y * W + X]?.getD 0)) ∧ Below w.heap.size w w' := by
  have hW := hw.wid
  have hH := hw.hei
  have hN : W * H = n := by have := hw.area; exact_mod_cast this
  have hlt : Y * W + X < n := idx_lt (p := (X, Y)) hX hY hN
  have hsm := hw.small
  have hcell := hw.cells _ hlt
  have K := Lib.hid (hw.smps _ hlt)
  have K2 := Lib.hid (Nat.lt_of_le_of_lt (hw.sizes _ hlt) (show 16384 < 2 ^ 40 by decide))
  have m1 : Y * W ≤ 64 * 64 := Nat.mul_le_mul (by omega) (by omega)
  have e2 : (Y : Int) * (W : Int) = ((Y * W : Nat) : Int) := by push_cast; rfl
  have w2 : IntKind.wrap .i64 (((Y * W : Nat) : Int)) = ((Y * W : Nat) : Int) := IntWalk.i64_in _ (by omega)
  have e1 : (((Y * W : Nat) : Int) + (X : Int)) = ((Y * W + X : Nat) : Int) := by push_cast; rfl
  clear hw
  have t1 : ((X : Int) < 0) = False := by simp
  have t2 : ((W : Int) ≤ (X : Int)) = False := by simp; omega
  have t3 : ((Y : Int) < 0) = False := by simp
  have t4 : ((H : Int) ≤ (Y : Int)) = False := by simp; omega
  generalize hp : Y * W + X = P at *
  have w1 : IntKind.wrap .i64 (P : Int) = (P : Int) := IntWalk.i64_in _ (by omega)
  generalize hq : Y * W = Q at *
  go_enter Tryz.func40, Tryz.ntmps40
  go_wp2_with (go_at_call 111; refine (sixteenths_any _ _ K.out K2.out _).mono ?_; rintro e w' ⟨rfl, rfl⟩)
  go_ret
  exact ⟨rfl, (Below.refl _ w).alloc (Nat.le_refl _) _⟩

set_option maxHeartbeats 800000 in
theorem number_same (v r : Int) (w : World) :
    Calls Tryz.prog 42 #[.int .i64 (if r = 0 then v else 0), .int .i64 r, .int .i64 r, .int .i64 (if r = 0 then v else 0)] w fun e w' => e = .returned (.bool true) ∧ w = w' := by
  by_cases h : r = 0
  · subst h
    simp only [if_true]
    go_enter Tryz.func42, Tryz.ntmps42
    go_wp2
    go_ret
    exact ⟨rfl, rfl⟩
  · have e0 : (r != 0) = true := by simp [h]
    have e1 : (r == r) = true := by simp
    rw [if_neg h]
    clear h
    go_enter Tryz.func42, Tryz.ntmps42
    go_wp2
    go_ret
    exact ⟨rfl, rfl⟩
end Go.Proofs.YtlnhgplloaiiiaaGreatDoor
