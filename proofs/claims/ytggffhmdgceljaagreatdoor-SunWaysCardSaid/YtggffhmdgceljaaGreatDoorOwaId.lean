/-
  Contracts of the reduced parts, of a ray's parts that are reduced, and of opposite directions.
-/
import Derived.Test.YtggffhmdgceljaaGreatDoorRows
import Derived.WalkKit
import Derived.WalkSpells
import Derived.WalkLawsBesides
import Derived.Lib.Hide
import Derived.BigQuiet
import Derived.Deep.QuietTactic
import Derived.Handy
import Derived.Deep.RegionHeld3
import Derived.Deep.RegionWith
import Derived.StillTailTactics
import Derived.RangeFuncNested
import Derived.RangeFuncBound
import Derived.RangeFuncCalls
import Derived.RangeFuncLeaves
import Derived.RangeFuncBox
import Derived.Shelf.Abstract
import Derived.Shelf.RegionOpen
import Derived.OwnWalkIn
import Derived.TacticsInMore
import Derived.LoopNIn
import Derived.LoopIn
import Derived.Maps.AppendAt
import Derived.Test.YtggffhmdgceljaaGreatDoorProg
import Derived.Laws.FloatArith
import Derived.Laws.BitsAllLaws
import Derived.Deep.DeepCutAuto
import Derived.Stop.BytesEq
import Derived.Deep.MidRow
import Derived.Laws.CopyRow
import Derived.WalkMore
import Derived.Deep.DrawnRows
import Derived.Deep.CutBlock
import Derived.LoopTactic
import Derived.Laws.StructEq
import Derived.Deep.RegionLaw
import Derived.Test.YtggffhmdgceljaaGreatDoorOwaWn
import Derived.Test.YtggffhmdgceljaaGreatDoorOwaXe
import Derived.Test.YtggffhmdgceljaaGreatDoorOwaWi
import Derived.Test.YtggffhmdgceljaaGreatDoorOwaIb
import Derived.Test.YtggffhmdgceljaaGreatDoorOwaWa
namespace Go.Proofs.YtggffhmdgceljaaGreatDoor
open Go.RowKit
set_option linter.unusedVariables false
set_option linter.unusedSimpArgs false

/-- An integer whose absolute value is at most 2^62. -/
def Mid (n : Int) : Prop := -4611686018427387904 ≤ n ∧ n ≤ 4611686018427387904
theorem Mid.out {n : Int} (h : Mid n) : -4611686018427387904 ≤ n ∧ n ≤ 4611686018427387904 := h
theorem gcd_mid {a b : Int} (ha : Mid a) (hb : Mid b) : Mid (Int.gcd a b : Int) := by
  have ha := ha.out
  have hb := hb.out
  have h1 := Int.gcd_dvd_left a b
  have h2 := Int.gcd_dvd_right a b
  refine ⟨by omega, ?_⟩
  by_cases e : a = 0
  · by_cases e2 : b = 0
    · subst e e2; decide
    · have := Int.le_of_dvd (by omega : 0 < (b.natAbs : Int)) (Int.dvd_natAbs.2 h2); omega
  · have := Int.le_of_dvd (by omega : 0 < (a.natAbs : Int)) (Int.dvd_natAbs.2 h1); omega

/-- A call that makes memory alone, in a world above another one. -/
theorem on_blw {f : FuncId} {args : Array Value} {E : Ending} {W0 w1 : World} (c : Calls Tryz.prog f args w1 fun e w' => e = E ∧ Below w1.heap.size w1 w') (h : Blw W0.heap.size W0 w1) :
    Calls Tryz.prog f args w1 fun e w' => e = E ∧ Below W0.heap.size W0 w' :=
  c.mono fun e w' ⟨he, hb⟩ => ⟨he, (show Below W0.heap.size W0 w1 from h).trans (hb.mono (show Below W0.heap.size W0 w1 from h).size)⟩

set_option maxRecDepth 100000 in
set_option maxHeartbeats 6400000 in
theorem reduced_any (x y z : Int) (hx : Mid x) (hy : Mid y) (hz : Mid z) (h0 : ¬ (x = 0 ∧ y = 0 ∧ z = 0)) (w : World) :
    Calls Tryz.prog 72 #[.agg #[.int .i64 x, .int .i64 y, .int .i64 z]] w fun e w' => e = .returned (.agg #[.int .i64 (x.tdiv (g3 x y z)), .int .i64 (y.tdiv (g3 x y z)), .int .i64 (z.tdiv (g3 x y z))]) ∧ Below w.heap.size w w' := by
  obtain ⟨W0, hW0⟩ : ∃ W0, (w.alloc (.cells #[.int .i64 x, .int .i64 y, .int .i64 z] 94)).alloc (.cells #[.int .i64 0, .int .i64 0, .int .i64 0] 94) = W0 := ⟨_, rfl⟩
  have HB0 : Hid (Below w.heap.size w W0) := Lib.hid (by rw [← hW0]; exact ((Below.refl _ w).alloc (Nat.le_refl _) _).alloc (by simp) _)
  have hS : w.heap.size < W0.heap.size := by rw [← hW0]; simp; omega
  have a0 : W0.cell? ⟨w.heap.size, 0, none⟩ = some (.int .i64 x) := by rw [← hW0]; simp [go_sem]
  have a1 : W0.cell? ⟨w.heap.size, 1, none⟩ = some (.int .i64 y) := by rw [← hW0]; simp [go_sem]
  have a2 : W0.cell? ⟨w.heap.size, 2, none⟩ = some (.int .i64 z) := by rw [← hW0]; simp [go_sem]
  have e0 : W0.cell? ⟨w.heap.size + 1, 0, none⟩ = some (.int .i64 0) := by rw [← hW0]; simp [go_sem]
  have e1 : W0.cell? ⟨w.heap.size + 1, 1, none⟩ = some (.int .i64 0) := by rw [← hW0]; simp [go_sem]
  have e2 : W0.cell? ⟨w.heap.size + 1, 2, none⟩ = some (.int .i64 0) := by rw [← hW0]; simp [go_sem]
  have fz0 : ∀ j, W0.frozen? ⟨w.heap.size, j, none⟩ = false := fun j => by rw [← hW0]; simp [go_sem]
  have fz1 : ∀ j, W0.frozen? ⟨w.heap.size + 1, j, none⟩ = false := fun j => by rw [← hW0]; simp [go_sem]
  have hS1 : w.heap.size + 1 < W0.heap.size := by rw [← hW0]; simp
  have hR : Blw W0.heap.size W0 W0.drew := show Below _ _ _ from (Below.refl W0.heap.size W0).drew
  obtain ⟨g1, hg1⟩ : ∃ g1 : Int, (Int.gcd x y : Int) = g1 := ⟨_, rfl⟩
  have hm1 : Mid g1 := by rw [← hg1]; exact gcd_mid hx hy
  obtain ⟨g, hg⟩ : ∃ g : Int, g3 x y z = g := ⟨_, rfl⟩
  have hgp : 0 < g := by rw [← hg]; exact g3_pos h0
  have hgz : (Int.gcd g1 z : Int) = g := by rw [← hg, ← hg1]; rfl
  have K1 : Hid (∀ w1 : World, Blw W0.heap.size W0 w1 → Calls Tryz.prog 101 #[.int .i64 x, .int .i64 y] w1 fun e w' => e = .returned (.int .i64 g1) ∧ Below W0.heap.size W0 w') := Lib.hid fun w1 hb => by
    have h := on_blw (divisor_any x y hx.out hy.out w1) hb
    rwa [hg1] at h
  have K2 : Hid (∀ w1 : World, Blw W0.heap.size W0 w1 → Calls Tryz.prog 101 #[.int .i64 g1, .int .i64 z] w1 fun e w' => e = .returned (.int .i64 g) ∧ Below W0.heap.size W0 w') := Lib.hid fun w1 hb => by
    have h := on_blw (divisor_any g1 z hm1.out hz.out w1) hb
    rwa [hgz] at h
  rw [hg]
  obtain ⟨q1, hq1⟩ : ∃ q1 : Int, x.tdiv g = q1 := ⟨_, rfl⟩
  obtain ⟨q2, hq2⟩ : ∃ q2 : Int, y.tdiv g = q2 := ⟨_, rfl⟩
  obtain ⟨q3, hq3⟩ : ∃ q3 : Int, z.tdiv g = q3 := ⟨_, rfl⟩
  have b1 : IntKind.i64.wrap q1 = q1 := by
    have := tdiv_le x g; have := hx.out; rw [hq1] at *; exact IntWalk.i64_in _ ⟨by omega, by omega⟩
  have b2 : IntKind.i64.wrap q2 = q2 := by
    have := tdiv_le y g; have := hy.out; rw [hq2] at *; exact IntWalk.i64_in _ ⟨by omega, by omega⟩
  have b3 : IntKind.i64.wrap q3 = q3 := by
    have := tdiv_le z g; have := hz.out; rw [hq3] at *; exact IntWalk.i64_in _ ⟨by omega, by omega⟩
  rw [hq1, hq2, hq3]
  have n0 : ¬ (g = 0) := by omega
  have n1 : (g == 0) = false := by simp; omega
  clear hx hy hz h0 hg1 hm1 hg hgz
  go_enter Tryz.func72, Tryz.ntmps72
  go_upto_region 1 with fail
  try rw [hW0]
  clear hW0
  go_region_held3 (fun w' => w'.cell? ⟨w.heap.size, 0, none⟩ = some (.int .i64 x) ∧ w'.cell? ⟨w.heap.size, 1, none⟩ = some (.int .i64 y) ∧ w'.cell? ⟨w.heap.size, 2, none⟩ = some (.int .i64 z) ∧ Blw W0.heap.size W0 w')
    (first | (go_split_ands; refine ⟨?_, ?_, ?_, ?_⟩ <;> first | (with_reducible assumption) | exact hb2 | ((rw [hb2.cell hS]; assumption))) | go_keep)
    (first
      | (go_at_call 101; (with_reducible refine (K1.out _ ?_).mono ?_); rotate_left 1; rintro e w2 ⟨rfl, hb2⟩; rotate_left 1; (simp [*]))
      | (go_at_call 101; (with_reducible refine (K2.out _ ?_).mono ?_); rotate_left 1; rintro e w2 ⟨rfl, hb2⟩; rotate_left 1; (simp [*])))
  have c0 := (hb2.cell (p := ⟨w.heap.size, 0, none⟩) hS).trans a0
  have c1 := (hb2.cell (p := ⟨w.heap.size, 1, none⟩) hS).trans a1
  have c2 := (hb2.cell (p := ⟨w.heap.size, 2, none⟩) hS).trans a2
  have d0 := (hb2.cell (p := ⟨w.heap.size + 1, 0, none⟩) hS1).trans e0
  have d1 := (hb2.cell (p := ⟨w.heap.size + 1, 1, none⟩) hS1).trans e1
  have d2 := (hb2.cell (p := ⟨w.heap.size + 1, 2, none⟩) hS1).trans e2
  have f0 : ∀ j, w2.frozen? ⟨w.heap.size, j, none⟩ = false := fun j => (hb2.frozen (p := ⟨w.heap.size, j, none⟩) hS).trans (fz0 j)
  have f1 : ∀ j, w2.frozen? ⟨w.heap.size + 1, j, none⟩ = false := fun j => (hb2.frozen (p := ⟨w.heap.size + 1, j, none⟩) hS1).trans (fz1 j)
  have HB2 : Hid (Below w.heap.size w w2) := Lib.hid (HB0.out.trans (hb2.mono HB0.out.size))
  clear hb2 a0 a1 a2 e0 e1 e2 fz0 fz1 hS hS1 hR K1 K2 HB0
  go_wp2_with fail
  refine wp_loop_rounds 4 ?_
  rw [rounds_succ]
  go_wp2_with fail
  rw [rounds_succ]
  go_wp2_with fail
  rw [rounds_succ]
  go_wp2_with fail
  rw [rounds_succ]
  go_wp2_with fail
  refine bodyPost_ret (v := .agg #[.int .i64 q1, .int .i64 q2, .int .i64 q3]) (by simp [results, Tryz.results72, go_sem, d0, d1, d2]) rfl ⟨rfl, ?_⟩
  have hb := HB2.out
  exact (((((hb.setCell (by simp) _).setCell (by simp) _).setCell (by simp) _).setCell (by simp) _).setCell (by simp) _).setCell (by simp) _
end Go.Proofs.YtggffhmdgceljaaGreatDoor

/-
  Contracts of the program's check of a vector by any limit, and of a ray.
-/
namespace Go.Proofs.YtggffhmdgceljaaGreatDoor
open Go.RowKit
set_option linter.unusedVariables false
set_option linter.unusedSimpArgs false

def vectorErrL (L x y z : Int) : Int := firstNZ [rangeErr x (-L) L, rangeErr y (-L) L, rangeErr z (-L) L]
theorem vectorErr_L (x y z : Int) : vectorErr x y z = vectorErrL 1048576 x y z := rfl

set_option maxRecDepth 100000 in
set_option maxHeartbeats 3200000 in
theorem checkVectorL_all (x y z L : Int) (hL : 0 ≤ L ∧ L ≤ 1048576) (w : World) :
    Calls Tryz.prog 46 #[.agg #[.int .i64 x, .int .i64 y, .int .i64 z], .int .i64 L] w fun e w' => e = .returned (.int .i64 (vectorErrL L x y z)) ∧ Below w.heap.size w w' := by
  have i0 : ∀ w : World, (Instr.index 94 (.agg #[.int .i64 x, .int .i64 y, .int .i64 z]) (.int .i64 0)).run Tryz.prog w = .ok (.int .i64 x) w := fun _ => by kernel_rfl
  have i1 : ∀ w : World, (Instr.index 94 (.agg #[.int .i64 x, .int .i64 y, .int .i64 z]) (.int .i64 1)).run Tryz.prog w = .ok (.int .i64 y) w := fun _ => by kernel_rfl
  have i2 : ∀ w : World, (Instr.index 94 (.agg #[.int .i64 x, .int .i64 y, .int .i64 z]) (.int .i64 2)).run Tryz.prog w = .ok (.int .i64 z) w := fun _ => by kernel_rfl
  have KP := Lib.hid (partsOf_any x y z (w.alloc (.cells #[.int .i64 x, .int .i64 y, .int .i64 z] 23)))
  have HB0 : Hid (Below w.heap.size w (w.alloc (.cells #[.int .i64 x, .int .i64 y, .int .i64 z] 23))) := Lib.hid ((Below.refl _ w).alloc (Nat.le_refl _) _)
  obtain ⟨rx, hrx⟩ : ∃ rx : Int, rangeErr x (-L) L = rx := ⟨_, rfl⟩
  have Kx : Hid (∀ w, Calls Tryz.prog 54 #[.int .i64 x, .int .i64 (-L), .int .i64 L] w fun e w' => e = .returned (.int .i64 rx) ∧ w = w') := Lib.hid fun w => by
    have h := checkRange_any x (-L) L w
    rwa [hrx] at h
  obtain ⟨ry, hry⟩ : ∃ ry : Int, rangeErr y (-L) L = ry := ⟨_, rfl⟩
  have Ky : Hid (∀ w, Calls Tryz.prog 54 #[.int .i64 y, .int .i64 (-L), .int .i64 L] w fun e w' => e = .returned (.int .i64 ry) ∧ w = w') := Lib.hid fun w => by
    have h := checkRange_any y (-L) L w
    rwa [hry] at h
  obtain ⟨rz, hrz⟩ : ∃ rz : Int, rangeErr z (-L) L = rz := ⟨_, rfl⟩
  have Kz : Hid (∀ w, Calls Tryz.prog 54 #[.int .i64 z, .int .i64 (-L), .int .i64 L] w fun e w' => e = .returned (.int .i64 rz) ∧ w = w') := Lib.hid fun w => by
    have h := checkRange_any z (-L) L w
    rwa [hrz] at h
  have hE : vectorErrL L x y z = firstNZ [rx, ry, rz] := by unfold vectorErrL; rw [hrx, hry, hrz]
  rw [hE]
  have wL : IntKind.i64.wrap (-L) = -L := IntWalk.i64_in _ ⟨by omega, by omega⟩
  clear hE hrx hry hrz
  by_cases hx : rx = 0
  · by_cases hy : ry = 0
    · by_cases hz : rz = 0
      ·
        subst hx
        subst hy
        subst hz
        rw [show firstNZ [0, 0, 0] = 0 from rfl]
        go_enter Tryz.func46, Tryz.ntmps46
        go_wp2_with (go_at_call 45; refine KP.out.mono ?_; rintro e w1 ⟨rfl, hb1⟩)
        refine wp_loop_rounds 4 ?_
        rw [rounds_succ]
        go_wp2_with (go_at_call 54; refine (Kx.out _).mono ?_; rintro e w9 ⟨rfl, rfl⟩)
        rw [rounds_succ]
        go_wp2_with (go_at_call 54; refine (Ky.out _).mono ?_; rintro e w9 ⟨rfl, rfl⟩)
        rw [rounds_succ]
        go_wp2_with (go_at_call 54; refine (Kz.out _).mono ?_; rintro e w9 ⟨rfl, rfl⟩)
        rw [rounds_succ]
        go_wp2_with fail
        go_ret
        exact ⟨rfl, HB0.out.trans (hb1.mono HB0.out.size)⟩
      ·
        subst hx
        subst hy
        have ez : (rz != 0) = true := by simp [hz]
        rw [show firstNZ [0, 0, rz] = rz from by simp [firstNZ, hz]]
        clear hz
        go_enter Tryz.func46, Tryz.ntmps46
        go_wp2_with (go_at_call 45; refine KP.out.mono ?_; rintro e w1 ⟨rfl, hb1⟩)
        refine wp_loop_rounds 3 ?_
        rw [rounds_succ]
        go_wp2_with (go_at_call 54; refine (Kx.out _).mono ?_; rintro e w9 ⟨rfl, rfl⟩)
        rw [rounds_succ]
        go_wp2_with (go_at_call 54; refine (Ky.out _).mono ?_; rintro e w9 ⟨rfl, rfl⟩)
        rw [rounds_succ]
        go_wp2_with (go_at_call 54; refine (Kz.out _).mono ?_; rintro e w9 ⟨rfl, rfl⟩)
        go_ret
        exact ⟨rfl, HB0.out.trans (hb1.mono HB0.out.size)⟩
    ·
      subst hx
      have ey : (ry != 0) = true := by simp [hy]
      rw [show firstNZ [0, ry, rz] = ry from by simp [firstNZ, hy]]
      clear hy
      go_enter Tryz.func46, Tryz.ntmps46
      go_wp2_with (go_at_call 45; refine KP.out.mono ?_; rintro e w1 ⟨rfl, hb1⟩)
      refine wp_loop_rounds 2 ?_
      rw [rounds_succ]
      go_wp2_with (go_at_call 54; refine (Kx.out _).mono ?_; rintro e w9 ⟨rfl, rfl⟩)
      rw [rounds_succ]
      go_wp2_with (go_at_call 54; refine (Ky.out _).mono ?_; rintro e w9 ⟨rfl, rfl⟩)
      go_ret
      exact ⟨rfl, HB0.out.trans (hb1.mono HB0.out.size)⟩
  ·
    have ex : (rx != 0) = true := by simp [hx]
    rw [show firstNZ [rx, ry, rz] = rx from by simp [firstNZ, hx]]
    clear hx
    go_enter Tryz.func46, Tryz.ntmps46
    go_wp2_with (go_at_call 45; refine KP.out.mono ?_; rintro e w1 ⟨rfl, hb1⟩)
    refine wp_loop_rounds 1 ?_
    rw [rounds_succ]
    go_wp2_with (go_at_call 54; refine (Kx.out _).mono ?_; rintro e w9 ⟨rfl, rfl⟩)
    go_ret
    exact ⟨rfl, HB0.out.trans (hb1.mono HB0.out.size)⟩
/-- The error of a ray. -/
def rayErr (x y z : Int) : Int := firstNZ [directionErr x y z, vectorErrL 4096 x y z]

set_option maxRecDepth 100000 in
set_option maxHeartbeats 6400000 in
theorem checkRay_all (x y z : Int) (w : World) :
    Calls Tryz.prog 43 #[.agg #[.int .i64 x, .int .i64 y, .int .i64 z]] w fun e w' => e = .returned (.int .i64 (rayErr x y z)) ∧ Below w.heap.size w w' := by
  obtain ⟨W0, hW0⟩ : ∃ W0, w.alloc (.cells #[.int .i64 x, .int .i64 y, .int .i64 z] 23) = W0 := ⟨_, rfl⟩
  have HB0 : Hid (Below w.heap.size w W0) := Lib.hid (by rw [← hW0]; exact (Below.refl _ w).alloc (Nat.le_refl _) _)
  have hS : w.heap.size < W0.heap.size := by rw [← hW0]; simp
  have a0 : W0.cell? ⟨w.heap.size, 0, none⟩ = some (.int .i64 x) := by rw [← hW0]; simp [go_sem]
  have a1 : W0.cell? ⟨w.heap.size, 1, none⟩ = some (.int .i64 y) := by rw [← hW0]; simp [go_sem]
  have a2 : W0.cell? ⟨w.heap.size, 2, none⟩ = some (.int .i64 z) := by rw [← hW0]; simp [go_sem]
  have hR : Blw W0.heap.size W0 W0.drew := show Below _ _ _ from (Below.refl W0.heap.size W0).drew
  obtain ⟨v, hv⟩ : ∃ v : Int, directionErr x y z = v := ⟨_, rfl⟩
  obtain ⟨u, hu⟩ : ∃ u : Int, vectorErrL 4096 x y z = u := ⟨_, rfl⟩
  have KV : Hid (∀ w1 : World, Blw W0.heap.size W0 w1 → Calls Tryz.prog 71 #[.agg #[.int .i64 x, .int .i64 y, .int .i64 z]] w1 fun e w' => e = .returned (.int .i64 v) ∧ Below W0.heap.size W0 w') := Lib.hid fun w1 hb => by
    have h := on_blw (lightCheckDirection_all x y z w1) hb
    rwa [hv] at h
  have KU : Hid (∀ w1 : World, Blw W0.heap.size W0 w1 → Calls Tryz.prog 46 #[.agg #[.int .i64 x, .int .i64 y, .int .i64 z], .int .i64 4096] w1 fun e w' => e = .returned (.int .i64 u) ∧ Below W0.heap.size W0 w') := Lib.hid fun w1 hb => by
    have h := on_blw (checkVectorL_all x y z 4096 (by omega) w1) hb
    rwa [hu] at h
  have KF : Hid (firstNZ [v, u] = rayErr x y z) := Lib.hid (by unfold rayErr; rw [hv, hu])
  clear hv hu
  go_enter Tryz.func43, Tryz.ntmps43
  go_upto_region 1 with fail
  try rw [hW0]
  clear hW0
  go_region_held3 (fun w' => w'.cell? ⟨w.heap.size, 0, none⟩ = some (.int .i64 x) ∧ w'.cell? ⟨w.heap.size, 1, none⟩ = some (.int .i64 y) ∧ w'.cell? ⟨w.heap.size, 2, none⟩ = some (.int .i64 z) ∧ Blw W0.heap.size W0 w')
    (first | (go_split_ands; refine ⟨?_, ?_, ?_, ?_⟩ <;> first | (with_reducible assumption) | exact hb2 | ((rw [hb2.cell hS]; assumption))) | (go_split_ands; refine ⟨?_, ?_, ?_, ?_⟩ <;> first | ((rw [(hb2.alloc hb2.size _).cell hS]; assumption)) | exact (hb2.alloc hb2.size _ : Below _ _ _)) | go_keep)
    (first
      | (go_at_call 71; (with_reducible refine (KV.out _ ?_).mono ?_); rotate_left 1; rintro e w2 ⟨rfl, hb2⟩; rotate_left 1; (simp [*]))
      | (go_at_call 46; (with_reducible refine (KU.out _ ?_).mono ?_); rotate_left 1; rintro e w2 ⟨rfl, hb2⟩; rotate_left 1; (simp [*]))
      | ((go_at_call 42; refine (first_any _ 0 2 2 [v, u] rfl (by omega) _ ?_).mono ?_; rotate_left 1; rintro e w' ⟨rfl, rfl⟩; rw [KF.out]; rotate_left 1; (intro j hj; match j, hj with | 0, _ => simp [go_sem] | 1, _ => simp [go_sem]))))
  all_goals
    go_wp2_with fail
    go_ret
    exact ⟨rfl, HB0.out.trans ((hb2.alloc hb2.size _).mono HB0.out.size)⟩
end Go.Proofs.YtggffhmdgceljaaGreatDoor

/-
  Contracts of Reduced and Same of the program, of what is a ray and of opposite directions.
-/
namespace Go.Proofs.YtggffhmdgceljaaGreatDoor
open Go.RowKit
set_option linter.unusedVariables false
set_option linter.unusedSimpArgs false

theorem dir_ok {x y z : Int} (h : directionErr x y z = 0) : ¬ (x = 0 ∧ y = 0 ∧ z = 0) ∧ vectorErr x y z = 0 := by
  unfold directionErr at h
  obtain ⟨h1, h2⟩ := firstNZ_two h
  refine ⟨fun h0 => ?_, h1⟩
  rw [if_pos h0] at h2
  cases h2
theorem vec_ok {L x y z : Int} (h : vectorErrL L x y z = 0) : (-L ≤ x ∧ x ≤ L) ∧ (-L ≤ y ∧ y ≤ L) ∧ (-L ≤ z ∧ z ≤ L) := by
  unfold vectorErrL at h
  obtain ⟨h1, h2, h3⟩ := firstNZ_three h
  exact ⟨rangeErr_zero h1, rangeErr_zero h2, rangeErr_zero h3⟩
theorem dir_mid {x y z : Int} (h : directionErr x y z = 0) : Mid x ∧ Mid y ∧ Mid z := by
  obtain ⟨h1, h2, h3⟩ := vec_ok ((vectorErr_L x y z) ▸ (dir_ok h).2)
  unfold Mid
  refine ⟨⟨?_, ?_⟩, ⟨?_, ?_⟩, ⟨?_, ?_⟩⟩ <;> omega

set_option maxRecDepth 100000 in
set_option maxHeartbeats 6400000 in
theorem sunReduced_ok (x y z : Int) (he : directionErr x y z = 0) (w : World) :
    Calls Tryz.prog 22 #[.agg #[.int .i64 x, .int .i64 y, .int .i64 z]] w fun e w' => e = .returned (.tuple #[.agg #[.int .i64 (x.tdiv (g3 x y z)), .int .i64 (y.tdiv (g3 x y z)), .int .i64 (z.tdiv (g3 x y z))], .int .i64 0]) ∧ Below w.heap.size w w' := by
  obtain ⟨W0, hW0⟩ : ∃ W0, ((w.alloc (.cells #[.int .i64 x, .int .i64 y, .int .i64 z] 23)).alloc (.cells #[.int .i64 0, .int .i64 0, .int .i64 0] 23)) = W0 := ⟨_, rfl⟩
  have HB0 : Hid (Below w.heap.size w W0) := Lib.hid (by rw [← hW0]; exact (((Below.refl _ w).alloc (Nat.le_refl _) _).alloc (by simp) _))
  have hS0 : w.heap.size < W0.heap.size := by rw [← hW0]; simp; try omega
  have a0_0 : W0.cell? ⟨w.heap.size, 0, none⟩ = some (.int .i64 x) := by rw [← hW0]; simp [go_sem]
  have a0_1 : W0.cell? ⟨w.heap.size, 1, none⟩ = some (.int .i64 y) := by rw [← hW0]; simp [go_sem]
  have a0_2 : W0.cell? ⟨w.heap.size, 2, none⟩ = some (.int .i64 z) := by rw [← hW0]; simp [go_sem]
  have hS1 : w.heap.size + 1 < W0.heap.size := by rw [← hW0]; simp; try omega
  have a1_0 : W0.cell? ⟨w.heap.size + 1, 0, none⟩ = some (.int .i64 0) := by rw [← hW0]; simp [go_sem]
  have a1_1 : W0.cell? ⟨w.heap.size + 1, 1, none⟩ = some (.int .i64 0) := by rw [← hW0]; simp [go_sem]
  have a1_2 : W0.cell? ⟨w.heap.size + 1, 2, none⟩ = some (.int .i64 0) := by rw [← hW0]; simp [go_sem]
  have az1 : ∀ j, W0.frozen? ⟨w.heap.size + 1, j, none⟩ = false := fun j => by rw [← hW0]; simp [go_sem]
  have hR : Blw W0.heap.size W0 W0.drew := show Below _ _ _ from (Below.refl W0.heap.size W0).drew
  obtain ⟨hx, hy, hz⟩ := dir_mid he
  have h0 := (dir_ok he).1
  obtain ⟨r1, er1⟩ : ∃ r1 : Int, x.tdiv (g3 x y z) = r1 := ⟨_, rfl⟩
  obtain ⟨r2, er2⟩ : ∃ r2 : Int, y.tdiv (g3 x y z) = r2 := ⟨_, rfl⟩
  obtain ⟨r3, er3⟩ : ∃ r3 : Int, z.tdiv (g3 x y z) = r3 := ⟨_, rfl⟩
  have KD : Hid (∀ w1 : World, Blw W0.heap.size W0 w1 → Calls Tryz.prog 71 #[.agg #[.int .i64 x, .int .i64 y, .int .i64 z]] w1 fun e w' => e = .returned (.int .i64 0) ∧ Below W0.heap.size W0 w') := Lib.hid fun w1 hb => by
    have h := on_blw (lightCheckDirection_all x y z w1) hb
    rwa [he] at h
  have KP : Hid (∀ w1 : World, Blw W0.heap.size W0 w1 → Calls Tryz.prog 45 #[.agg #[.int .i64 x, .int .i64 y, .int .i64 z]] w1 fun e w' => e = .returned (.agg #[.int .i64 x, .int .i64 y, .int .i64 z]) ∧ Below W0.heap.size W0 w') := Lib.hid fun w1 hb => on_blw (partsOf_any x y z w1) hb
  have KR : Hid (∀ w1 : World, Blw W0.heap.size W0 w1 → Calls Tryz.prog 72 #[.agg #[.int .i64 x, .int .i64 y, .int .i64 z]] w1 fun e w' => e = .returned (.agg #[.int .i64 r1, .int .i64 r2, .int .i64 r3]) ∧ Below W0.heap.size W0 w') := Lib.hid fun w1 hb => by
    have h := on_blw (reduced_any x y z hx hy hz h0 w1) hb
    rwa [er1, er2, er3] at h
  have KV : Hid (∀ w1 : World, Blw W0.heap.size W0 w1 → Calls Tryz.prog 73 #[.agg #[.int .i64 r1, .int .i64 r2, .int .i64 r3]] w1 fun e w' => e = .returned (.agg #[.int .i64 r1, .int .i64 r2, .int .i64 r3]) ∧ Below W0.heap.size W0 w') := Lib.hid fun w1 hb => on_blw (vector_any r1 r2 r3 w1) hb
  rw [er1, er2, er3]
  clear er1 er2 er3 hx hy hz h0 he
  have hR0 : Blw W0.heap.size W0 W0 := show Below _ _ _ from Below.refl _ _
  go_enter Tryz.func22, Tryz.ntmps22
  go_upto_region 1 with fail
  try rw [hW0]
  clear hW0
  go_wp2_with (first
    | (go_at_call 71; (with_reducible refine (KD.out _ hR0).mono ?_); rintro e w1 ⟨rfl, hb1⟩; have hB1 : Blw W0.heap.size W0 w1 := hb1; obtain ⟨hc1, hf1⟩ := bcellN hb1)
    | (go_at_call 45; (with_reducible refine (KP.out _ hB1).mono ?_); rintro e w2 ⟨rfl, hb2⟩; have hB2 : Blw W0.heap.size W0 w2 := hb2; obtain ⟨hc2, hf2⟩ := bcellN hb2)
    | (go_at_call 72; (with_reducible refine (KR.out _ hB2).mono ?_); rintro e w3 ⟨rfl, hb3⟩; have hB3 : Blw W0.heap.size W0 w3 := hb3; obtain ⟨hc3, hf3⟩ := bcellN hb3)
    | (go_at_call 73; (with_reducible refine (KV.out _ hB3).mono ?_); rintro e w4 ⟨rfl, hb4⟩; have hB4 : Blw W0.heap.size W0 w4 := hb4; obtain ⟨hc4, hf4⟩ := bcellN hb4))
  have d0 := (hc4 (w.heap.size + 1) 0 hS1).trans a1_0
  have d1 := (hc4 (w.heap.size + 1) 1 hS1).trans a1_1
  have d2 := (hc4 (w.heap.size + 1) 2 hS1).trans a1_2
  refine bodyPost_ret (v := .tuple #[.agg #[.int .i64 r1, .int .i64 r2, .int .i64 r3], .int .i64 0]) (by simp [results, Tryz.results22, go_sem, d0, d1, d2]) rfl ⟨rfl, ?_⟩
  have hb := HB0.out.trans (hb4.mono HB0.out.size)
  exact (((hb.setCell (by simp) _).setCell (by simp) _).setCell (by simp) _)

/-- Whether the reduced parts are opposite. -/
def oppB (x y z a b c : Int) : Bool := decide (x.tdiv (g3 x y z) = -(a.tdiv (g3 a b c)) ∧ y.tdiv (g3 x y z) = -(b.tdiv (g3 a b c)) ∧ z.tdiv (g3 x y z) = -(c.tdiv (g3 a b c)))

set_option maxRecDepth 100000 in
set_option maxHeartbeats 6400000 in
theorem isOpposite_any (x y z a b c : Int) (hx : Fit (x * 1) ∧ Fit (y * 1) ∧ Fit (z * 1)) (ha : Fit (a * 1) ∧ Fit (b * 1) ∧ Fit (c * 1)) (h0 : ¬ (x = 0 ∧ y = 0 ∧ z = 0)) (h1 : ¬ (a = 0 ∧ b = 0 ∧ c = 0)) (w : World) :
    Calls Tryz.prog 47 #[.agg #[.int .i64 x, .int .i64 y, .int .i64 z], .agg #[.int .i64 a, .int .i64 b, .int .i64 c]] w fun e w' => e = .returned (.bool (oppB x y z a b c)) ∧ Below w.heap.size w w' := by
  obtain ⟨W0, hW0⟩ : ∃ W0, ((w.alloc (.cells #[.int .i64 x, .int .i64 y, .int .i64 z] 94)).alloc (.cells #[.int .i64 a, .int .i64 b, .int .i64 c] 94)) = W0 := ⟨_, rfl⟩
  have HB0 : Hid (Below w.heap.size w W0) := Lib.hid (by rw [← hW0]; exact (((Below.refl _ w).alloc (Nat.le_refl _) _).alloc (by simp) _))
  have hS0 : w.heap.size < W0.heap.size := by rw [← hW0]; simp; try omega
  have a0_0 : W0.cell? ⟨w.heap.size, 0, none⟩ = some (.int .i64 x) := by rw [← hW0]; simp [go_sem]
  have a0_1 : W0.cell? ⟨w.heap.size, 1, none⟩ = some (.int .i64 y) := by rw [← hW0]; simp [go_sem]
  have a0_2 : W0.cell? ⟨w.heap.size, 2, none⟩ = some (.int .i64 z) := by rw [← hW0]; simp [go_sem]
  have hS1 : w.heap.size + 1 < W0.heap.size := by rw [← hW0]; simp; try omega
  have a1_0 : W0.cell? ⟨w.heap.size + 1, 0, none⟩ = some (.int .i64 a) := by rw [← hW0]; simp [go_sem]
  have a1_1 : W0.cell? ⟨w.heap.size + 1, 1, none⟩ = some (.int .i64 b) := by rw [← hW0]; simp [go_sem]
  have a1_2 : W0.cell? ⟨w.heap.size + 1, 2, none⟩ = some (.int .i64 c) := by rw [← hW0]; simp [go_sem]
  have hR : Blw W0.heap.size W0 W0.drew := show Below _ _ _ from (Below.refl W0.heap.size W0).drew
  obtain ⟨r1, er1⟩ : ∃ r1 : Int, x.tdiv (g3 x y z) = r1 := ⟨_, rfl⟩
  obtain ⟨r2, er2⟩ : ∃ r2 : Int, y.tdiv (g3 x y z) = r2 := ⟨_, rfl⟩
  obtain ⟨r3, er3⟩ : ∃ r3 : Int, z.tdiv (g3 x y z) = r3 := ⟨_, rfl⟩
  obtain ⟨s1, es1⟩ : ∃ s1 : Int, a.tdiv (g3 a b c) = s1 := ⟨_, rfl⟩
  obtain ⟨s2, es2⟩ : ∃ s2 : Int, b.tdiv (g3 a b c) = s2 := ⟨_, rfl⟩
  obtain ⟨s3, es3⟩ : ∃ s3 : Int, c.tdiv (g3 a b c) = s3 := ⟨_, rfl⟩
  have fm : ∀ {n : Int}, Fit (n * 1) → Mid n := fun h => by have := h.out; constructor <;> omega
  have fs : ∀ {n g : Int}, Fit (n * 1) → Fit (n.tdiv g * -1) := fun {n g} h => by have := h.out; have := tdiv_le n g; constructor <;> omega
  have KR : Hid (∀ w1 : World, Blw W0.heap.size W0 w1 → Calls Tryz.prog 72 #[.agg #[.int .i64 x, .int .i64 y, .int .i64 z]] w1 fun e w' => e = .returned (.agg #[.int .i64 r1, .int .i64 r2, .int .i64 r3]) ∧ Below W0.heap.size W0 w') := Lib.hid fun w1 hb => by
    have h := on_blw (reduced_any x y z (fm hx.1) (fm hx.2.1) (fm hx.2.2) h0 w1) hb
    rwa [er1, er2, er3] at h
  have KS : Hid (∀ w1 : World, Blw W0.heap.size W0 w1 → Calls Tryz.prog 72 #[.agg #[.int .i64 a, .int .i64 b, .int .i64 c]] w1 fun e w' => e = .returned (.agg #[.int .i64 s1, .int .i64 s2, .int .i64 s3]) ∧ Below W0.heap.size W0 w') := Lib.hid fun w1 hb => by
    have h := on_blw (reduced_any a b c (fm ha.1) (fm ha.2.1) (fm ha.2.2) h1 w1) hb
    rwa [es1, es2, es3] at h
  obtain ⟨m1, em1⟩ : ∃ m1 : Int, s1 * -1 = m1 := ⟨_, rfl⟩
  obtain ⟨m2, em2⟩ : ∃ m2 : Int, s2 * -1 = m2 := ⟨_, rfl⟩
  obtain ⟨m3, em3⟩ : ∃ m3 : Int, s3 * -1 = m3 := ⟨_, rfl⟩
  have KT : Hid (∀ w1 : World, Blw W0.heap.size W0 w1 → Calls Tryz.prog 69 #[.agg #[.int .i64 s1, .int .i64 s2, .int .i64 s3], .int .i64 (-1)] w1 fun e w' => e = .returned (.agg #[.int .i64 m1, .int .i64 m2, .int .i64 m3]) ∧ Below W0.heap.size W0 w') := Lib.hid fun w1 hb => by
    have h := on_blw (times_any s1 s2 s3 (-1) (es1 ▸ fs ha.1) (es2 ▸ fs ha.2.1) (es3 ▸ fs ha.2.2) w1) hb
    rwa [em1, em2, em3] at h
  obtain ⟨bb, hbb⟩ : ∃ bb : Bool, decide ([r1, r2, r3] = [m1, m2, m3]) = bb := ⟨_, rfl⟩
  have hq : ∀ w1 : World, (Op.equalIn 10000 94 (.agg #[.int .i64 r1, .int .i64 r2, .int .i64 r3]) (.agg #[.int .i64 m1, .int .i64 m2, .int .i64 m3])).run Tryz.prog w1 = .ok bb w1 := fun w1 => by rw [eq_parts, hbb]
  have hO : oppB x y z a b c = bb := by
    unfold oppB
    rw [er1, er2, er3, es1, es2, es3, ← hbb, ← em1, ← em2, ← em3]
    refine decide_eq_decide.2 ?_
    simp
  rw [hO]
  clear hO hbb er1 er2 er3 es1 es2 es3 em1 em2 em3 hx ha h0 h1 fm fs
  go_enter Tryz.func47, Tryz.ntmps47
  go_upto_region 1 with fail
  try rw [hW0]
  clear hW0
  go_region_held3 (fun w' => w'.cell? ⟨w.heap.size, 0, none⟩ = some (.int .i64 x) ∧ w'.cell? ⟨w.heap.size, 1, none⟩ = some (.int .i64 y) ∧ w'.cell? ⟨w.heap.size, 2, none⟩ = some (.int .i64 z) ∧ w'.cell? ⟨w.heap.size + 1, 0, none⟩ = some (.int .i64 a) ∧ w'.cell? ⟨w.heap.size + 1, 1, none⟩ = some (.int .i64 b) ∧ w'.cell? ⟨w.heap.size + 1, 2, none⟩ = some (.int .i64 c) ∧ Blw W0.heap.size W0 w')
    (first | (go_split_ands; refine ⟨?_, ?_, ?_, ?_, ?_, ?_, ?_⟩ <;> first | (with_reducible assumption) | exact hb2 | ((rw [hb2.cell hS0]; assumption)) | ((rw [hb2.cell hS1]; assumption))) | (go_split_ands; refine ⟨?_, ?_, ?_, ?_, ?_, ?_, ?_⟩ <;> first | ((rw [(hb2.alloc hb2.size _).cell hS0]; assumption)) | ((rw [(hb2.alloc hb2.size _).cell hS1]; assumption)) | exact (hb2.alloc hb2.size _ : Below _ _ _)) | go_keep)
    (first
      | (go_at_call 72; (with_reducible refine (KR.out _ ?_).mono ?_); rotate_left 1; rintro e w2 ⟨rfl, hb2⟩; rotate_left 1; (simp [*]))
      | (go_at_call 72; (with_reducible refine (KS.out _ ?_).mono ?_); rotate_left 1; rintro e w2 ⟨rfl, hb2⟩; rotate_left 1; (simp [*]))
      | (go_at_call 69; (with_reducible refine (KT.out _ ?_).mono ?_); rotate_left 1; rintro e w2 ⟨rfl, hb2⟩; rotate_left 1; (simp [*])))
  all_goals
    go_wp2_with fail
    go_ret
    exact ⟨rfl, HB0.out.trans (hb2.mono HB0.out.size)⟩
end Go.Proofs.YtggffhmdgceljaaGreatDoor
