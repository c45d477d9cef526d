/-
  SunBisects holds.
-/
import Derived.Test.YtggffhmdgceljaaGreatDoorRows
import Derived.WalkKit
import Derived.WalkSpells
import Derived.WalkLawsBesides
import Derived.Lib.Hide
import Derived.BigQuiet
import Derived.Deep.QuietTactic
import Derived.Handy
import Derived.Deep.RegionHeld3
import Derived.Deep.RegionWith
import Derived.StillTailTactics
import Derived.RangeFuncNested
import Derived.RangeFuncBound
import Derived.RangeFuncCalls
import Derived.RangeFuncLeaves
import Derived.RangeFuncBox
import Derived.Shelf.Abstract
import Derived.Shelf.RegionOpen
import Derived.OwnWalkIn
import Derived.TacticsInMore
import Derived.LoopNIn
import Derived.LoopIn
import Derived.Maps.AppendAt
import Derived.Test.YtggffhmdgceljaaGreatDoorProg
import Derived.Laws.FloatArith
import Derived.Laws.BitsAllLaws
import Derived.Deep.DeepCutAuto
import Derived.Stop.BytesEq
import Derived.Deep.MidRow
import Derived.Laws.CopyRow
import Derived.WalkMore
import Derived.Deep.DrawnRows
import Derived.Deep.CutBlock
import Derived.Orders
import Derived.LoopTactic
import Derived.Laws.StructEq
import Derived.Deep.RegionLaw
import Derived.RegionTactic
import Derived.StillTail
import Derived.Laws.RangeString
import Derived.Laws.RangeAny
import Derived.Shelf.Strings.Builder1
import Derived.Shelf.Strings.OnBuilder
import Derived.Shelf.LaysM
import Derived.Shelf.Strconv.Itoa3
import Derived.Lib.AppendIntMem
import Derived.Lib.ItoaLen
import Derived.RowKit
import Derived.Test.YtggffhmdgceljaaGreatDoorOuaWn
import Derived.Test.YtggffhmdgceljaaGreatDoorOuaXe
import Derived.Test.YtggffhmdgceljaaGreatDoorOuaIb
import Derived.Test.YtggffhmdgceljaaGreatDoorOuaId
import Derived.Test.YtggffhmdgceljaaGreatDoorOuaIi
import Derived.Test.YtggffhmdgceljaaGreatDoorOuaIt
import Derived.Test.YtggffhmdgceljaaGreatDoorOuaNi
import Derived.Test.YtggffhmdgceljaaGreatDoorOuaIg
import Derived.Test.YtggffhmdgceljaaGreatDoorOuaIx
import Derived.Test.YtggffhmdgceljaaGreatDoorOuaNv
import Derived.Test.YtggffhmdgceljaaGreatDoorOuaWo
import Derived.Test.YtggffhmdgceljaaGreatDoorOuaNo
import Derived.Test.YtggffhmdgceljaaGreatDoorOuaNy
import Derived.Test.YtggffhmdgceljaaGreatDoorOuaAf
import Derived.Test.YtggffhmdgceljaaGreatDoorOuaAh
import Derived.Test.YtggffhmdgceljaaGreatDoorOuaAo
import Derived.Test.YtggffhmdgceljaaGreatDoorOuaAi
import Derived.Test.YtggffhmdgceljaaGreatDoorOuaAr
import Derived.Test.YtggffhmdgceljaaGreatDoorOuaLy
namespace Go.Proofs.YtggffhmdgceljaaGreatDoor
open Go.RowKit
set_option linter.unusedVariables false
set_option linter.unusedSimpArgs false

/-- An integer of 8 bits. -/
def I8 (m : Int) : Prop := -128 ≤ m ∧ m ≤ 127
theorem rem4 {m : Int} (h : I8 m) : -3 ≤ m.tmod 4 ∧ m.tmod 4 ≤ 3 := by
  have h1 : (m.tmod 4).natAbs = m.natAbs % 4 := Int.natAbs_tmod m 4
  have h2 := Nat.mod_lt m.natAbs (show 0 < 4 by decide)
  omega
theorem sq9 {r : Int} (h : -3 ≤ r ∧ r ≤ 3) : 0 ≤ r * r ∧ r * r ≤ 9 := by
  have h1 := mul_abs h h
  have h2 := sqy_nn r
  omega
theorem wrap_s {n : Int} (h : -10000 ≤ n ∧ n ≤ 10000) : IntKind.i64.wrap n = n := IntWalk.i64_in _ ⟨by omega, by omega⟩
theorem bisP_of {m0 m1 m2 m3 : Int} (h0 : I8 m0) (h1 : I8 m1) (h2 : I8 m2) (h3 : I8 m3) :
    BisP m0 m1 m2 m3 (m0.tmod 4) (m1.tmod 4) (m2.tmod 4) (m3.tmod 4) (m0.tmod 4 * m0.tmod 4) (m1.tmod 4 * m1.tmod 4) (m2.tmod 4 * m2.tmod 4) (m3.tmod 4 * m3.tmod 4)
      (m0.tmod 4 * m0.tmod 4) (m0.tmod 4 * m0.tmod 4 + m1.tmod 4 * m1.tmod 4) (m0.tmod 4 * m0.tmod 4 + m1.tmod 4 * m1.tmod 4 + m2.tmod 4 * m2.tmod 4) (m0.tmod 4 * m0.tmod 4 + m1.tmod 4 * m1.tmod 4 + m2.tmod 4 * m2.tmod 4 + m3.tmod 4 * m3.tmod 4) := by
  have r0 := rem4 h0
  have r1 := rem4 h1
  have r2 := rem4 h2
  have r3 := rem4 h3
  have q0 := sq9 r0
  have q1 := sq9 r1
  have q2 := sq9 r2
  have q3 := sq9 r3
  unfold I8 at h0 h1 h2 h3
  refine ⟨wrap_s (by omega), rfl, wrap_s (by omega), wrap_s (by omega), ?_, wrap_s (by omega), rfl, wrap_s (by omega), wrap_s (by omega), wrap_s (by omega), wrap_s (by omega), rfl, wrap_s (by omega), wrap_s (by omega), wrap_s (by omega), wrap_s (by omega), rfl, wrap_s (by omega), wrap_s (by omega), wrap_s (by omega)⟩
  rw [Int.zero_add]
  exact wrap_s (by omega)

set_option maxHeartbeats 1600000 in
/-- The whole vector of four small integers. -/
theorem whole_small {r0 r1 r2 r3 : Int} (h0 : -3 ≤ r0 ∧ r0 ≤ 3) (h1 : -3 ≤ r1 ∧ r1 ≤ 3) (h2 : -3 ≤ r2 ∧ r2 ≤ 3) (h3 : -3 ≤ r3 ∧ r3 ≤ 3) {z : Int} (hz : r0 * r0 + r1 * r1 + r2 * r2 + r3 * r3 = z) (hn : z ≠ 0) :
    ∃ (x y w : Int) (L : Nat), (L : Int) = z ∧ L ≤ 36 ∧ (L : Int) * L = dot3 x y w x y w ∧ rayErr x y w = 0 ∧ tinyP x y w ∧
      (∀ w1 : World, Calls Tryz.prog 18 #[.agg #[.int .i64 r0, .int .i64 r1, .int .i64 r2, .int .i64 r3]] w1 fun e w' => e = .returned (.tuple #[.agg #[.int .i64 x, .int .i64 y, .int .i64 w], .int .i64 0]) ∧ Below w1.heap.size w1 w') ∧
      (∀ w1 : World, Calls Tryz.prog 20 #[.agg #[.int .i64 x, .int .i64 y, .int .i64 w]] w1 fun e w' => e = .returned (.tuple #[.int .i64 z, .int .i64 0]) ∧ Below w1.heap.size w1 w') := by
  have q0 := sq9 h0
  have q1 := sq9 h1
  have q2 := sq9 h2
  have q3 := sq9 h3
  obtain ⟨L, hL⟩ := Int.eq_ofNat_of_zero_le (show 0 ≤ z by omega)
  have hl := whole_len r0 r1 r2 r3
  rw [hz, hL] at hl
  have hr : ¬ (r0 = 0 ∧ r1 = 0 ∧ r2 = 0 ∧ r3 = 0) := fun ⟨e0, e1, e2, e3⟩ => by
    subst e0 e1 e2 e3
    simp at hz
    omega
  have hR : ∀ r : Int, -3 ≤ r ∧ r ≤ 3 → Root r := fun r h => ⟨by omega, by omega⟩
  have hW := fun w1 => whole_ok r0 r1 r2 r3 (hR _ h0) (hR _ h1) (hR _ h2) (hR _ h3) hr w1
  generalize r0 * r0 + r1 * r1 - r2 * r2 - r3 * r3 = x at *
  generalize 2 * (r0 * r3 + r1 * r2) = y at *
  generalize 2 * (r1 * r3 - r0 * r2) = w at *
  obtain ⟨p1, p2, p3⟩ := parts_le (L := L) (by exact_mod_cast hl)
  have h36 : L ≤ 36 := by omega
  have hx0 : ¬ (x = 0 ∧ y = 0 ∧ w = 0) := fun ⟨e0, e1, e2⟩ => by
    have h0 : (L : Int) * L = 0 := by
      rw [hl, e0, e1, e2]
      rfl
    rcases Int.mul_eq_zero.1 h0 with h | h <;> omega
  have he : rayErr x y w = 0 := ray_in hx0 (by omega) (by omega) (by omega)
  refine ⟨x, y, w, L, hL.symm, h36, hl, he, ⟨he, by omega, by omega, by omega⟩, hW, fun w1 => ?_⟩
  have h := length_ok x y w L he hl w1
  rw [hL]
  exact h

set_option maxRecDepth 100000 in
set_option maxHeartbeats 3200000 in
theorem sunBisects_any (m0 m1 m2 m3 n0 n1 n2 n3 : Int) (hm0 : I8 m0) (hm1 : I8 m1) (hm2 : I8 m2) (hm3 : I8 m3) (hn0 : I8 n0) (hn1 : I8 n1) (hn2 : I8 n2) (hn3 : I8 n3) (w : World) (hX : AxesIn w) (ht : TabAt w) :
    Calls Tryz.prog 4 #[.agg #[.int .i8 m0, .int .i8 m1, .int .i8 m2, .int .i8 m3], .agg #[.int .i8 n0, .int .i8 n1, .int .i8 n2, .int .i8 n3]] w (SunPost w) := by
  have KW : Hid (∀ w1 : World, Below w.heap.size w w1 → Calls Tryz.prog 17 #[] w1 fun e w' => e = .returned (.bool true) ∧ Below w1.heap.size w1 w') := Lib.hid fun w1 hb => sunAwake_any w1 (hX.on hb) (ht.on hb)
  have hP := bisP_of hm0 hm1 hm2 hm3
  have hQ := bisP_of hn0 hn1 hn2 hn3
  have a0 := rem4 hm0
  have a1 := rem4 hm1
  have a2 := rem4 hm2
  have a3 := rem4 hm3
  have b0 := rem4 hn0
  have b1 := rem4 hn1
  have b2 := rem4 hn2
  have b3 := rem4 hn3
  refine bs_first w m0 m1 m2 m3 n0 n1 n2 n3 _ _ _ _ _ _ _ _ _ _ _ _ _ _ _ _ _ _ _ _ _ _ _ _ hP hQ ?_
  generalize m0.tmod 4 = r0 at *
  generalize m1.tmod 4 = r1 at *
  generalize m2.tmod 4 = r2 at *
  generalize m3.tmod 4 = r3 at *
  generalize n0.tmod 4 = s0 at *
  generalize n1.tmod 4 = s1 at *
  generalize n2.tmod 4 = s2 at *
  generalize n3.tmod 4 = s3 at *
  obtain ⟨z, hz⟩ : ∃ z, r0 * r0 + r1 * r1 + r2 * r2 + r3 * r3 = z := ⟨_, rfl⟩
  obtain ⟨y, hy⟩ : ∃ y, s0 * s0 + s1 * s1 + s2 * s2 + s3 * s3 = y := ⟨_, rfl⟩
  rw [hz, hy]
  clear hP hQ
  by_cases h1 : z = 0
  · exact bs10_zero1 w r0 r1 r2 r3 s0 s1 s2 s3 z y (beq_iff_eq.2 h1) KW
  by_cases h2 : y = 0
  · exact bs10_zero2 w r0 r1 r2 r3 s0 s1 s2 s3 z y (beq_eq_false_iff_ne.2 h1) (beq_iff_eq.2 h2) KW
  obtain ⟨x1, x2, x3, L, e1, l1, d1, f1, t1, W1, N1⟩ := whole_small a0 a1 a2 a3 hz h1
  obtain ⟨y1, y2, y3, M, e2, l2, d2, f2, t2, W2, N2⟩ := whole_small b0 b1 b2 b3 hy h2
  obtain ⟨c1, c2, c3, c4, c5, c6, hT⟩ := bis24 x1 x2 x3 y1 y2 y3 L M f1 f2 d1 d2 l1 l2 w hX ht
  exact bs10_else w r0 r1 r2 r3 s0 s1 s2 s3 z y x1 x2 x3 y1 y2 y3 c1 c2 c3 c4 c5 c6 (beq_eq_false_iff_ne.2 h1) (beq_eq_false_iff_ne.2 h2) (Lib.hid W1) (Lib.hid W2) (Lib.hid fun w1 => tiny_yes _ _ _ t1 w1) (Lib.hid fun w1 => tiny_yes _ _ _ t2 w1) (Lib.hid N1) (Lib.hid N2) hT
end Go.Proofs.YtggffhmdgceljaaGreatDoor
