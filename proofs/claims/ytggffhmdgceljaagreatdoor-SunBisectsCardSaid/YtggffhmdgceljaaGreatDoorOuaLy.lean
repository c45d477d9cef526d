/-
  SunBisects from its region 24 on.
-/
import Derived.Test.YtggffhmdgceljaaGreatDoorRows
import Derived.WalkKit
import Derived.WalkSpells
import Derived.WalkLawsBesides
import Derived.Lib.Hide
import Derived.BigQuiet
import Derived.Deep.QuietTactic
import Derived.Handy
import Derived.Deep.RegionHeld3
import Derived.Deep.RegionWith
import Derived.StillTailTactics
import Derived.RangeFuncNested
import Derived.RangeFuncBound
import Derived.RangeFuncCalls
import Derived.RangeFuncLeaves
import Derived.RangeFuncBox
import Derived.Shelf.Abstract
import Derived.Shelf.RegionOpen
import Derived.OwnWalkIn
import Derived.TacticsInMore
import Derived.LoopNIn
import Derived.LoopIn
import Derived.Maps.AppendAt
import Derived.Test.YtggffhmdgceljaaGreatDoorProg
import Derived.Laws.FloatArith
import Derived.Laws.BitsAllLaws
import Derived.Deep.DeepCutAuto
import Derived.Stop.BytesEq
import Derived.Deep.MidRow
import Derived.Laws.CopyRow
import Derived.WalkMore
import Derived.Deep.DrawnRows
import Derived.Deep.CutBlock
import Derived.Orders
import Derived.LoopTactic
import Derived.Laws.StructEq
import Derived.Deep.RegionLaw
import Derived.RegionTactic
import Derived.StillTail
import Derived.Laws.RangeString
import Derived.Laws.RangeAny
import Derived.Shelf.Strings.Builder1
import Derived.Shelf.Strings.OnBuilder
import Derived.Shelf.LaysM
import Derived.Shelf.Strconv.Itoa3
import Derived.Lib.AppendIntMem
import Derived.Lib.ItoaLen
import Derived.RowKit
import Derived.Test.YtggffhmdgceljaaGreatDoorOuaWn
import Derived.Test.YtggffhmdgceljaaGreatDoorOuaXe
import Derived.Test.YtggffhmdgceljaaGreatDoorOuaWi
import Derived.Test.YtggffhmdgceljaaGreatDoorOuaId
import Derived.Test.YtggffhmdgceljaaGreatDoorOuaIi
import Derived.Test.YtggffhmdgceljaaGreatDoorOuaIg
import Derived.Test.YtggffhmdgceljaaGreatDoorOuaNa
import Derived.Test.YtggffhmdgceljaaGreatDoorOuaNi
import Derived.Test.YtggffhmdgceljaaGreatDoorOuaIx
import Derived.Test.YtggffhmdgceljaaGreatDoorOuaNv
import Derived.Test.YtggffhmdgceljaaGreatDoorOuaWo
import Derived.Test.YtggffhmdgceljaaGreatDoorOuaNo
import Derived.Test.YtggffhmdgceljaaGreatDoorOuaNy
import Derived.Test.YtggffhmdgceljaaGreatDoorOuaAf
import Derived.Test.YtggffhmdgceljaaGreatDoorOuaAo
import Derived.Test.YtggffhmdgceljaaGreatDoorOuaAr
import Derived.Test.YtggffhmdgceljaaGreatDoorOuaAj
import Derived.Test.YtggffhmdgceljaaGreatDoorOuaAi
import Derived.Test.YtggffhmdgceljaaGreatDoorOuaLv
import Derived.Test.YtggffhmdgceljaaGreatDoorOuaLw
namespace Go.Proofs.YtggffhmdgceljaaGreatDoor
open Go.RowKit
set_option linter.unusedVariables false
set_option linter.unusedSimpArgs false

theorem part_le {x r L : Int} (hL : 0 ≤ L) (hr : 0 ≤ r) (h : L * L = x * x + r) : -L ≤ x ∧ x ≤ L := by
  have e : (L + 1) * (L + 1) = L * L + 2 * L + 1 := by grind
  have e2 : (-x) * (-x) = x * x := by grind
  constructor
  · rcases Int.lt_or_le x (-L) with k | k
    · have := Int.mul_le_mul (show L + 1 ≤ -x by omega) (show L + 1 ≤ -x by omega) (by omega) (by omega)
      omega
    · exact k
  · rcases Int.lt_or_le L x with k | k
    · have := Int.mul_le_mul (show L + 1 ≤ x by omega) (show L + 1 ≤ x by omega) (by omega) (by omega)
      omega
    · exact k
theorem sqy_nn (y : Int) : 0 ≤ y * y := by
  rcases Int.lt_or_le y 0 with h | h
  · have e : y * y = (-y) * (-y) := by grind
    rw [e]
    exact Int.mul_nonneg (by omega) (by omega)
  · exact Int.mul_nonneg h h
theorem sq_nonneg3 (y z : Int) : 0 ≤ y * y + z * z := by
  have h1 := sqy_nn y
  have h2 := sqy_nn z
  omega
theorem parts_le {x y z : Int} {L : Nat} (hL : (L : Int) * L = dot3 x y z x y z) : (-(L : Int) ≤ x ∧ x ≤ L) ∧ (-(L : Int) ≤ y ∧ y ≤ L) ∧ (-(L : Int) ≤ z ∧ z ≤ L) := by
  unfold dot3 at hL
  exact ⟨part_le (by omega) (sq_nonneg3 y z) (by rw [hL]; grind), part_le (by omega) (sq_nonneg3 x z) (by rw [hL]; grind), part_le (by omega) (sq_nonneg3 x y) (by rw [hL]; grind)⟩
theorem mul_36 {x : Int} {M : Nat} (hx : -36 ≤ x ∧ x ≤ 36) (hM : M ≤ 36) : -1296 ≤ x * M ∧ x * M ≤ 1296 := by
  have h : (x * M).natAbs ≤ 36 * 36 := by
    rw [Int.natAbs_mul]
    exact Nat.mul_le_mul (by omega) (by omega)
  omega
theorem opp_symm {x y z a b c : Int} {v : Bool} (h : oppB x y z a b c = v) : oppB a b c x y z = v := by
  rw [← h]
  unfold oppB
  congr 1
  refine propext ⟨fun ⟨h1, h2, h3⟩ => ⟨by omega, by omega, by omega⟩, fun ⟨h1, h2, h3⟩ => ⟨by omega, by omega, by omega⟩⟩
theorem sgn_pos {n : Int} (h : 0 < n) : sgnI n = 1 := by
  unfold sgnI
  rw [if_pos h]

set_option maxRecDepth 100000 in
set_option maxHeartbeats 3200000 in
theorem bis24 (x y z a b c : Int) (L M : Nat) (he : rayErr x y z = 0) (hf : rayErr a b c = 0) (hL : (L : Int) * L = dot3 x y z x y z) (hM : (M : Int) * M = dot3 a b c a b c) (hL36 : L ≤ 36) (hM36 : M ≤ 36) (w : World) (hX : AxesIn w) (ht : TabAt w) :
    ∃ a1 a2 a3 b1 b2 b3 : Int, SBs24 w x y z a b c a1 a2 a3 b1 b2 b3 := by
  have KW : Hid (∀ w1 : World, Below w.heap.size w w1 → Calls Tryz.prog 17 #[] w1 fun e w' => e = .returned (.bool true) ∧ Below w1.heap.size w1 w') := Lib.hid fun w1 hb => sunAwake_any w1 (hX.on hb) (ht.on hb)
  have hd0 := (dir_ok (ray_ok he).1).1
  have hn0 := (dir_ok (ray_ok hf).1).1
  have hL0 := len_pos hd0 hL
  have hM0 := len_pos hn0 hM
  obtain ⟨x1, x2, x3⟩ := parts_le hL
  obtain ⟨y1, y2, y3⟩ := parts_le hM
  have hA := red_of hd0
  have hB := red_of hn0
  have hOp : oppB x y z a b c = decide (x.tdiv (g3 x y z) = -(a.tdiv (g3 a b c)) ∧ y.tdiv (g3 x y z) = -(b.tdiv (g3 a b c)) ∧ z.tdiv (g3 x y z) = -(c.tdiv (g3 a b c))) := rfl
  have K2a := fun w1 => sunReduced_ok x y z (ray_ok he).1 w1
  have K3a := fun w1 => sunReduced_ok a b c (ray_ok hf).1 w1
  generalize x.tdiv (g3 x y z) = a1 at *
  generalize y.tdiv (g3 x y z) = a2 at *
  generalize z.tdiv (g3 x y z) = a3 at *
  generalize a.tdiv (g3 a b c) = b1 at *
  generalize b.tdiv (g3 a b c) = b2 at *
  generalize c.tdiv (g3 a b c) = b3 at *
  refine ⟨a1, a2, a3, b1, b2, b3, ?_⟩
  obtain ⟨s1, s2, s3⟩ := red_small (M := 36) hA (by omega) (by omega) (by omega)
  obtain ⟨t1, t2, t3⟩ := red_small (M := 36) hB (by omega) (by omega) (by omega)
  have rA := ray_in hA.nonzero (by omega) (by omega) (by omega)
  have rB := ray_in hB.nonzero (by omega) (by omega) (by omega)
  have vA : vectorErrL 4096 a1 a2 a3 = 0 := vec_in (by omega) (by omega) (by omega)
  have vB : vectorErrL 4096 b1 b2 b3 = 0 := vec_in (by omega) (by omega) (by omega)
  obtain ⟨o1, o2, o3⟩ := red_one hA
  obtain ⟨u1, u2, u3⟩ := red_one hB
  obtain ⟨g, l, hg, ex, ey, ez, eL, hl⟩ := red_len hA hL
  obtain ⟨h, k, hh, ea, eb, ec, eM, hk⟩ := red_len hB hM
  have hOp2 : oppB a1 a2 a3 b1 b2 b3 = oppB x y z a b c := by
    rw [hOp]
    unfold oppB
    rw [o1, o2, o3, u1, u2, u3]
  have K1 : Hid (∀ w1 : World, Calls Tryz.prog 21 #[.agg #[.int .i64 x, .int .i64 y, .int .i64 z], .agg #[.int .i64 x, .int .i64 y, .int .i64 z]] w1 fun e w' => e = .returned (.tuple #[.agg #[.int .i64 a1, .int .i64 a2, .int .i64 a3], .int .i64 0]) ∧ Below w1.heap.size w1 w') := Lib.hid fun w1 => by
      have h0 : ¬ (x * L + x * L = 0 ∧ y * L + y * L = 0 ∧ z * L + z * L = 0) := fun ⟨q1, q2, q3⟩ => by
        have q := opp_of_zero hd0 hd0 hL0 hL0 q1 q2 q3
        rw [opp_self hd0] at q
        cases q
      obtain ⟨k1, k2, k3⟩ := red_eq (k := 1) (l := 2 * (L : Int)) h0 hA (by omega) (by omega) (by grind) (by grind) (by grind)
      have h := normal_any x y z x y z _ _ _ he he L L hL hL (opp_self hd0) rfl rfl rfl (by rw [k1, k2, k3]; exact vA) w1
      rwa [k1, k2, k3] at h
  refine bs24 w x y z a b c a1 a2 a3 b1 b2 b3 K1 (Lib.hid K2a) (bs26 w x y z a b c a1 a2 a3 b1 b2 b3 (Lib.hid K3a) ?_)
  clear K1 K2a K3a
  have KT := Lib.hid fun w1 => refTimes_any a1 a2 a3 (-1) (fit_small (by omega) (by omega)) (fit_small (by omega) (by omega)) (fit_small (by omega) (by omega)) w1
  cases ho : oppB x y z a b c with
  | true =>
    have hq : a1 = -b1 ∧ a2 = -b2 ∧ a3 = -b3 := of_decide_eq_true (hOp.symm.trans ho)
    exact bs29 w x y z a b c a1 a2 a3 b1 b2 b3 0 0 0 6 (Lib.hid fun w1 => normal_turned x y z a b c he hf L M hL hM ho w1) (Lib.hid fun w1 => normal_turned a b c x y z hf he M L hM hL (opp_symm ho) w1)
      (bs31 w x y z a b c a1 a2 a3 b1 b2 b3 0 0 0 6 (Lib.hid fun w1 => normal_turned a1 a2 a3 b1 b2 b3 rA rB l k hl hk (hOp2.trans ho) w1)
      (bs32_opp w x y z a b c a1 a2 a3 b1 b2 b3 _ _ _ (beq_iff_eq.2 (by omega)) (beq_iff_eq.2 (by omega)) (beq_iff_eq.2 (by omega)) KT KW))
  | false =>
    have hz : ¬ (x * M + a * L = 0 ∧ y * M + b * L = 0 ∧ z * M + c * L = 0) := fun ⟨q1, q2, q3⟩ => by
      have q := opp_of_zero hd0 hn0 hL0 hM0 q1 q2 q3
      rw [ho] at q
      cases q
    have m1 := mul_36 (x := x) (M := M) (by omega) hM36
    have m2 := mul_36 (x := y) (M := M) (by omega) hM36
    have m3 := mul_36 (x := z) (M := M) (by omega) hM36
    have m4 := mul_36 (x := a) (M := L) (by omega) hL36
    have m5 := mul_36 (x := b) (M := L) (by omega) hL36
    have m6 := mul_36 (x := c) (M := L) (by omega) hL36
    have hN := red_of hz
    obtain ⟨i1, i2, i3⟩ := red_small (M := 2592) hN (by omega) (by omega) (by omega)
    have vN : vectorErrL 4096 ((x * M + a * L).tdiv (g3 (x * M + a * L) (y * M + b * L) (z * M + c * L))) ((y * M + b * L).tdiv (g3 (x * M + a * L) (y * M + b * L) (z * M + c * L))) ((z * M + c * L).tdiv (g3 (x * M + a * L) (y * M + b * L) (z * M + c * L))) = 0 := vec_in (by omega) (by omega) (by omega)
    have J1 := fun w1 => normal_any x y z a b c _ _ _ he hf L M hL hM ho rfl rfl rfl vN w1
    have J2 := fun w1 => normal_any a b c x y z (x * M + a * L) (y * M + b * L) (z * M + c * L) hf he M L hM hL (opp_symm ho) (Int.add_comm _ _) (Int.add_comm _ _) (Int.add_comm _ _) vN w1
    generalize (x * M + a * L).tdiv (g3 (x * M + a * L) (y * M + b * L) (z * M + c * L)) = n1 at *
    generalize (y * M + b * L).tdiv (g3 (x * M + a * L) (y * M + b * L) (z * M + c * L)) = n2 at *
    generalize (z * M + c * L).tdiv (g3 (x * M + a * L) (y * M + b * L) (z * M + c * L)) = n3 at *
    have rN := ray_in hN.nonzero (by omega) (by omega) (by omega)
    have hz2 : ¬ (a * L + x * M = 0 ∧ b * L + y * M = 0 ∧ c * L + z * M = 0) := fun ⟨q1, q2, q3⟩ => hz ⟨by omega, by omega, by omega⟩
    have hN2 : Red (a * L + x * M) (b * L + y * M) (c * L + z * M) n1 n2 n3 := by
      rw [Int.add_comm (a * L), Int.add_comm (b * L), Int.add_comm (c * L)]
      exact hN
    have J3 : Hid (∀ w1 : World, Calls Tryz.prog 21 #[.agg #[.int .i64 a1, .int .i64 a2, .int .i64 a3], .agg #[.int .i64 b1, .int .i64 b2, .int .i64 b3]] w1 fun e w' => e = .returned (.tuple #[.agg #[.int .i64 n1, .int .i64 n2, .int .i64 n3], .int .i64 0]) ∧ Below w1.heap.size w1 w') := Lib.hid fun w1 => by
      have h0 : ¬ (a1 * k + b1 * l = 0 ∧ a2 * k + b2 * l = 0 ∧ a3 * k + b3 * l = 0) := fun ⟨q1, q2, q3⟩ => by
        have q := opp_of_zero hA.nonzero hB.nonzero (len_pos hA.nonzero hl) (len_pos hB.nonzero hk) q1 q2 q3
        rw [hOp2, ho] at q
        cases q
      obtain ⟨k1, k2, k3⟩ := bis_short hg hh ex ey ez eL ea eb ec eM hN (red_of h0)
      have vn : vectorErrL 4096 n1 n2 n3 = 0 := vec_in (by omega) (by omega) (by omega)
      have h := normal_any a1 a2 a3 b1 b2 b3 _ _ _ rA rB l k hl hk (hOp2.trans ho) rfl rfl rfl (by rw [k1, k2, k3]; exact vn) w1
      rwa [k1, k2, k3] at h
    have KR : Hid (∀ w1 : World, Calls Tryz.prog 11 #[.agg #[.int .i64 n1, .int .i64 n2, .int .i64 n3]] w1 fun e w' => e = .returned (.int .i64 0) ∧ Below w1.heap.size w1 w') := Lib.hid fun w1 => by
      have h := refCheckRay_all n1 n2 n3 w1
      rwa [rN] at h
    have KI : Hid (∀ w1 : World, Calls Tryz.prog 24 #[.agg #[.int .i64 x, .int .i64 y, .int .i64 z], .agg #[.int .i64 n1, .int .i64 n2, .int .i64 n3]] w1 fun e w' => e = .returned (.tuple #[.agg #[.int .i64 b1, .int .i64 b2, .int .i64 b3], .int .i64 0]) ∧ Below w1.heap.size w1 w') := Lib.hid fun w1 => by
      obtain ⟨k1, k2, k3⟩ := bis_there hL0 hM0 hL hM hz hN hB (red_of (reflected_fits he rN).2)
      have h := reflected_ok x y z n1 n2 n3 _ _ _ he rN rfl rfl rfl (by rw [k1, k2, k3]; exact vB) w1
      rwa [k1, k2, k3] at h
    have KJ : Hid (∀ w1 : World, Calls Tryz.prog 24 #[.agg #[.int .i64 a, .int .i64 b, .int .i64 c], .agg #[.int .i64 n1, .int .i64 n2, .int .i64 n3]] w1 fun e w' => e = .returned (.tuple #[.agg #[.int .i64 a1, .int .i64 a2, .int .i64 a3], .int .i64 0]) ∧ Below w1.heap.size w1 w') := Lib.hid fun w1 => by
      obtain ⟨k1, k2, k3⟩ := bis_there hM0 hL0 hM hL hz2 hN2 hA (red_of (reflected_fits hf rN).2)
      have h := reflected_ok a b c n1 n2 n3 _ _ _ hf rN rfl rfl rfl (by rw [k1, k2, k3]; exact vA) w1
      rwa [k1, k2, k3] at h
    obtain ⟨c1, c2, c3⟩ := bis_cos hL0 hM0 hL hM hz hN
    have hNN := dot_pos hN.nonzero
    obtain ⟨r1, r2⟩ := quot_same (Int.mul_pos (dot_pos hd0) hNN) (Int.mul_pos (dot_pos hn0) hNN) c3
    have KL0 := fun w1 => cosine_any x y z n1 n2 n3 he rN w1
    have KM0 := fun w1 => cosine_any a b c n1 n2 n3 hf rN w1
    rw [sgn_pos c1] at KL0
    rw [sgn_pos c2, ← r1, ← r2] at KM0
    refine bs29 w x y z a b c a1 a2 a3 b1 b2 b3 n1 n2 n3 0 (Lib.hid J1) (Lib.hid J2) (bs31 w x y z a b c a1 a2 a3 b1 b2 b3 n1 n2 n3 0 J3
      (bs32_other w x y z a b c a1 a2 a3 b1 b2 b3 _ _ _ n1 n2 n3 _ _ _ rfl rfl rfl ?_ KT KR (bs36 w x y z a b c a1 a2 a3 b1 b2 b3 n1 n2 n3 KI KJ (bs38 w x y z a b c a1 a2 a3 b1 b2 b3 n1 n2 n3 _ _ (Lib.hid KL0) (Lib.hid KM0) KW))))
    have hq : ¬ (a1 = -b1 ∧ a2 = -b2 ∧ a3 = -b3) := of_decide_eq_false (hOp.symm.trans ho)
    rw [Bool.eq_false_iff]
    intro h
    rw [Bool.and_eq_true, Bool.and_eq_true, beq_iff_eq, beq_iff_eq, beq_iff_eq] at h
    exact hq ⟨by omega, by omega, by omega⟩
end Go.Proofs.YtggffhmdgceljaaGreatDoor
