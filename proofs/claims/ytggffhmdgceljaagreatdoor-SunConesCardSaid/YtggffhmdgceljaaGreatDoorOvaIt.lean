/-
  Contracts of the length of a ray: the search of the least integer whose square is not below another one.
-/
import Derived.Test.YtggffhmdgceljaaGreatDoorRows
import Derived.WalkKit
import Derived.WalkSpells
import Derived.WalkLawsBesides
import Derived.Lib.Hide
import Derived.BigQuiet
import Derived.Deep.QuietTactic
import Derived.Handy
import Derived.Deep.RegionHeld3
import Derived.Deep.RegionWith
import Derived.StillTailTactics
import Derived.RangeFuncNested
import Derived.RangeFuncBound
import Derived.RangeFuncCalls
import Derived.RangeFuncLeaves
import Derived.RangeFuncBox
import Derived.Shelf.Abstract
import Derived.Shelf.RegionOpen
import Derived.OwnWalkIn
import Derived.TacticsInMore
import Derived.LoopNIn
import Derived.LoopIn
import Derived.Maps.AppendAt
import Derived.Test.YtggffhmdgceljaaGreatDoorProg
import Derived.Laws.FloatArith
import Derived.Laws.BitsAllLaws
import Derived.Deep.DeepCutAuto
import Derived.Stop.BytesEq
import Derived.Deep.MidRow
import Derived.Laws.CopyRow
import Derived.WalkMore
import Derived.Deep.DrawnRows
import Derived.Deep.CutBlock
import Derived.Orders
import Derived.LoopTactic
import Derived.Laws.StructEq
import Derived.Deep.RegionLaw
import Derived.RegionTactic
import Derived.StillTail
import Derived.Test.YtggffhmdgceljaaGreatDoorOvaWn
import Derived.Test.YtggffhmdgceljaaGreatDoorOvaFlo
import Derived.Test.YtggffhmdgceljaaGreatDoorOvaXe
import Derived.Test.YtggffhmdgceljaaGreatDoorOvaXn
import Derived.Test.YtggffhmdgceljaaGreatDoorOvaKa
import Derived.Test.YtggffhmdgceljaaGreatDoorOvaIh
import Derived.Test.YtggffhmdgceljaaGreatDoorOvaIb
import Derived.Test.YtggffhmdgceljaaGreatDoorOvaId
import Derived.Test.YtggffhmdgceljaaGreatDoorOvaIi
import Derived.Test.YtggffhmdgceljaaGreatDoorOvaIq
import Derived.Test.YtggffhmdgceljaaGreatDoorOvaWa
import Derived.Test.YtggffhmdgceljaaGreatDoorOvaIk
import Derived.Test.YtggffhmdgceljaaGreatDoorOvaIl
namespace Go.Proofs.YtggffhmdgceljaaGreatDoor
open Go.RowKit
set_option linter.unusedVariables false
set_option linter.unusedSimpArgs false

set_option maxHeartbeats 800000 in
theorem lenF_any (n s : Int) (B : Nat) (hn : 0 ≤ n ∧ n ≤ 8192) (w : World) (hB : w.cell? ⟨B, 0, none⟩ = some (.int .i64 s)) :
    Calls Tryz.prog 99 #[.int .i64 n, .pointer (some ⟨B, 0, none⟩)] w fun e w' => e = .returned (.bool (decide (s ≤ n * n))) ∧ w = w' := by
  have hm := mul_abs (show -8192 ≤ n ∧ n ≤ 8192 by omega) (show -8192 ≤ n ∧ n ≤ 8192 by omega)
  obtain ⟨m, em⟩ : ∃ m, n * n = m := ⟨_, rfl⟩
  rw [em] at hm ⊢
  have w1 : IntKind.i64.wrap m = m := IntWalk.i64_in _ ⟨by omega, by omega⟩
  clear hm hn
  go_enter Tryz.func99, Tryz.ntmps99
  go_wp2
  go_ret
  exact ⟨rfl, rfl⟩

/-- The least integer from 0 on whose square is not below another one. -/
def Least (s : Int) (n : Nat) : Prop := n ≤ 8192 ∧ s ≤ (n : Int) * n ∧ ∀ m : Nat, m < n → (m : Int) * m < s
def FoundN (s : Int) (w : World) (e : Ending) (w' : World) : Prop := ∃ n : Nat, Least s n ∧ e = .returned (.int .i64 n) ∧ w = w'
set_option maxRecDepth 100000 in
set_option maxHeartbeats 3200000 in
theorem search_any (s : Int) (B : Nat) (hs : s ≤ 67108864) (w : World) (hB : w.cell? ⟨B, 0, none⟩ = some (.int .i64 s)) :
    Calls Tryz.prog 98 #[.int .i64 8192, .func (.func 99) #[] #[.pointer (some ⟨B, 0, none⟩)]] w (FoundN s w) := by
  have HB := Lib.hid hB
  clear hB
  go_enter Tryz.func98, Tryz.ntmps98
  go_wp2
  go_loop [5, 6] (fun x y => ∃ i j : Nat, x = .int .i64 (i : Nat) ∧ y = .int .i64 (j : Nat) ∧ i ≤ j ∧ j ≤ 8192 ∧ Hid (s ≤ (j : Int) * j ∧ ∀ m : Nat, m < i → (m : Int) * m < s)) (fun x y => (intOf y - intOf x).toNat)
  case atStart => exact ⟨0, 8192, rfl, rfl, by omega, by omega, Lib.hid ⟨by omega, fun m hm => by omega⟩⟩
  case round =>
    obtain ⟨i, j, rfl, rfl, hij, hj, hI⟩ := hrel
    by_cases hlt : i < j
    · obtain ⟨h, hh⟩ : ∃ h : Nat, (i + j) / 2 = h := ⟨_, rfl⟩
      have hh1 : i ≤ h ∧ h < j := by omega
      have eh : ((i : Int) + (j : Int)) / 2 = (h : Int) := by omega
      have hh8 : (0 : Int) ≤ h ∧ (h : Int) ≤ 8192 := by omega
      clear hh
      by_cases hc : s ≤ (h : Int) * h
      · have KF : Hid (Calls Tryz.prog 99 #[.int .i64 (h : Nat), .pointer (some ⟨B, 0, none⟩)] w fun e w' => e = .returned (.bool true) ∧ w = w') := Lib.hid (by
          have k := lenF_any h s B hh8 w HB.out
          rwa [decide_eq_true hc] at k)
        have HC := Lib.hid hc
        clear hc
        go_wp2_with (go_at_call 99; (with_reducible refine KF.out.mono ?_); rintro e w1 ⟨rfl, rfl⟩)
        go_round
        case rel => exact ⟨i, h, rfl, rfl, hh1.1, by omega, Lib.hid ⟨HC.out, hI.out.2⟩⟩
        case measure => simp [intOf]; omega
      · have KF : Hid (Calls Tryz.prog 99 #[.int .i64 (h : Nat), .pointer (some ⟨B, 0, none⟩)] w fun e w' => e = .returned (.bool false) ∧ w = w') := Lib.hid (by
          have k := lenF_any h s B hh8 w HB.out
          rwa [decide_eq_false hc] at k)
        have HC := Lib.hid hc
        clear hc
        go_wp2_with (go_at_call 99; (with_reducible refine KF.out.mono ?_); rintro e w1 ⟨rfl, rfl⟩)
        go_round
        case rel =>
          refine ⟨h + 1, j, by go_num, rfl, by omega, hj, Lib.hid ⟨hI.out.1, fun m hm => ?_⟩⟩
          have h1 := HC.out
          have h2 : (m : Int) * m ≤ (h : Int) * h := by
            have : m * m ≤ h * h := Nat.mul_le_mul (by omega) (by omega)
            exact_mod_cast this
          omega
        case measure => simp [intOf]; omega
    · obtain rfl : i = j := by omega
      have HJ := Lib.hid hj
      clear hj hij
      go_wp2_with fail
      go_ret
      exact ⟨i, ⟨HJ.out, hI.out.1, hI.out.2⟩, rfl, rfl⟩

theorem cells1 {w : World} {B : Nat} {T : TypeId} {x : Value} (h : w.heap[B]? = some (.cells #[x] T (0, 0))) : w.cell? ⟨B, 0, none⟩ = some x := by rw [cell_of_row w _ 0 _ _ (0, 0) h]; rfl
/-- The length of a whole ray. -/
theorem least_sq {s : Int} {n : Nat} (h : Least s n) {L : Nat} (hL : (L : Int) * L = s) : n = L := by
  obtain ⟨_, h1, h2⟩ := h
  rcases Nat.lt_trichotomy n L with hl | rfl | hl
  · exfalso
    have h3 : n * n < L * L := Nat.mul_lt_mul'' hl hl
    have h4 : (n : Int) * n < (L : Int) * L := by exact_mod_cast h3
    omega
  · rfl
  · have := h2 L hl
    omega
def LenP (s : Int) (w : World) (e : Ending) (w' : World) : Prop := ∃ n : Nat, Least s n ∧ e = .returned (.tuple #[.int .i64 n, .bool (decide ((n : Int) * n = s))]) ∧ Below w.heap.size w w'

set_option maxRecDepth 100000 in
set_option maxHeartbeats 3200000 in
theorem lengthOf_any (x y z : Int) (hx : Ray3 x y z) (w : World) :
    Calls Tryz.prog 67 #[.agg #[.int .i64 x, .int .i64 y, .int .i64 z]] w (LenP (dot3 x y z x y z) w) := by
  obtain ⟨h1, h2, h3⟩ := hx
  have hd := dot_ray h1 h2 h3 h1 h2 h3
  have f : ∀ {p q : Int}, (-4096 ≤ p ∧ p ≤ 4096) → (-4096 ≤ q ∧ q ≤ 4096) → Fit (p * q) := fun hp hq => fit_abs hp hq (by omega)
  obtain ⟨s, hs⟩ : ∃ s, dot3 x y z x y z = s := ⟨_, rfl⟩
  rw [hs] at hd ⊢
  have KD : Hid (∀ w1 : World, Calls Tryz.prog 74 #[.agg #[.int .i64 x, .int .i64 y, .int .i64 z], .agg #[.int .i64 x, .int .i64 y, .int .i64 z]] w1 fun e w' => e = .returned (.int .i64 s) ∧ Below w1.heap.size w1 w') := Lib.hid fun w1 => by
    have h := dot_any x y z x y z (f h1 h1) (f h2 h2) (f h3 h3) w1
    rwa [show x * x + y * y + z * z = s from hs] at h
  have hs2 : s ≤ 67108864 := by omega
  have KS : Hid (∀ (w1 : World) (B : Nat), w1.cell? ⟨B, 0, none⟩ = some (.int .i64 s) → Calls Tryz.prog 98 #[.int .i64 8192, .func (.func 99) #[] #[.pointer (some ⟨B, 0, none⟩)]] w1 (FoundN s w1)) := Lib.hid fun w1 B h => search_any s B hs2 w1 h
  clear hs hd f h1 h2 h3 hs2
  obtain ⟨W0, hW0⟩ : ∃ W0, (w.alloc (.cells #[.int .i64 x, .int .i64 y, .int .i64 z] 94)) = W0 := ⟨_, rfl⟩
  have K0 : Hid (Kp w W0 [(w.heap.size, (.cells #[.int .i64 x, .int .i64 y, .int .i64 z] 94 (0, 0)))]) := Lib.hid (by
    rw [← hW0]
    have k := ((Kp.none w).alloc (.cells #[.int .i64 x, .int .i64 y, .int .i64 z] 94))
    simpa using k)
  obtain ⟨x0, x1, x2⟩ := cells3 (K0.out.2 _ (.head _))
  go_enter Tryz.func67, Tryz.ntmps67
  go_upto_region 2 with (first
    | (go_at_call 74; (with_reducible refine (KD.out _).mono ?_); rintro e w5 ⟨rfl, hb⟩; have K5 := Lib.hid (Kp.call (show Kp w _ [(w.heap.size, (.cells #[.int .i64 x, .int .i64 y, .int .i64 z] 94 (0, 0)))] from by first | (rw [hW0]; exact K0.out) | exact K0.out) hb); clear hb))
  clear x0 x1 x2 K0 KD
  refine wp_world (fun w' => Kp w w' [(w5.heap.size, (.cells #[.int .i64 s] 3 (0, 0))), (w.heap.size, (.cells #[.int .i64 x, .int .i64 y, .int .i64 z] 94 (0, 0)))]) (by exact K5.out.alloc _) fun w6 k6 => ?_
  have K6 := Lib.hid k6
  obtain ⟨B5, hB5⟩ : ∃ B5, w5.heap.size = B5 := ⟨_, rfl⟩
  rw [hB5] at K6 ⊢
  clear k6 K5 hB5 hW0
  have c0 := cells1 (K6.out.2 _ (.head _))
  go_upto_region 3 with (go_at_call 98; (with_reducible refine (KS.out _ _ c0).mono ?_); rintro e w7 ⟨n, hn, rfl, rfl⟩)
  clear c0 KS
  have hm := mul_abs (show -8192 ≤ (n : Int) ∧ (n : Int) ≤ 8192 by have := hn.1; omega) (show -8192 ≤ (n : Int) ∧ (n : Int) ≤ 8192 by have := hn.1; omega)
  obtain ⟨m, em⟩ : ∃ m : Int, (n : Int) * n = m := ⟨_, rfl⟩
  have HE := Lib.hid em
  rw [em] at hm
  have w1 : IntKind.i64.wrap m = m := IntWalk.i64_in _ ⟨by omega, by omega⟩
  have w2 : IntKind.i64.wrap ((n : Int) * (n : Int)) = m := by rw [em, w1]
  obtain ⟨bb, hbb⟩ : ∃ bb : Bool, (m == s) = bb := ⟨_, rfl⟩
  have hb2 : decide (m = s) = bb := by rw [← hbb, Bool.eq_iff_iff]; simp
  have HN := Lib.hid hn
  clear hn hm
  have x0 := cells1 (K6.out.2 _ (.head _))
  have hb6 := Lib.hid (Kp.below K6.out)
  have HB := Lib.hid hb2
  clear K6 em w1
  go_quiet (fail)
  go_wp2_with fail
  go_ret2
  exact ⟨n, HN.out, by rw [HE.out, HB.out]; rfl, below_drewN hb6.out _⟩
end Go.Proofs.YtggffhmdgceljaaGreatDoor

/-
  Contracts of Length and of Normal, for rays.
-/
namespace Go.Proofs.YtggffhmdgceljaaGreatDoor
open Go.RowKit
set_option linter.unusedVariables false
set_option linter.unusedSimpArgs false

theorem lengthOf_whole {x y z : Int} (hx : Ray3 x y z) {L : Nat} (hL : (L : Int) * L = dot3 x y z x y z) (w : World) :
    Calls Tryz.prog 67 #[.agg #[.int .i64 x, .int .i64 y, .int .i64 z]] w fun e w' => e = .returned (.tuple #[.int .i64 L, .bool true]) ∧ Below w.heap.size w w' :=
  (lengthOf_any x y z hx w).mono fun e w' ⟨n, hn, he, hb⟩ => by
    obtain rfl := least_sq hn hL
    exact ⟨by rw [he, decide_eq_true hL], hb⟩
theorem lengthOf_not {x y z : Int} (hx : Ray3 x y z) (hL : ∀ L : Nat, (L : Int) * L ≠ dot3 x y z x y z) (w : World) :
    Calls Tryz.prog 67 #[.agg #[.int .i64 x, .int .i64 y, .int .i64 z]] w fun e w' => (∃ n : Nat, e = .returned (.tuple #[.int .i64 n, .bool false])) ∧ Below w.heap.size w w' :=
  (lengthOf_any x y z hx w).mono fun e w' ⟨n, hn, he, hb⟩ => ⟨⟨n, by rw [he, decide_eq_false (hL n)]⟩, hb⟩

set_option maxRecDepth 100000 in
set_option maxHeartbeats 6400000 in
theorem length_ok (x y z : Int) (L : Nat) (he : rayErr x y z = 0) (hL : (L : Int) * L = dot3 x y z x y z) (w : World) :
    Calls Tryz.prog 20 #[.agg #[.int .i64 x, .int .i64 y, .int .i64 z]] w fun e w' => e = .returned (.tuple #[.int .i64 L, .int .i64 0]) ∧ Below w.heap.size w w' := by
  have hx : Ray3 x y z := (ray_ok he).2
  have KC : Hid (∀ w1 : World, Calls Tryz.prog 43 #[.agg #[.int .i64 x, .int .i64 y, .int .i64 z]] w1 fun e w' => e = .returned (.int .i64 0) ∧ Below w1.heap.size w1 w') := Lib.hid fun w1 => by
    have h := checkRay_all x y z w1
    rwa [he] at h
  have KP : Hid (∀ w1 : World, Calls Tryz.prog 45 #[.agg #[.int .i64 x, .int .i64 y, .int .i64 z]] w1 fun e w' => e = .returned (.agg #[.int .i64 x, .int .i64 y, .int .i64 z]) ∧ Below w1.heap.size w1 w') := Lib.hid fun w1 => partsOf_any x y z w1
  have KL : Hid (∀ w1 : World, Calls Tryz.prog 67 #[.agg #[.int .i64 x, .int .i64 y, .int .i64 z]] w1 fun e w' => e = .returned (.tuple #[.int .i64 L, .bool true]) ∧ Below w1.heap.size w1 w') := Lib.hid fun w1 => lengthOf_whole hx hL w1
  clear hx he hL
  obtain ⟨W0, hW0⟩ : ∃ W0, (w.alloc (.cells #[.int .i64 x, .int .i64 y, .int .i64 z] 23)) = W0 := ⟨_, rfl⟩
  have K0 : Hid (Kp w W0 [(w.heap.size, (.cells #[.int .i64 x, .int .i64 y, .int .i64 z] 23 (0, 0)))]) := Lib.hid (by
    rw [← hW0]
    have k := ((Kp.none w).alloc (.cells #[.int .i64 x, .int .i64 y, .int .i64 z] 23))
    simpa using k)
  obtain ⟨x0, x1, x2⟩ := cells3 (K0.out.2 _ (.head _))
  go_enter Tryz.func20, Tryz.ntmps20
  go_upto_region 1 with fail
  try rw [hW0]
  clear hW0
  go_wp2_with (first
    | (go_at_call 43; (with_reducible refine (KC.out _).mono ?_); rintro e wx1 ⟨rfl, hb⟩; have Kx1 := Lib.hid (K0.out.call hb); clear hb x0 x1 x2 K0; obtain ⟨x0, x1, x2⟩ := cells3 (Kx1.out.2 _ (.head _)))
    | (go_at_call 45; (with_reducible refine (KP.out _).mono ?_); rintro e wx2 ⟨rfl, hb⟩; have Kx2 := Lib.hid (Kx1.out.call hb); clear hb x0 x1 x2 Kx1; obtain ⟨x0, x1, x2⟩ := cells3 (Kx2.out.2 _ (.head _)))
    | (go_at_call 67; (with_reducible refine (KL.out _).mono ?_); rintro e wx3 ⟨rfl, hb⟩; have Kx3 := Lib.hid (Kx2.out.call hb); clear hb x0 x1 x2 Kx2; obtain ⟨x0, x1, x2⟩ := cells3 (Kx3.out.2 _ (.head _))))
  go_ret2
  exact ⟨rfl, Kp.below Kx3.out⟩

set_option maxRecDepth 100000 in
set_option maxHeartbeats 6400000 in
theorem length_not (x y z : Int) (he : rayErr x y z = 0) (hL : ∀ L : Nat, (L : Int) * L ≠ dot3 x y z x y z) (w : World) :
    Calls Tryz.prog 20 #[.agg #[.int .i64 x, .int .i64 y, .int .i64 z]] w fun e w' => e = .returned (.tuple #[.int .i64 0, .int .i64 1]) ∧ Below w.heap.size w w' := by
  have hx : Ray3 x y z := (ray_ok he).2
  have KC : Hid (∀ w1 : World, Calls Tryz.prog 43 #[.agg #[.int .i64 x, .int .i64 y, .int .i64 z]] w1 fun e w' => e = .returned (.int .i64 0) ∧ Below w1.heap.size w1 w') := Lib.hid fun w1 => by
    have h := checkRay_all x y z w1
    rwa [he] at h
  have KP : Hid (∀ w1 : World, Calls Tryz.prog 45 #[.agg #[.int .i64 x, .int .i64 y, .int .i64 z]] w1 fun e w' => e = .returned (.agg #[.int .i64 x, .int .i64 y, .int .i64 z]) ∧ Below w1.heap.size w1 w') := Lib.hid fun w1 => partsOf_any x y z w1
  have KL : Hid (∀ w1 : World, Calls Tryz.prog 67 #[.agg #[.int .i64 x, .int .i64 y, .int .i64 z]] w1 fun e w' => (∃ n : Nat, e = .returned (.tuple #[.int .i64 n, .bool false])) ∧ Below w1.heap.size w1 w') := Lib.hid fun w1 => lengthOf_not hx hL w1
  clear hx he hL
  obtain ⟨W0, hW0⟩ : ∃ W0, (w.alloc (.cells #[.int .i64 x, .int .i64 y, .int .i64 z] 23)) = W0 := ⟨_, rfl⟩
  have K0 : Hid (Kp w W0 [(w.heap.size, (.cells #[.int .i64 x, .int .i64 y, .int .i64 z] 23 (0, 0)))]) := Lib.hid (by
    rw [← hW0]
    have k := ((Kp.none w).alloc (.cells #[.int .i64 x, .int .i64 y, .int .i64 z] 23))
    simpa using k)
  obtain ⟨x0, x1, x2⟩ := cells3 (K0.out.2 _ (.head _))
  go_enter Tryz.func20, Tryz.ntmps20
  go_upto_region 1 with fail
  try rw [hW0]
  clear hW0
  go_wp2_with (first
    | (go_at_call 43; (with_reducible refine (KC.out _).mono ?_); rintro e wx1 ⟨rfl, hb⟩; have Kx1 := Lib.hid (K0.out.call hb); clear hb x0 x1 x2 K0; obtain ⟨x0, x1, x2⟩ := cells3 (Kx1.out.2 _ (.head _)))
    | (go_at_call 45; (with_reducible refine (KP.out _).mono ?_); rintro e wx2 ⟨rfl, hb⟩; have Kx2 := Lib.hid (Kx1.out.call hb); clear hb x0 x1 x2 Kx1; obtain ⟨x0, x1, x2⟩ := cells3 (Kx2.out.2 _ (.head _)))
    | (go_at_call 67; (with_reducible refine (KL.out _).mono ?_); rintro e wx3 ⟨⟨n, rfl⟩, hb⟩; have Kx3 := Lib.hid (Kx2.out.call hb); clear hb x0 x1 x2 Kx2; obtain ⟨x0, x1, x2⟩ := cells3 (Kx3.out.2 _ (.head _))))
  go_ret2
  exact ⟨rfl, Kp.below Kx3.out⟩

set_option maxRecDepth 100000 in
set_option maxHeartbeats 6400000 in
theorem normal_ok (x y z a b c : Int) (he : rayErr x y z = 0) (hf : rayErr a b c = 0) (L M : Nat) (w : World)
    (KL : ∀ w1 : World, Calls Tryz.prog 67 #[.agg #[.int .i64 x, .int .i64 y, .int .i64 z]] w1 fun e w' => e = .returned (.tuple #[.int .i64 L, .bool true]) ∧ Below w1.heap.size w1 w')
    (KM : ∀ w1 : World, Calls Tryz.prog 67 #[.agg #[.int .i64 a, .int .i64 b, .int .i64 c]] w1 fun e w' => e = .returned (.tuple #[.int .i64 M, .bool true]) ∧ Below w1.heap.size w1 w')
    (KO : ∀ w1 : World, Calls Tryz.prog 47 #[.agg #[.int .i64 x, .int .i64 y, .int .i64 z], .agg #[.int .i64 a, .int .i64 b, .int .i64 c]] w1 fun e w' => e = .returned (.bool false) ∧ Below w1.heap.size w1 w')
    (p1 p2 p3 q1 q2 q3 s1 s2 s3 t1 t2 t3 er : Int)
    (KT : ∀ w1 : World, Calls Tryz.prog 69 #[.agg #[.int .i64 x, .int .i64 y, .int .i64 z], .int .i64 M] w1 fun e w' => e = .returned (.agg #[.int .i64 p1, .int .i64 p2, .int .i64 p3]) ∧ Below w1.heap.size w1 w')
    (KU : ∀ w1 : World, Calls Tryz.prog 69 #[.agg #[.int .i64 a, .int .i64 b, .int .i64 c], .int .i64 L] w1 fun e w' => e = .returned (.agg #[.int .i64 q1, .int .i64 q2, .int .i64 q3]) ∧ Below w1.heap.size w1 w')
    (KA : ∀ w1 : World, Calls Tryz.prog 70 #[.agg #[.int .i64 p1, .int .i64 p2, .int .i64 p3], .agg #[.int .i64 q1, .int .i64 q2, .int .i64 q3]] w1 fun e w' => e = .returned (.agg #[.int .i64 s1, .int .i64 s2, .int .i64 s3]) ∧ Below w1.heap.size w1 w')
    (KR : ∀ w1 : World, Calls Tryz.prog 68 #[.agg #[.int .i64 s1, .int .i64 s2, .int .i64 s3]] w1 fun e w' => e = .returned (.tuple #[.agg #[.int .i64 t1, .int .i64 t2, .int .i64 t3], .int .i64 er]) ∧ Below w1.heap.size w1 w') :
    Calls Tryz.prog 21 #[.agg #[.int .i64 x, .int .i64 y, .int .i64 z], .agg #[.int .i64 a, .int .i64 b, .int .i64 c]] w fun e w' => e = .returned (.tuple #[.agg #[.int .i64 t1, .int .i64 t2, .int .i64 t3], .int .i64 er]) ∧ Below w.heap.size w w' := by
  obtain ⟨W0, hW0⟩ : ∃ W0, (((w.alloc (.cells #[.int .i64 x, .int .i64 y, .int .i64 z] 23)).alloc (.cells #[.int .i64 a, .int .i64 b, .int .i64 c] 23)).alloc (.cells #[.int .i64 0, .int .i64 0, .int .i64 0] 23)) = W0 := ⟨_, rfl⟩
  have HB0 : Hid (Below w.heap.size w W0) := Lib.hid (by rw [← hW0]; exact ((((Below.refl _ w).alloc (Nat.le_refl _) _).alloc (by simp) _).alloc (by simp; omega) _))
  have hS0 : w.heap.size < W0.heap.size := by rw [← hW0]; simp; try omega
  have a0_0 : W0.cell? ⟨w.heap.size, 0, none⟩ = some (.int .i64 x) := by rw [← hW0]; simp [go_sem]
  have a0_1 : W0.cell? ⟨w.heap.size, 1, none⟩ = some (.int .i64 y) := by rw [← hW0]; simp [go_sem]
  have a0_2 : W0.cell? ⟨w.heap.size, 2, none⟩ = some (.int .i64 z) := by rw [← hW0]; simp [go_sem]
  have hS1 : w.heap.size + 1 < W0.heap.size := by rw [← hW0]; simp; try omega
  have a1_0 : W0.cell? ⟨w.heap.size + 1, 0, none⟩ = some (.int .i64 a) := by rw [← hW0]; simp [go_sem]
  have a1_1 : W0.cell? ⟨w.heap.size + 1, 1, none⟩ = some (.int .i64 b) := by rw [← hW0]; simp [go_sem]
  have a1_2 : W0.cell? ⟨w.heap.size + 1, 2, none⟩ = some (.int .i64 c) := by rw [← hW0]; simp [go_sem]
  have hS2 : w.heap.size + 1 + 1 < W0.heap.size := by rw [← hW0]; simp; try omega
  have a2_0 : W0.cell? ⟨w.heap.size + 1 + 1, 0, none⟩ = some (.int .i64 0) := by rw [← hW0]; simp [go_sem]
  have a2_1 : W0.cell? ⟨w.heap.size + 1 + 1, 1, none⟩ = some (.int .i64 0) := by rw [← hW0]; simp [go_sem]
  have a2_2 : W0.cell? ⟨w.heap.size + 1 + 1, 2, none⟩ = some (.int .i64 0) := by rw [← hW0]; simp [go_sem]
  have hR : Blw W0.heap.size W0 W0.drew := show Below _ _ _ from (Below.refl W0.heap.size W0).drew
  have K0 : Hid (Kp w W0 [(w.heap.size + 1 + 1, (.cells #[.int .i64 0, .int .i64 0, .int .i64 0] 23 (0, 0))), (w.heap.size + 1, (.cells #[.int .i64 a, .int .i64 b, .int .i64 c] 23 (0, 0))), (w.heap.size, (.cells #[.int .i64 x, .int .i64 y, .int .i64 z] 23 (0, 0)))]) := Lib.hid (by
    rw [← hW0]
    have k := ((((Kp.none w).alloc (.cells #[.int .i64 x, .int .i64 y, .int .i64 z] 23)).alloc (.cells #[.int .i64 a, .int .i64 b, .int .i64 c] 23)).alloc (.cells #[.int .i64 0, .int .i64 0, .int .i64 0] 23))
    simpa using k)
  have KX : Hid (∀ w1 : World, Blw W0.heap.size W0 w1 → Calls Tryz.prog 43 #[.agg #[.int .i64 x, .int .i64 y, .int .i64 z]] w1 fun e w' => e = .returned (.int .i64 0) ∧ Below W0.heap.size W0 w') := Lib.hid fun w1 hb => by
    have h := on_blw (checkRay_all x y z w1) hb
    rwa [he] at h
  have KY : Hid (∀ w1 : World, Blw W0.heap.size W0 w1 → Calls Tryz.prog 43 #[.agg #[.int .i64 a, .int .i64 b, .int .i64 c]] w1 fun e w' => e = .returned (.int .i64 0) ∧ Below W0.heap.size W0 w') := Lib.hid fun w1 hb => by
    have h := on_blw (checkRay_all a b c w1) hb
    rwa [hf] at h
  have KF : Hid (firstNZ [0, 0] = 0) := Lib.hid (by rfl)
  have HKL := Lib.hid KL
  have HKM := Lib.hid KM
  have HKO := Lib.hid KO
  have HKT := Lib.hid KT
  have HKU := Lib.hid KU
  have HKA := Lib.hid KA
  have HKR := Lib.hid KR
  clear KL KM KO KT KU KA KR
  clear he hf
  go_enter Tryz.func21, Tryz.ntmps21
  go_upto_region 1 with fail
  try rw [hW0]
  clear hW0
  go_region_held3 (fun w' => w'.cell? ⟨w.heap.size, 0, none⟩ = some (.int .i64 x) ∧ w'.cell? ⟨w.heap.size, 1, none⟩ = some (.int .i64 y) ∧ w'.cell? ⟨w.heap.size, 2, none⟩ = some (.int .i64 z) ∧ w'.cell? ⟨w.heap.size + 1, 0, none⟩ = some (.int .i64 a) ∧ w'.cell? ⟨w.heap.size + 1, 1, none⟩ = some (.int .i64 b) ∧ w'.cell? ⟨w.heap.size + 1, 2, none⟩ = some (.int .i64 c) ∧ Blw W0.heap.size W0 w')
    (first | (go_split_ands; refine ⟨?_, ?_, ?_, ?_, ?_, ?_, ?_⟩ <;> first | (with_reducible assumption) | exact hb2 | ((rw [hb2.cell hS0]; assumption)) | ((rw [hb2.cell hS1]; assumption))) | (go_split_ands; refine ⟨?_, ?_, ?_, ?_, ?_, ?_, ?_⟩ <;> first | ((rw [(hb2.alloc hb2.size _).cell hS0]; assumption)) | ((rw [(hb2.alloc hb2.size _).cell hS1]; assumption)) | exact (hb2.alloc hb2.size _ : Below _ _ _)) | go_keep)
    (first
      | (go_at_call 43; (with_reducible refine (KX.out _ ?_).mono ?_); rotate_left 1; rintro e w2 ⟨rfl, hb2⟩; rotate_left 1; (simp [*]))
      | (go_at_call 43; (with_reducible refine (KY.out _ ?_).mono ?_); rotate_left 1; rintro e w2 ⟨rfl, hb2⟩; rotate_left 1; (simp [*]))
      | ((go_at_call 42; refine (first_any _ 0 2 2 [0, 0] rfl (by omega) _ ?_).mono ?_; rotate_left 1; rintro e w' ⟨rfl, rfl⟩; rw [KF.out]; rotate_left 1; (intro j hj; match j, hj with | 0, _ => simp [go_sem] | 1, _ => simp [go_sem]))))
  obtain ⟨w3, hw3⟩ : ∃ w3, w2.alloc (.cells #[.int .i64 0, .int .i64 0] 26) = w3 := ⟨_, rfl⟩
  have K3 : Hid (Kp w w3 [(w.heap.size + 1 + 1, (.cells #[.int .i64 0, .int .i64 0, .int .i64 0] 23 (0, 0))), (w.heap.size + 1, (.cells #[.int .i64 a, .int .i64 b, .int .i64 c] 23 (0, 0))), (w.heap.size, (.cells #[.int .i64 x, .int .i64 y, .int .i64 z] 23 (0, 0)))]) := Lib.hid (by rw [← hw3]; exact K0.out.call (hb2.alloc hb2.size _))
  rw [hw3]
  clear hw3 hb2 hR KX KY KF K0 HB0 hS0 hS1 hS2 a0_0 a0_1 a0_2 a1_0 a1_1 a1_2 a2_0 a2_1 a2_2
  go_upto_region 4 with fail
  go_cut [7, 8] (fun s7 s8 wr => ∃ Bp Bq : Nat, s7 = .pointer (some ⟨Bp, 0, none⟩) ∧ s8 = .pointer (some ⟨Bq, 0, none⟩) ∧ Kp w wr [(Bp, (.cells #[.int .i64 x, .int .i64 y, .int .i64 z] 94 (0, 0))), (Bq, (.cells #[.int .i64 a, .int .i64 b, .int .i64 c] 94 (0, 0))), (w.heap.size + 1 + 1, (.cells #[.int .i64 0, .int .i64 0, .int .i64 0] 23 (0, 0))), (w.heap.size + 1, (.cells #[.int .i64 a, .int .i64 b, .int .i64 c] 23 (0, 0))), (w.heap.size, (.cells #[.int .i64 x, .int .i64 y, .int .i64 z] 23 (0, 0)))])
  case first =>
    refine two_parts (l1 := 23) (c1 := 24) (l2 := 25) (c2 := 26) (n7 := 7) (n8 := 8) (pa := 2) (pb := 3) (s := "rays.go:73") (BA := w.heap.size) (BB := w.heap.size + 1)
      (by unfold Apart6; decide) (by simp) rfl rfl (by decide) (by decide) (K3.out.2 _ (.tail _ (.tail _ (.head _)))) (K3.out.2 _ (.tail _ (.head _))) (fun Bp Bq wr hne h1 h2 hb h3 h4 => ?_)
    simp only [Act.put, List.setIfInBounds_toArray, List.set_cons_succ, List.set_cons_zero]
    rename_i hJ
    refine hJ _ _ ?_
    go_meet
    exact ⟨Bp, Bq, rfl, rfl, kp_two K3.out hb h3 h4⟩
  case rest =>
    rename_i hK
    obtain ⟨Bp, Bq, rfl, rfl, hk⟩ := hcut
    refine hK _ _ ?_
    clear hK K3
    have K4 := Lib.hid hk
    clear hk
    obtain ⟨x0, x1, x2⟩ := cells3 (K4.out.2 _ (.head _))
    obtain ⟨y0, y1, y2⟩ := cells3 (K4.out.2 _ (.tail _ (.head _)))
    obtain ⟨o0, o1, o2⟩ := cells3 (K4.out.2 _ (.tail _ (.tail _ (.head _))))
    have oz : ∀ j, wc.frozen? ⟨w.heap.size + 1 + 1, j, none⟩ = false := fun j => frozen_of_row wc (w.heap.size + 1 + 1) j _ _ (K4.out.2 _ (.tail _ (.tail _ (.head _))))
    go_upto_region 11 with (first
      | (go_at_call 67; (with_reducible refine (HKL.out _).mono ?_); rintro e wx5 ⟨rfl, hb⟩; have Kx5 := Lib.hid (K4.out.call hb); clear hb x0 x1 x2 y0 y1 y2 o0 o1 o2 oz K4; obtain ⟨x0, x1, x2⟩ := cells3 (Kx5.out.2 _ (.head _)); obtain ⟨y0, y1, y2⟩ := cells3 (Kx5.out.2 _ (.tail _ (.head _))); obtain ⟨o0, o1, o2⟩ := cells3 (Kx5.out.2 _ (.tail _ (.tail _ (.head _)))); have oz : ∀ j, wx5.frozen? ⟨w.heap.size + 1 + 1, j, none⟩ = false := fun j => frozen_of_row wx5 (w.heap.size + 1 + 1) j _ _ (Kx5.out.2 _ (.tail _ (.tail _ (.head _)))))
      | (go_at_call 67; (with_reducible refine (HKM.out _).mono ?_); rintro e wx6 ⟨rfl, hb⟩; have Kx6 := Lib.hid (Kx5.out.call hb); clear hb x0 x1 x2 y0 y1 y2 o0 o1 o2 oz Kx5; obtain ⟨x0, x1, x2⟩ := cells3 (Kx6.out.2 _ (.head _)); obtain ⟨y0, y1, y2⟩ := cells3 (Kx6.out.2 _ (.tail _ (.head _))); obtain ⟨o0, o1, o2⟩ := cells3 (Kx6.out.2 _ (.tail _ (.tail _ (.head _)))); have oz : ∀ j, wx6.frozen? ⟨w.heap.size + 1 + 1, j, none⟩ = false := fun j => frozen_of_row wx6 (w.heap.size + 1 + 1) j _ _ (Kx6.out.2 _ (.tail _ (.tail _ (.head _)))))
      | (go_at_call 47; (with_reducible refine (HKO.out _).mono ?_); rintro e wx7 ⟨rfl, hb⟩; have Kx7 := Lib.hid (Kx6.out.call hb); clear hb x0 x1 x2 y0 y1 y2 o0 o1 o2 oz Kx6; obtain ⟨x0, x1, x2⟩ := cells3 (Kx7.out.2 _ (.head _)); obtain ⟨y0, y1, y2⟩ := cells3 (Kx7.out.2 _ (.tail _ (.head _))); obtain ⟨o0, o1, o2⟩ := cells3 (Kx7.out.2 _ (.tail _ (.tail _ (.head _)))); have oz : ∀ j, wx7.frozen? ⟨w.heap.size + 1 + 1, j, none⟩ = false := fun j => frozen_of_row wx7 (w.heap.size + 1 + 1) j _ _ (Kx7.out.2 _ (.tail _ (.tail _ (.head _))))))
    clear x0 x1 x2 y0 y1 y2 o0 o1 o2 oz
    apply wp_region_gives 10 (fun w' => Blw wx7.heap.size wx7 w') [.agg #[.int .i64 x, .int .i64 y, .int .i64 z], .int .i64 M, .agg #[.int .i64 p1, .int .i64 p2, .int .i64 p3], .agg #[.int .i64 a, .int .i64 b, .int .i64 c], .int .i64 L, .agg #[.int .i64 q1, .int .i64 q2, .int .i64 q3], .agg #[.int .i64 s1, .int .i64 s2, .int .i64 s3], .tuple #[.agg #[.int .i64 t1, .int .i64 t2, .int .i64 t3], .int .i64 er], .agg #[.int .i64 t1, .int .i64 t2, .int .i64 t3], .int .i64 er] (by kernel_rfl) (by kernel_rfl) (by kernel_rfl) (show Below _ _ _ from (Below.refl _ _).drew)
    case haF =>
      simp [putJs, Act.put, List.range, List.range.loop]
      exact rfl
    case h =>
      have hBx := Kx7.out.2 _ (.head _)
      have hBy := Kx7.out.2 _ (.tail _ (.head _))
      simp only [List.take_succ_cons, List.take_zero, GivesL]
      clear Kx7
      refine ⟨?_, ?_, ?_, ?_, ?_, ?_, ?_, ?_, ?_, ?_, trivial⟩
      all_goals
        intro w1 hw1
        obtain ⟨x_0, x_1, x_2⟩ := cells3 (((show Below _ _ _ from hw1).block _ (lt_of_blk hBx)).trans hBx)
        obtain ⟨y_0, y_1, y_2⟩ := cells3 (((show Below _ _ _ from hw1).block _ (lt_of_blk hBy)).trans hBy)
        unfold Oper.wp
        simp only [execOp]
        go_simp <;> first
          | exact ⟨rfl, hw1⟩
          | ((with_reducible refine (HKT.out _).mono ?_); rintro e w2 ⟨rfl, hb⟩; exact ⟨rfl, below_call hb hw1⟩)
          | ((with_reducible refine (HKU.out _).mono ?_); rintro e w2 ⟨rfl, hb⟩; exact ⟨rfl, below_call hb hw1⟩)
          | ((with_reducible refine (HKA.out _).mono ?_); rintro e w2 ⟨rfl, hb⟩; exact ⟨rfl, below_call hb hw1⟩)
          | ((with_reducible refine (HKR.out _).mono ?_); rintro e w2 ⟨rfl, hb⟩; exact ⟨rfl, below_call hb hw1⟩)
    case ht =>
      intro w5 hw5
      have K5 := Lib.hid (Kx7.out.call (show Below _ _ _ from hw5))
      clear hw5 Kx7
      simp only [List.drop_succ_cons, List.drop_zero]
      obtain ⟨o0, o1, o2⟩ := cells3 (K5.out.2 _ (.tail _ (.tail _ (.head _))))
      have oz : ∀ j, w5.frozen? ⟨w.heap.size + 1 + 1, j, none⟩ = false := fun j => frozen_of_row w5 (w.heap.size + 1 + 1) j _ _ (K5.out.2 _ (.tail _ (.tail _ (.head _))))
      have hb5 := Lib.hid (Kp.below K5.out)
      clear K5
      go_wp2_with fail
      refine bodyPost_ret (v := .tuple #[.agg #[.int .i64 t1, .int .i64 t2, .int .i64 t3], .int .i64 er]) (by simp [results, Tryz.results21, go_sem, o0, o1, o2]) rfl ⟨rfl, ?_⟩
      exact ((hb5.out.setCell (show w.heap.size ≤ w.heap.size + 1 + 1 by omega) _).setCell (show w.heap.size ≤ w.heap.size + 1 + 1 by omega) _).setCell (show w.heap.size ≤ w.heap.size + 1 + 1 by omega) _

end Go.Proofs.YtggffhmdgceljaaGreatDoor
