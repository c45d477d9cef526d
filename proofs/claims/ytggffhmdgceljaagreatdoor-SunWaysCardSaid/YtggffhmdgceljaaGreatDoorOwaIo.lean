/-
  Contracts of Same and of Cosine.
-/
import Derived.Test.YtggffhmdgceljaaGreatDoorRows
import Derived.WalkKit
import Derived.WalkSpells
import Derived.WalkLawsBesides
import Derived.Lib.Hide
import Derived.BigQuiet
import Derived.Deep.QuietTactic
import Derived.Handy
import Derived.Deep.RegionHeld3
import Derived.Deep.RegionWith
import Derived.StillTailTactics
import Derived.RangeFuncNested
import Derived.RangeFuncBound
import Derived.RangeFuncCalls
import Derived.RangeFuncLeaves
import Derived.RangeFuncBox
import Derived.Shelf.Abstract
import Derived.Shelf.RegionOpen
import Derived.OwnWalkIn
import Derived.TacticsInMore
import Derived.LoopNIn
import Derived.LoopIn
import Derived.Maps.AppendAt
import Derived.Test.YtggffhmdgceljaaGreatDoorProg
import Derived.Laws.FloatArith
import Derived.Laws.BitsAllLaws
import Derived.Deep.DeepCutAuto
import Derived.Stop.BytesEq
import Derived.Deep.MidRow
import Derived.Laws.CopyRow
import Derived.WalkMore
import Derived.Deep.DrawnRows
import Derived.Deep.CutBlock
import Derived.Orders
import Derived.LoopTactic
import Derived.Laws.StructEq
import Derived.Deep.RegionLaw
import Derived.RegionTactic
import Derived.StillTail
import Derived.Test.YtggffhmdgceljaaGreatDoorOwaWn
import Derived.Test.YtggffhmdgceljaaGreatDoorOwaWa
import Derived.Test.YtggffhmdgceljaaGreatDoorOwaXe
import Derived.Test.YtggffhmdgceljaaGreatDoorOwaIb
import Derived.Test.YtggffhmdgceljaaGreatDoorOwaIl
import Derived.Test.YtggffhmdgceljaaGreatDoorOwaWi
import Derived.Test.YtggffhmdgceljaaGreatDoorOwaId
import Derived.Test.YtggffhmdgceljaaGreatDoorOwaIi
import Derived.Test.YtggffhmdgceljaaGreatDoorOwaIg
import Derived.Test.YtggffhmdgceljaaGreatDoorOwaIq
import Derived.Test.YtggffhmdgceljaaGreatDoorOwaIk
import Derived.Test.YtggffhmdgceljaaGreatDoorOwaNd
namespace Go.Proofs.YtggffhmdgceljaaGreatDoor
open Go.RowKit
set_option linter.unusedVariables false
set_option linter.unusedSimpArgs false

/-- Whether the reduced parts are the same. -/
def sameB (x y z a b c : Int) : Bool := decide ([x.tdiv (g3 x y z), y.tdiv (g3 x y z), z.tdiv (g3 x y z)] = [a.tdiv (g3 a b c), b.tdiv (g3 a b c), c.tdiv (g3 a b c)])

set_option maxRecDepth 100000 in
set_option maxHeartbeats 6400000 in
theorem sunSame_ok (x y z a b c : Int) (he : directionErr x y z = 0) (hf : directionErr a b c = 0) (w : World) :
    Calls Tryz.prog 62 #[.agg #[.int .i64 x, .int .i64 y, .int .i64 z], .agg #[.int .i64 a, .int .i64 b, .int .i64 c]] w fun e w' => e = .returned (.tuple #[.bool (sameB x y z a b c), .int .i64 0]) ∧ Below w.heap.size w w' := by
  obtain ⟨W0, hW0⟩ : ∃ W0, ((w.alloc (.cells #[.int .i64 x, .int .i64 y, .int .i64 z] 23)).alloc (.cells #[.int .i64 a, .int .i64 b, .int .i64 c] 23)) = W0 := ⟨_, rfl⟩
  have HB0 : Hid (Below w.heap.size w W0) := Lib.hid (by rw [← hW0]; exact (((Below.refl _ w).alloc (Nat.le_refl _) _).alloc (by simp) _))
  have hS0 : w.heap.size < W0.heap.size := by rw [← hW0]; simp; try omega
  have a0_0 : W0.cell? ⟨w.heap.size, 0, none⟩ = some (.int .i64 x) := by rw [← hW0]; simp [go_sem]
  have a0_1 : W0.cell? ⟨w.heap.size, 1, none⟩ = some (.int .i64 y) := by rw [← hW0]; simp [go_sem]
  have a0_2 : W0.cell? ⟨w.heap.size, 2, none⟩ = some (.int .i64 z) := by rw [← hW0]; simp [go_sem]
  have hS1 : w.heap.size + 1 < W0.heap.size := by rw [← hW0]; simp; try omega
  have a1_0 : W0.cell? ⟨w.heap.size + 1, 0, none⟩ = some (.int .i64 a) := by rw [← hW0]; simp [go_sem]
  have a1_1 : W0.cell? ⟨w.heap.size + 1, 1, none⟩ = some (.int .i64 b) := by rw [← hW0]; simp [go_sem]
  have a1_2 : W0.cell? ⟨w.heap.size + 1, 2, none⟩ = some (.int .i64 c) := by rw [← hW0]; simp [go_sem]
  have hR : Blw W0.heap.size W0 W0.drew := show Below _ _ _ from (Below.refl W0.heap.size W0).drew
  have K0 : Hid (Kp w W0 [(w.heap.size + 1, (.cells #[.int .i64 a, .int .i64 b, .int .i64 c] 23 (0, 0))), (w.heap.size, (.cells #[.int .i64 x, .int .i64 y, .int .i64 z] 23 (0, 0)))]) := Lib.hid (by
    rw [← hW0]
    have k := (((Kp.none w).alloc (.cells #[.int .i64 x, .int .i64 y, .int .i64 z] 23)).alloc (.cells #[.int .i64 a, .int .i64 b, .int .i64 c] 23))
    simpa using k)
  obtain ⟨r1, er1⟩ : ∃ r1 : Int, x.tdiv (g3 x y z) = r1 := ⟨_, rfl⟩
  obtain ⟨r2, er2⟩ : ∃ r2 : Int, y.tdiv (g3 x y z) = r2 := ⟨_, rfl⟩
  obtain ⟨r3, er3⟩ : ∃ r3 : Int, z.tdiv (g3 x y z) = r3 := ⟨_, rfl⟩
  obtain ⟨s1, es1⟩ : ∃ s1 : Int, a.tdiv (g3 a b c) = s1 := ⟨_, rfl⟩
  obtain ⟨s2, es2⟩ : ∃ s2 : Int, b.tdiv (g3 a b c) = s2 := ⟨_, rfl⟩
  obtain ⟨s3, es3⟩ : ∃ s3 : Int, c.tdiv (g3 a b c) = s3 := ⟨_, rfl⟩
  obtain ⟨hx, hy, hz⟩ := dir_mid he
  have h0 := (dir_ok he).1
  obtain ⟨ha, hb, hc⟩ := dir_mid hf
  have h1 := (dir_ok hf).1
  have KX : Hid (∀ w1 : World, Blw W0.heap.size W0 w1 → Calls Tryz.prog 71 #[.agg #[.int .i64 x, .int .i64 y, .int .i64 z]] w1 fun e w' => e = .returned (.int .i64 0) ∧ Below W0.heap.size W0 w') := Lib.hid fun w1 hb => by
    have h := on_blw (lightCheckDirection_all x y z w1) hb
    rwa [he] at h
  have KY : Hid (∀ w1 : World, Blw W0.heap.size W0 w1 → Calls Tryz.prog 71 #[.agg #[.int .i64 a, .int .i64 b, .int .i64 c]] w1 fun e w' => e = .returned (.int .i64 0) ∧ Below W0.heap.size W0 w') := Lib.hid fun w1 hb => by
    have h := on_blw (lightCheckDirection_all a b c w1) hb
    rwa [hf] at h
  have KF : Hid (firstNZ [0, 0] = 0) := Lib.hid (by rfl)
  have KP : Hid (∀ w1 : World, Calls Tryz.prog 45 #[.agg #[.int .i64 x, .int .i64 y, .int .i64 z]] w1 fun e w' => e = .returned (.agg #[.int .i64 x, .int .i64 y, .int .i64 z]) ∧ Below w1.heap.size w1 w') := Lib.hid fun w1 => partsOf_any x y z w1
  have KQ : Hid (∀ w1 : World, Calls Tryz.prog 45 #[.agg #[.int .i64 a, .int .i64 b, .int .i64 c]] w1 fun e w' => e = .returned (.agg #[.int .i64 a, .int .i64 b, .int .i64 c]) ∧ Below w1.heap.size w1 w') := Lib.hid fun w1 => partsOf_any a b c w1
  have KR : Hid (∀ w1 : World, Calls Tryz.prog 72 #[.agg #[.int .i64 x, .int .i64 y, .int .i64 z]] w1 fun e w' => e = .returned (.agg #[.int .i64 r1, .int .i64 r2, .int .i64 r3]) ∧ Below w1.heap.size w1 w') := Lib.hid fun w1 => by
    have h := reduced_any x y z hx hy hz h0 w1
    rwa [er1, er2, er3] at h
  have KS : Hid (∀ w1 : World, Calls Tryz.prog 72 #[.agg #[.int .i64 a, .int .i64 b, .int .i64 c]] w1 fun e w' => e = .returned (.agg #[.int .i64 s1, .int .i64 s2, .int .i64 s3]) ∧ Below w1.heap.size w1 w') := Lib.hid fun w1 => by
    have h := reduced_any a b c ha hb hc h1 w1
    rwa [es1, es2, es3] at h
  obtain ⟨bb, hbb⟩ : ∃ bb : Bool, decide ([r1, r2, r3] = [s1, s2, s3]) = bb := ⟨_, rfl⟩
  have hq : ∀ w1 : World, (Op.equalIn 10000 94 (.agg #[.int .i64 r1, .int .i64 r2, .int .i64 r3]) (.agg #[.int .i64 s1, .int .i64 s2, .int .i64 s3])).run Tryz.prog w1 = .ok bb w1 := fun w1 => by rw [eq_parts, hbb]
  have hO : sameB x y z a b c = bb := by unfold sameB; rw [er1, er2, er3, es1, es2, es3, hbb]
  rw [hO]
  clear hO hbb er1 er2 er3 es1 es2 es3 hx hy hz ha hb hc h0 h1 he hf
  go_enter Tryz.func62, Tryz.ntmps62
  go_upto_region 1 with fail
  try rw [hW0]
  clear hW0
  go_region_held3 (fun w' => w'.cell? ⟨w.heap.size, 0, none⟩ = some (.int .i64 x) ∧ w'.cell? ⟨w.heap.size, 1, none⟩ = some (.int .i64 y) ∧ w'.cell? ⟨w.heap.size, 2, none⟩ = some (.int .i64 z) ∧ w'.cell? ⟨w.heap.size + 1, 0, none⟩ = some (.int .i64 a) ∧ w'.cell? ⟨w.heap.size + 1, 1, none⟩ = some (.int .i64 b) ∧ w'.cell? ⟨w.heap.size + 1, 2, none⟩ = some (.int .i64 c) ∧ Blw W0.heap.size W0 w')
    (first | (go_split_ands; refine ⟨?_, ?_, ?_, ?_, ?_, ?_, ?_⟩ <;> first | (with_reducible assumption) | exact hb2 | ((rw [hb2.cell hS0]; assumption)) | ((rw [hb2.cell hS1]; assumption))) | (go_split_ands; refine ⟨?_, ?_, ?_, ?_, ?_, ?_, ?_⟩ <;> first | ((rw [(hb2.alloc hb2.size _).cell hS0]; assumption)) | ((rw [(hb2.alloc hb2.size _).cell hS1]; assumption)) | exact (hb2.alloc hb2.size _ : Below _ _ _)) | go_keep)
    (first
      | (go_at_call 71; (with_reducible refine (KX.out _ ?_).mono ?_); rotate_left 1; rintro e w2 ⟨rfl, hb2⟩; rotate_left 1; (simp [*]))
      | (go_at_call 71; (with_reducible refine (KY.out _ ?_).mono ?_); rotate_left 1; rintro e w2 ⟨rfl, hb2⟩; rotate_left 1; (simp [*]))
      | ((go_at_call 42; refine (first_any _ 0 2 2 [0, 0] rfl (by omega) _ ?_).mono ?_; rotate_left 1; rintro e w' ⟨rfl, rfl⟩; rw [KF.out]; rotate_left 1; (intro j hj; match j, hj with | 0, _ => simp [go_sem] | 1, _ => simp [go_sem]))))
  obtain ⟨w3, hw3⟩ : ∃ w3, w2.alloc (.cells #[.int .i64 0, .int .i64 0] 26) = w3 := ⟨_, rfl⟩
  have K3 : Hid (Kp w w3 [(w.heap.size + 1, (.cells #[.int .i64 a, .int .i64 b, .int .i64 c] 23 (0, 0))), (w.heap.size, (.cells #[.int .i64 x, .int .i64 y, .int .i64 z] 23 (0, 0)))]) := Lib.hid (by rw [← hw3]; exact K0.out.call (hb2.alloc hb2.size _))
  rw [hw3]
  clear hw3 hb2 hR KX KY KF K0 HB0 hS0 hS1 a0_0 a0_1 a0_2 a1_0 a1_1 a1_2
  go_upto_region 4 with fail
  apply wp_region_gives 7 (fun w' => Blw w3.heap.size w3 w') [.agg #[.int .i64 x, .int .i64 y, .int .i64 z], .agg #[.int .i64 x, .int .i64 y, .int .i64 z], .agg #[.int .i64 r1, .int .i64 r2, .int .i64 r3], .agg #[.int .i64 a, .int .i64 b, .int .i64 c], .agg #[.int .i64 a, .int .i64 b, .int .i64 c], .agg #[.int .i64 s1, .int .i64 s2, .int .i64 s3], .bool bb] (by kernel_rfl) (by kernel_rfl) (by kernel_rfl) (show Below _ _ _ from (Below.refl _ _).drew)
  case haF =>
    simp [putJs, Act.put, List.range, List.range.loop]
    exact rfl
  case h =>
    have hBx := K3.out.2 _ (.tail _ (.head _))
    have hBy := K3.out.2 _ (.head _)
    simp only [List.take_succ_cons, List.take_zero, GivesL]
    clear K3
    refine ⟨?_, ?_, ?_, ?_, ?_, ?_, ?_, trivial⟩
    all_goals
      intro w1 hw1
      obtain ⟨x_0, x_1, x_2⟩ := cells3 (((show Below _ _ _ from hw1).block _ (lt_of_blk hBx)).trans hBx)
      obtain ⟨y_0, y_1, y_2⟩ := cells3 (((show Below _ _ _ from hw1).block _ (lt_of_blk hBy)).trans hBy)
      unfold Oper.wp
      simp only [execOp]
      go_simp <;> first
        | exact ⟨rfl, hw1⟩
        | ((with_reducible refine (KP.out _).mono ?_); rintro e w2 ⟨rfl, hb⟩; exact ⟨rfl, below_call hb hw1⟩)
        | ((with_reducible refine (KQ.out _).mono ?_); rintro e w2 ⟨rfl, hb⟩; exact ⟨rfl, below_call hb hw1⟩)
        | ((with_reducible refine (KR.out _).mono ?_); rintro e w2 ⟨rfl, hb⟩; exact ⟨rfl, below_call hb hw1⟩)
        | ((with_reducible refine (KS.out _).mono ?_); rintro e w2 ⟨rfl, hb⟩; exact ⟨rfl, below_call hb hw1⟩)
  case ht =>
    intro w5 hw5
    have hb5 := Lib.hid ((Kp.below K3.out).trans ((show Below _ _ _ from hw5).mono (Kp.below K3.out).size))
    clear hw5 K3
    simp only [List.drop_succ_cons, List.drop_zero]
    go_wp2_with fail
    go_ret2
    exact ⟨rfl, hb5.out⟩

set_option maxRecDepth 100000 in
set_option maxHeartbeats 6400000 in
theorem cosine_any (x y z a b c : Int) (he : rayErr x y z = 0) (hf : rayErr a b c = 0) (w : World) :
    Calls Tryz.prog 25 #[.agg #[.int .i64 x, .int .i64 y, .int .i64 z], .agg #[.int .i64 a, .int .i64 b, .int .i64 c]] w fun e w' => e = .returned (.tuple #[.int .i64 (sgnI (dot3 x y z a b c)), .agg #[.int .i64 ((dot3 x y z a b c * dot3 x y z a b c).tdiv (Int.gcd (dot3 x y z a b c * dot3 x y z a b c) (dot3 x y z x y z * dot3 a b c a b c))), .int .i64 ((dot3 x y z x y z * dot3 a b c a b c).tdiv (Int.gcd (dot3 x y z a b c * dot3 x y z a b c) (dot3 x y z x y z * dot3 a b c a b c)))], .int .i64 0]) ∧ Below w.heap.size w w' := by
  obtain ⟨hde, hx, hy, hz⟩ := ray_ok he
  obtain ⟨hdf, ha, hb, hc⟩ := ray_ok hf
  have hd := dot_ray hx hy hz ha hb hc
  have hp := dot_ray hx hy hz hx hy hz
  have hq := dot_ray ha hb hc ha hb hc
  have p1 := dot_pos (dir_ok hde).1
  have p2 := dot_pos (dir_ok hdf).1
  have m1 := mul_abs hd hd
  have m2 := mul_abs hp hq
  have m3 := Int.mul_pos p1 p2
  have f : ∀ {p q : Int}, (-4096 ≤ p ∧ p ≤ 4096) → (-4096 ≤ q ∧ q ≤ 4096) → Fit (p * q) := fun hp hq => fit_abs hp hq (by omega)
  exact cosine_walk x y z a b c (dot3 x y z a b c) (dot3 x y z x y z) (dot3 a b c a b c) _ _ _ _ _ he hf w (fun w1 => dot_any x y z a b c (f hx ha) (f hy hb) (f hz hc) w1) (fun w1 => dot_any x y z x y z (f hx hx) (f hy hy) (f hz hz) w1) (fun w1 => dot_any a b c a b c (f ha ha) (f hb hb) (f hc hc) w1)
    (fun w1 => sign_any _ w1) (IntWalk.i64_in _ ⟨by omega, by omega⟩) (IntWalk.i64_in _ ⟨by omega, by omega⟩)
    (fun w1 => quotient_any _ _ ⟨by omega, by omega⟩ ⟨by omega, by omega⟩ m3 w1)
end Go.Proofs.YtggffhmdgceljaaGreatDoor

/-
  Contracts of the length of a ray: the search of the least integer whose square is not below another one.
-/
namespace Go.Proofs.YtggffhmdgceljaaGreatDoor
open Go.RowKit
set_option linter.unusedVariables false
set_option linter.unusedSimpArgs false

set_option maxHeartbeats 800000 in
theorem lenF_any (n s : Int) (B : Nat) (hn : 0 ≤ n ∧ n ≤ 8192) (w : World) (hB : w.cell? ⟨B, 0, none⟩ = some (.int .i64 s)) :
    Calls Tryz.prog 99 #[.int .i64 n, .pointer (some ⟨B, 0, none⟩)] w fun e w' => e = .returned (.bool (decide (s ≤ n * n))) ∧ w = w' := by
  have hm := mul_abs (show -8192 ≤ n ∧ n ≤ 8192 by omega) (show -8192 ≤ n ∧ n ≤ 8192 by omega)
  obtain ⟨m, em⟩ : ∃ m, n * n = m := ⟨_, rfl⟩
  rw [em] at hm ⊢
  have w1 : IntKind.i64.wrap m = m := IntWalk.i64_in _ ⟨by omega, by omega⟩
  clear hm hn
  go_enter Tryz.func99, Tryz.ntmps99
  go_wp2
  go_ret
  exact ⟨rfl, rfl⟩

/-- The least integer from 0 on whose square is not below another one. -/
def Least (s : Int) (n : Nat) : Prop := n ≤ 8192 ∧ s ≤ (n : Int) * n ∧ ∀ m : Nat, m < n → (m : Int) * m < s
def FoundN (s : Int) (w : World) (e : Ending) (w' : World) : Prop := ∃ n : Nat, Least s n ∧ e = .returned (.int .i64 n) ∧ w = w'
set_option maxRecDepth 100000 in
set_option maxHeartbeats 3200000 in
theorem search_any (s : Int) (B : Nat) (hs : s ≤ 67108864) (w : World) (hB : w.cell? ⟨B, 0, none⟩ = some (.int .i64 s)) :
    Calls Tryz.prog 98 #[.int .i64 8192, .func (.func 99) #[] #[.pointer (some ⟨B, 0, none⟩)]] w (FoundN s w) := by
  have HB := Lib.hid hB
  clear hB
  go_enter Tryz.func98, Tryz.ntmps98
  go_wp2
  go_loop [5, 6] (fun x y => ∃ i j : Nat, x = .int .i64 (i : Nat) ∧ y = .int .i64 (j : Nat) ∧ i ≤ j ∧ j ≤ 8192 ∧ Hid (s ≤ (j : Int) * j ∧ ∀ m : Nat, m < i → (m : Int) * m < s)) (fun x y => (intOf y - intOf x).toNat)
  case atStart => exact ⟨0, 8192, rfl, rfl, by omega, by omega, Lib.hid ⟨by omega, fun m hm => by omega⟩⟩
  case round =>
    obtain ⟨i, j, rfl, rfl, hij, hj, hI⟩ := hrel
    by_cases hlt : i < j
    · obtain ⟨h, hh⟩ : ∃ h : Nat, (i + j) / 2 = h := ⟨_, rfl⟩
      have hh1 : i ≤ h ∧ h < j := by omega
      have eh : ((i : Int) + (j : Int)) / 2 = (h : Int) := by omega
      have hh8 : (0 : Int) ≤ h ∧ (h : Int) ≤ 8192 := by omega
      clear hh
      by_cases hc : s ≤ (h : Int) * h
      · have KF : Hid (Calls Tryz.prog 99 #[.int .i64 (h : Nat), .pointer (some ⟨B, 0, none⟩)] w fun e w' => e = .returned (.bool true) ∧ w = w') := Lib.hid (by
          have k := lenF_any h s B hh8 w HB.out
          rwa [decide_eq_true hc] at k)
        have HC := Lib.hid hc
        clear hc
        go_wp2_with (go_at_call 99; (with_reducible refine KF.out.mono ?_); rintro e w1 ⟨rfl, rfl⟩)
        go_round
        case rel => exact ⟨i, h, rfl, rfl, hh1.1, by omega, Lib.hid ⟨HC.out, hI.out.2⟩⟩
        case measure => simp [intOf]; omega
      · have KF : Hid (Calls Tryz.prog 99 #[.int .i64 (h : Nat), .pointer (some ⟨B, 0, none⟩)] w fun e w' => e = .returned (.bool false) ∧ w = w') := Lib.hid (by
          have k := lenF_any h s B hh8 w HB.out
          rwa [decide_eq_false hc] at k)
        have HC := Lib.hid hc
        clear hc
        go_wp2_with (go_at_call 99; (with_reducible refine KF.out.mono ?_); rintro e w1 ⟨rfl, rfl⟩)
        go_round
        case rel =>
          refine ⟨h + 1, j, by go_num, rfl, by omega, hj, Lib.hid ⟨hI.out.1, fun m hm => ?_⟩⟩
          have h1 := HC.out
          have h2 : (m : Int) * m ≤ (h : Int) * h := by
            have : m * m ≤ h * h := Nat.mul_le_mul (by omega) (by omega)
            exact_mod_cast this
          omega
        case measure => simp [intOf]; omega
    · obtain rfl : i = j := by omega
      have HJ := Lib.hid hj
      clear hj hij
      go_wp2_with fail
      go_ret
      exact ⟨i, ⟨HJ.out, hI.out.1, hI.out.2⟩, rfl, rfl⟩

theorem cells1 {w : World} {B : Nat} {T : TypeId} {x : Value} (h : w.heap[B]? = some (.cells #[x] T (0, 0))) : w.cell? ⟨B, 0, none⟩ = some x := by rw [cell_of_row w _ 0 _ _ (0, 0) h]; rfl
/-- The length of a whole ray. -/
theorem least_sq {s : Int} {n : Nat} (h : Least s n) {L : Nat} (hL : (L : Int) * L = s) : n = L := by
  obtain ⟨_, h1, h2⟩ := h
  rcases Nat.lt_trichotomy n L with hl | rfl | hl
  · exfalso
    have h3 : n * n < L * L := Nat.mul_lt_mul'' hl hl
    have h4 : (n : Int) * n < (L : Int) * L := by exact_mod_cast h3
    omega
  · rfl
  · have := h2 L hl
    omega
def LenP (s : Int) (w : World) (e : Ending) (w' : World) : Prop := ∃ n : Nat, Least s n ∧ e = .returned (.tuple #[.int .i64 n, .bool (decide ((n : Int) * n = s))]) ∧ Below w.heap.size w w'

set_option maxRecDepth 100000 in
set_option maxHeartbeats 3200000 in
theorem lengthOf_any (x y z : Int) (hx : Ray3 x y z) (w : World) :
    Calls Tryz.prog 67 #[.agg #[.int .i64 x, .int .i64 y, .int .i64 z]] w (LenP (dot3 x y z x y z) w) := by
  obtain ⟨h1, h2, h3⟩ := hx
  have hd := dot_ray h1 h2 h3 h1 h2 h3
  have f : ∀ {p q : Int}, (-4096 ≤ p ∧ p ≤ 4096) → (-4096 ≤ q ∧ q ≤ 4096) → Fit (p * q) := fun hp hq => fit_abs hp hq (by omega)
  obtain ⟨s, hs⟩ : ∃ s, dot3 x y z x y z = s := ⟨_, rfl⟩
  rw [hs] at hd ⊢
  have KD : Hid (∀ w1 : World, Calls Tryz.prog 74 #[.agg #[.int .i64 x, .int .i64 y, .int .i64 z], .agg #[.int .i64 x, .int .i64 y, .int .i64 z]] w1 fun e w' => e = .returned (.int .i64 s) ∧ Below w1.heap.size w1 w') := Lib.hid fun w1 => by
    have h := dot_any x y z x y z (f h1 h1) (f h2 h2) (f h3 h3) w1
    rwa [show x * x + y * y + z * z = s from hs] at h
  have hs2 : s ≤ 67108864 := by omega
  have KS : Hid (∀ (w1 : World) (B : Nat), w1.cell? ⟨B, 0, none⟩ = some (.int .i64 s) → Calls Tryz.prog 98 #[.int .i64 8192, .func (.func 99) #[] #[.pointer (some ⟨B, 0, none⟩)]] w1 (FoundN s w1)) := Lib.hid fun w1 B h => search_any s B hs2 w1 h
  clear hs hd f h1 h2 h3 hs2
  obtain ⟨W0, hW0⟩ : ∃ W0, (w.alloc (.cells #[.int .i64 x, .int .i64 y, .int .i64 z] 94)) = W0 := ⟨_, rfl⟩
  have K0 : Hid (Kp w W0 [(w.heap.size, (.cells #[.int .i64 x, .int .i64 y, .int .i64 z] 94 (0, 0)))]) := Lib.hid (by
    rw [← hW0]
    have k := ((Kp.none w).alloc (.cells #[.int .i64 x, .int .i64 y, .int .i64 z] 94))
    simpa using k)
  obtain ⟨x0, x1, x2⟩ := cells3 (K0.out.2 _ (.head _))
  go_enter Tryz.func67, Tryz.ntmps67
  go_upto_region 2 with (first
    | (go_at_call 74; (with_reducible refine (KD.out _).mono ?_); rintro e w5 ⟨rfl, hb⟩; have K5 := Lib.hid (Kp.call (show Kp w _ [(w.heap.size, (.cells #[.int .i64 x, .int .i64 y, .int .i64 z] 94 (0, 0)))] from by first | (rw [hW0]; exact K0.out) | exact K0.out) hb); clear hb))
  clear x0 x1 x2 K0 KD
  refine wp_world (fun w' => Kp w w' [(w5.heap.size, (.cells #[.int .i64 s] 3 (0, 0))), (w.heap.size, (.cells #[.int .i64 x, .int .i64 y, .int .i64 z] 94 (0, 0)))]) (by exact K5.out.alloc _) fun w6 k6 => ?_
  have K6 := Lib.hid k6
  obtain ⟨B5, hB5⟩ : ∃ B5, w5.heap.size = B5 := ⟨_, rfl⟩
  rw [hB5] at K6 ⊢
  clear k6 K5 hB5 hW0
  have c0 := cells1 (K6.out.2 _ (.head _))
  go_upto_region 3 with (go_at_call 98; (with_reducible refine (KS.out _ _ c0).mono ?_); rintro e w7 ⟨n, hn, rfl, rfl⟩)
  clear c0 KS
  have hm := mul_abs (show -8192 ≤ (n : Int) ∧ (n : Int) ≤ 8192 by have := hn.1; omega) (show -8192 ≤ (n : Int) ∧ (n : Int) ≤ 8192 by have := hn.1; omega)
  obtain ⟨m, em⟩ : ∃ m : Int, (n : Int) * n = m := ⟨_, rfl⟩
  have HE := Lib.hid em
  rw [em] at hm
  have w1 : IntKind.i64.wrap m = m := IntWalk.i64_in _ ⟨by omega, by omega⟩
  have w2 : IntKind.i64.wrap ((n : Int) * (n : Int)) = m := by rw [em, w1]
  obtain ⟨bb, hbb⟩ : ∃ bb : Bool, (m == s) = bb := ⟨_, rfl⟩
  have hb2 : decide (m = s) = bb := by rw [← hbb, Bool.eq_iff_iff]; simp
  have HN := Lib.hid hn
  clear hn hm
  have x0 := cells1 (K6.out.2 _ (.head _))
  have hb6 := Lib.hid (Kp.below K6.out)
  have HB := Lib.hid hb2
  clear K6 em w1
  go_quiet (fail)
  go_wp2_with fail
  go_ret2
  exact ⟨n, HN.out, by rw [HE.out, HB.out]; rfl, below_drewN hb6.out _⟩
end Go.Proofs.YtggffhmdgceljaaGreatDoor

/-
  Contracts of Length and of Normal, for rays.
-/
namespace Go.Proofs.YtggffhmdgceljaaGreatDoor
open Go.RowKit
set_option linter.unusedVariables false
set_option linter.unusedSimpArgs false

theorem lengthOf_whole {x y z : Int} (hx : Ray3 x y z) {L : Nat} (hL : (L : Int) * L = dot3 x y z x y z) (w : World) :
    Calls Tryz.prog 67 #[.agg #[.int .i64 x, .int .i64 y, .int .i64 z]] w fun e w' => e = .returned (.tuple #[.int .i64 L, .bool true]) ∧ Below w.heap.size w w' :=
  (lengthOf_any x y z hx w).mono fun e w' ⟨n, hn, he, hb⟩ => by
    obtain rfl := least_sq hn hL
    exact ⟨by rw [he, decide_eq_true hL], hb⟩
theorem lengthOf_not {x y z : Int} (hx : Ray3 x y z) (hL : ∀ L : Nat, (L : Int) * L ≠ dot3 x y z x y z) (w : World) :
    Calls Tryz.prog 67 #[.agg #[.int .i64 x, .int .i64 y, .int .i64 z]] w fun e w' => (∃ n : Nat, e = .returned (.tuple #[.int .i64 n, .bool false])) ∧ Below w.heap.size w w' :=
  (lengthOf_any x y z hx w).mono fun e w' ⟨n, hn, he, hb⟩ => ⟨⟨n, by rw [he, decide_eq_false (hL n)]⟩, hb⟩

set_option maxRecDepth 100000 in
set_option maxHeartbeats 6400000 in
theorem length_ok (x y z : Int) (L : Nat) (he : rayErr x y z = 0) (hL : (L : Int) * L = dot3 x y z x y z) (w : World) :
    Calls Tryz.prog 20 #[.agg #[.int .i64 x, .int .i64 y, .int .i64 z]] w fun e w' => e = .returned (.tuple #[.int .i64 L, .int .i64 0]) ∧ Below w.heap.size w w' := by
  have hx : Ray3 x y z := (ray_ok he).2
  have KC : Hid (∀ w1 : World, Calls Tryz.prog 43 #[.agg #[.int .i64 x, .int .i64 y, .int .i64 z]] w1 fun e w' => e = .returned (.int .i64 0) ∧ Below w1.heap.size w1 w') := Lib.hid fun w1 => by
    have h := checkRay_all x y z w1
    rwa [he] at h
  have KP : Hid (∀ w1 : World, Calls Tryz.prog 45 #[.agg #[.int .i64 x, .int .i64 y, .int .i64 z]] w1 fun e w' => e = .returned (.agg #[.int .i64 x, .int .i64 y, .int .i64 z]) ∧ Below w1.heap.size w1 w') := Lib.hid fun w1 => partsOf_any x y z w1
  have KL : Hid (∀ w1 : World, Calls Tryz.prog 67 #[.agg #[.int .i64 x, .int .i64 y, .int .i64 z]] w1 fun e w' => e = .returned (.tuple #[.int .i64 L, .bool true]) ∧ Below w1.heap.size w1 w') := Lib.hid fun w1 => lengthOf_whole hx hL w1
  clear hx he hL
  obtain ⟨W0, hW0⟩ : ∃ W0, (w.alloc (.cells #[.int .i64 x, .int .i64 y, .int .i64 z] 23)) = W0 := ⟨_, rfl⟩
  have K0 : Hid (Kp w W0 [(w.heap.size, (.cells #[.int .i64 x, .int .i64 y, .int .i64 z] 23 (0, 0)))]) := Lib.hid (by
    rw [← hW0]
    have k := ((Kp.none w).alloc (.cells #[.int .i64 x, .int .i64 y, .int .i64 z] 23))
    simpa using k)
  obtain ⟨x0, x1, x2⟩ := cells3 (K0.out.2 _ (.head _))
  go_enter Tryz.func20, Tryz.ntmps20
  go_upto_region 1 with fail
  try rw [hW0]
  clear hW0
  go_wp2_with (first
    | (go_at_call 43; (with_reducible refine (KC.out _).mono ?_); rintro e wx1 ⟨rfl, hb⟩; have Kx1 := Lib.hid (K0.out.call hb); clear hb x0 x1 x2 K0; obtain ⟨x0, x1, x2⟩ := cells3 (Kx1.out.2 _ (.head _)))
    | (go_at_call 45; (with_reducible refine (KP.out _).mono ?_); rintro e wx2 ⟨rfl, hb⟩; have Kx2 := Lib.hid (Kx1.out.call hb); clear hb x0 x1 x2 Kx1; obtain ⟨x0, x1, x2⟩ := cells3 (Kx2.out.2 _ (.head _)))
    | (go_at_call 67; (with_reducible refine (KL.out _).mono ?_); rintro e wx3 ⟨rfl, hb⟩; have Kx3 := Lib.hid (Kx2.out.call hb); clear hb x0 x1 x2 Kx2; obtain ⟨x0, x1, x2⟩ := cells3 (Kx3.out.2 _ (.head _))))
  go_ret2
  exact ⟨rfl, Kp.below Kx3.out⟩

set_option maxRecDepth 100000 in
set_option maxHeartbeats 6400000 in
theorem length_not (x y z : Int) (he : rayErr x y z = 0) (hL : ∀ L : Nat, (L : Int) * L ≠ dot3 x y z x y z) (w : World) :
    Calls Tryz.prog 20 #[.agg #[.int .i64 x, .int .i64 y, .int .i64 z]] w fun e w' => e = .returned (.tuple #[.int .i64 0, .int .i64 1]) ∧ Below w.heap.size w w' := by
  have hx : Ray3 x y z := (ray_ok he).2
  have KC : Hid (∀ w1 : World, Calls Tryz.prog 43 #[.agg #[.int .i64 x, .int .i64 y, .int .i64 z]] w1 fun e w' => e = .returned (.int .i64 0) ∧ Below w1.heap.size w1 w') := Lib.hid fun w1 => by
    have h := checkRay_all x y z w1
    rwa [he] at h
  have KP : Hid (∀ w1 : World, Calls Tryz.prog 45 #[.agg #[.int .i64 x, .int .i64 y, .int .i64 z]] w1 fun e w' => e = .returned (.agg #[.int .i64 x, .int .i64 y, .int .i64 z]) ∧ Below w1.heap.size w1 w') := Lib.hid fun w1 => partsOf_any x y z w1
  have KL : Hid (∀ w1 : World, Calls Tryz.prog 67 #[.agg #[.int .i64 x, .int .i64 y, .int .i64 z]] w1 fun e w' => (∃ n : Nat, e = .returned (.tuple #[.int .i64 n, .bool false])) ∧ Below w1.heap.size w1 w') := Lib.hid fun w1 => lengthOf_not hx hL w1
  clear hx he hL
  obtain ⟨W0, hW0⟩ : ∃ W0, (w.alloc (.cells #[.int .i64 x, .int .i64 y, .int .i64 z] 23)) = W0 := ⟨_, rfl⟩
  have K0 : Hid (Kp w W0 [(w.heap.size, (.cells #[.int .i64 x, .int .i64 y, .int .i64 z] 23 (0, 0)))]) := Lib.hid (by
    rw [← hW0]
    have k := ((Kp.none w).alloc (.cells #[.int .i64 x, .int .i64 y, .int .i64 z] 23))
    simpa using k)
  obtain ⟨x0, x1, x2⟩ := cells3 (K0.out.2 _ (.head _))
  go_enter Tryz.func20, Tryz.ntmps20
  go_upto_region 1 with fail
  try rw [hW0]
  clear hW0
  go_wp2_with (first
    | (go_at_call 43; (with_reducible refine (KC.out _).mono ?_); rintro e wx1 ⟨rfl, hb⟩; have Kx1 := Lib.hid (K0.out.call hb); clear hb x0 x1 x2 K0; obtain ⟨x0, x1, x2⟩ := cells3 (Kx1.out.2 _ (.head _)))
    | (go_at_call 45; (with_reducible refine (KP.out _).mono ?_); rintro e wx2 ⟨rfl, hb⟩; have Kx2 := Lib.hid (Kx1.out.call hb); clear hb x0 x1 x2 Kx1; obtain ⟨x0, x1, x2⟩ := cells3 (Kx2.out.2 _ (.head _)))
    | (go_at_call 67; (with_reducible refine (KL.out _).mono ?_); rintro e wx3 ⟨⟨n, rfl⟩, hb⟩; have Kx3 := Lib.hid (Kx2.out.call hb); clear hb x0 x1 x2 Kx2; obtain ⟨x0, x1, x2⟩ := cells3 (Kx3.out.2 _ (.head _))))
  go_ret2
  exact ⟨rfl, Kp.below Kx3.out⟩

set_option maxRecDepth 100000 in
set_option maxHeartbeats 6400000 in
theorem normal_ok (x y z a b c : Int) (he : rayErr x y z = 0) (hf : rayErr a b c = 0) (L M : Nat) (w : World)
    (KL : ∀ w1 : World, Calls Tryz.prog 67 #[.agg #[.int .i64 x, .int .i64 y, .int .i64 z]] w1 fun e w' => e = .returned (.tuple #[.int .i64 L, .bool true]) ∧ Below w1.heap.size w1 w')
    (KM : ∀ w1 : World, Calls Tryz.prog 67 #[.agg #[.int .i64 a, .int .i64 b, .int .i64 c]] w1 fun e w' => e = .returned (.tuple #[.int .i64 M, .bool true]) ∧ Below w1.heap.size w1 w')
    (KO : ∀ w1 : World, Calls Tryz.prog 47 #[.agg #[.int .i64 x, .int .i64 y, .int .i64 z], .agg #[.int .i64 a, .int .i64 b, .int .i64 c]] w1 fun e w' => e = .returned (.bool false) ∧ Below w1.heap.size w1 w')
    (p1 p2 p3 q1 q2 q3 s1 s2 s3 t1 t2 t3 er : Int)
    (KT : ∀ w1 : World, Calls Tryz.prog 69 #[.agg #[.int .i64 x, .int .i64 y, .int .i64 z], .int .i64 M] w1 fun e w' => e = .returned (.agg #[.int .i64 p1, .int .i64 p2, .int .i64 p3]) ∧ Below w1.heap.size w1 w')
    (KU : ∀ w1 : World, Calls Tryz.prog 69 #[.agg #[.int .i64 a, .int .i64 b, .int .i64 c], .int .i64 L] w1 fun e w' => e = .returned (.agg #[.int .i64 q1, .int .i64 q2, .int .i64 q3]) ∧ Below w1.heap.size w1 w')
    (KA : ∀ w1 : World, Calls Tryz.prog 70 #[.agg #[.int .i64 p1, .int .i64 p2, .int .i64 p3], .agg #[.int .i64 q1, .int .i64 q2, .int .i64 q3]] w1 fun e w' => e = .returned (.agg #[.int .i64 s1, .int .i64 s2, .int .i64 s3]) ∧ Below w1.heap.size w1 w')
    (KR : ∀ w1 : World, Calls Tryz.prog 68 #[.agg #[.int .i64 s1, .int .i64 s2, .int .i64 s3]] w1 fun e w' => e = .returned (.tuple #[.agg #[.int .i64 t1, .int .i64 t2, .int .i64 t3], .int .i64 er]) ∧ Below w1.heap.size w1 w') :
    Calls Tryz.prog 21 #[.agg #[.int .i64 x, .int .i64 y, .int .i64 z], .agg #[.int .i64 a, .int .i64 b, .int .i64 c]] w fun e w' => e = .returned (.tuple #[.agg #[.int .i64 t1, .int .i64 t2, .int .i64 t3], .int .i64 er]) ∧ Below w.heap.size w w' := by
  obtain ⟨W0, hW0⟩ : ∃ W0, (((w.alloc (.cells #[.int .i64 x, .int .i64 y, .int .i64 z] 23)).alloc (.cells #[.int .i64 a, .int .i64 b, .int .i64 c] 23)).alloc (.cells #[.int .i64 0, .int .i64 0, .int .i64 0] 23)) = W0 := ⟨_, rfl⟩
  have HB0 : Hid (Below w.heap.size w W0) := Lib.hid (by rw [← hW0]; exact ((((Below.refl _ w).alloc (Nat.le_refl _) _).alloc (by simp) _).alloc (by simp; omega) _))
  have hS0 : w.heap.size < W0.heap.size := by rw [← hW0]; simp; try omega
  have a0_0 : W0.cell? ⟨w.heap.size, 0, none⟩ = some (.int .i64 x) := by rw [← hW0]; simp [go_sem]
  have a0_1 : W0.cell? ⟨w.heap.size, 1, none⟩ = some (.int .i64 y) := by rw [← hW0]; simp [go_sem]
  have a0_2 : W0.cell? ⟨w.heap.size, 2, none⟩ = some (.int .i64 z) := by rw [← hW0]; simp [go_sem]
  have hS1 : w.heap.size + 1 < W0.heap.size := by rw [← hW0]; simp; try omega
  have a1_0 : W0.cell? ⟨w.heap.size + 1, 0, none⟩ = some (.int .i64 a) := by rw [← hW0]; simp [go_sem]
  have a1_1 : W0.cell? ⟨w.heap.size + 1, 1, none⟩ = some (.int .i64 b) := by rw [← hW0]; simp [go_sem]
  have a1_2 : W0.cell? ⟨w.heap.size + 1, 2, none⟩ = some (.int .i64 c) := by rw [← hW0]; simp [go_sem]
  have hS2 : w.heap.size + 1 + 1 < W0.heap.size := by rw [← hW0]; simp; try omega
  have a2_0 : W0.cell? ⟨w.heap.size + 1 + 1, 0, none⟩ = some (.int .i64 0) := by rw [← hW0]; simp [go_sem]
  have a2_1 : W0.cell? ⟨w.heap.size + 1 + 1, 1, none⟩ = some (.int .i64 0) := by rw [← hW0]; simp [go_sem]
  have a2_2 : W0.cell? ⟨w.heap.size + 1 + 1, 2, none⟩ = some (.int .i64 0) := by rw [← hW0]; simp [go_sem]
  have hR : Blw W0.heap.size W0 W0.drew := show Below _ _ _ from (Below.refl W0.heap.size W0).drew
  have K0 : Hid (Kp w W0 [(w.heap.size + 1 + 1, (.cells #[.int .i64 0, .int .i64 0, .int .i64 0] 23 (0, 0))), (w.heap.size + 1, (.cells #[.int .i64 a, .int .i64 b, .int .i64 c] 23 (0, 0))), (w.heap.size, (.cells #[.int .i64 x, .int .i64 y, .int .i64 z] 23 (0, 0)))]) := Lib.hid (by
    rw [← hW0]
    have k := ((((Kp.none w).alloc (.cells #[.int .i64 x, .int .i64 y, .int .i64 z] 23)).alloc (.cells #[.int .i64 a, .int .i64 b, .int .i64 c] 23)).alloc (.cells #[.int .i64 0, .int .i64 0, .int .i64 0] 23))
    simpa using k)
  have KX : Hid (∀ w1 : World, Blw W0.heap.size W0 w1 → Calls Tryz.prog 43 #[.agg #[.int .i64 x, .int .i64 y, .int .i64 z]] w1 fun e w' => e = .returned (.int .i64 0) ∧ Below W0.heap.size W0 w') := Lib.hid fun w1 hb => by
    have h := on_blw (checkRay_all x y z w1) hb
    rwa [he] at h
  have KY : Hid (∀ w1 : World, Blw W0.heap.size W0 w1 → Calls Tryz.prog 43 #[.agg #[.int .i64 a, .int .i64 b, .int .i64 c]] w1 fun e w' => e = .returned (.int .i64 0) ∧ Below W0.heap.size W0 w') := Lib.hid fun w1 hb => by
    have h := on_blw (checkRay_all a b c w1) hb
    rwa [hf] at h
  have KF : Hid (firstNZ [0, 0] = 0) := Lib.hid (by rfl)
  have HKL := Lib.hid KL
  have HKM := Lib.hid KM
  have HKO := Lib.hid KO
  have HKT := Lib.hid KT
  have HKU := Lib.hid KU
  have HKA := Lib.hid KA
  have HKR := Lib.hid KR
  clear KL KM KO KT KU KA KR
  clear he hf
  go_enter Tryz.func21, Tryz.ntmps21
  go_upto_region 1 with fail
  try rw [hW0]
  clear hW0
  go_region_held3 (fun w' => w'.cell? ⟨w.heap.size, 0, none⟩ = some (.int .i64 x) ∧ w'.cell? ⟨w.heap.size, 1, none⟩ = some (.int .i64 y) ∧ w'.cell? ⟨w.heap.size, 2, none⟩ = some (.int .i64 z) ∧ w'.cell? ⟨w.heap.size + 1, 0, none⟩ = some (.int .i64 a) ∧ w'.cell? ⟨w.heap.size + 1, 1, none⟩ = some (.int .i64 b) ∧ w'.cell? ⟨w.heap.size + 1, 2, none⟩ = some (.int .i64 c) ∧ Blw W0.heap.size W0 w')
    (first | (go_split_ands; refine ⟨?_, ?_, ?_, ?_, ?_, ?_, ?_⟩ <;> first | (with_reducible assumption) | exact hb2 | ((rw [hb2.cell hS0]; assumption)) | ((rw [hb2.cell hS1]; assumption))) | (go_split_ands; refine ⟨?_, ?_, ?_, ?_, ?_, ?_, ?_⟩ <;> first | ((rw [(hb2.alloc hb2.size _).cell hS0]; assumption)) | ((rw [(hb2.alloc hb2.size _).cell hS1]; assumption)) | exact (hb2.alloc hb2.size _ : Below _ _ _)) | go_keep)
    (first
      | (go_at_call 43; (with_reducible refine (KX.out _ ?_).mono ?_); rotate_left 1; rintro e w2 ⟨rfl, hb2⟩; rotate_left 1; (simp [*]))
      | (go_at_call 43; (with_reducible refine (KY.out _ ?_).mono ?_); rotate_left 1; rintro e w2 ⟨rfl, hb2⟩; rotate_left 1; (simp [*]))
      | ((go_at_call 42; refine (first_any _ 0 2 2 [0, 0] rfl (by omega) _ ?_).mono ?_; rotate_left 1; rintro e w' ⟨rfl, rfl⟩; rw [KF.out]; rotate_left 1; (intro j hj; match j, hj with | 0, _ => simp [go_sem] | 1, _ => simp [go_sem]))))
  obtain ⟨w3, hw3⟩ : ∃ w3, w2.alloc (.cells #[.int .i64 0, .int .i64 0] 26) = w3 := ⟨_, rfl⟩
  have K3 : Hid (Kp w w3 [(w.heap.size + 1 + 1, (.cells #[.int .i64 0, .int .i64 0, .int .i64 0] 23 (0, 0))), (w.heap.size + 1, (.cells #[.int .i64 a, .int .i64 b, .int .i64 c] 23 (0, 0))), (w.heap.size, (.cells #[.int .i64 x, .int .i64 y, .int .i64 z] 23 (0, 0)))]) := Lib.hid (by rw [← hw3]; exact K0.out.call (hb2.alloc hb2.size _))
  rw [hw3]
  clear hw3 hb2 hR KX KY KF K0 HB0 hS0 hS1 hS2 a0_0 a0_1 a0_2 a1_0 a1_1 a1_2 a2_0 a2_1 a2_2
  go_upto_region 4 with fail
  go_cut [7, 8] (fun s7 s8 wr => ∃ Bp Bq : Nat, s7 = .pointer (some ⟨Bp, 0, none⟩) ∧ s8 = .pointer (some ⟨Bq, 0, none⟩) ∧ Kp w wr [(Bp, (.cells #[.int .i64 x, .int .i64 y, .int .i64 z] 94 (0, 0))), (Bq, (.cells #[.int .i64 a, .int .i64 b, .int .i64 c] 94 (0, 0))), (w.heap.size + 1 + 1, (.cells #[.int .i64 0, .int .i64 0, .int .i64 0] 23 (0, 0))), (w.heap.size + 1, (.cells #[.int .i64 a, .int .i64 b, .int .i64 c] 23 (0, 0))), (w.heap.size, (.cells #[.int .i64 x, .int .i64 y, .int .i64 z] 23 (0, 0)))])
  case first =>
    refine two_parts (l1 := 23) (c1 := 24) (l2 := 25) (c2 := 26) (n7 := 7) (n8 := 8) (pa := 2) (pb := 3) (s := "rays.go:73") (BA := w.heap.size) (BB := w.heap.size + 1)
      (by unfold Apart6; decide) (by simp) rfl rfl (by decide) (by decide) (K3.out.2 _ (.tail _ (.tail _ (.head _)))) (K3.out.2 _ (.tail _ (.head _))) (fun Bp Bq wr hne h1 h2 hb h3 h4 => ?_)
    simp only [Act.put, List.setIfInBounds_toArray, List.set_cons_succ, List.set_cons_zero]
    rename_i hJ
    refine hJ _ _ ?_
    go_meet
    exact ⟨Bp, Bq, rfl, rfl, kp_two K3.out hb h3 h4⟩
  case rest =>
    rename_i hK
    obtain ⟨Bp, Bq, rfl, rfl, hk⟩ := hcut
    refine hK _ _ ?_
    clear hK K3
    have K4 := Lib.hid hk
    clear hk
    obtain ⟨x0, x1, x2⟩ := cells3 (K4.out.2 _ (.head _))
    obtain ⟨y0, y1, y2⟩ := cells3 (K4.out.2 _ (.tail _ (.head _)))
    obtain ⟨o0, o1, o2⟩ := cells3 (K4.out.2 _ (.tail _ (.tail _ (.head _))))
    have oz : ∀ j, wc.frozen? ⟨w.heap.size + 1 + 1, j, none⟩ = false := fun j => frozen_of_row wc (w.heap.size + 1 + 1) j _ _ (K4.out.2 _ (.tail _ (.tail _ (.head _))))
    go_upto_region 11 with (first
      | (go_at_call 67; (with_reducible refine (HKL.out _).mono ?_); rintro e wx5 ⟨rfl, hb⟩; have Kx5 := Lib.hid (K4.out.call hb); clear hb x0 x1 x2 y0 y1 y2 o0 o1 o2 oz K4; obtain ⟨x0, x1, x2⟩ := cells3 (Kx5.out.2 _ (.head _)); obtain ⟨y0, y1, y2⟩ := cells3 (Kx5.out.2 _ (.tail _ (.head _))); obtain ⟨o0, o1, o2⟩ := cells3 (Kx5.out.2 _ (.tail _ (.tail _ (.head _)))); have oz : ∀ j, wx5.frozen? ⟨w.heap.size + 1 + 1, j, none⟩ = false := fun j => frozen_of_row wx5 (w.heap.size + 1 + 1) j _ _ (Kx5.out.2 _ (.tail _ (.tail _ (.head _)))))
      | (go_at_call 67; (with_reducible refine (HKM.out _).mono ?_); rintro e wx6 ⟨rfl, hb⟩; have Kx6 := Lib.hid (Kx5.out.call hb); clear hb x0 x1 x2 y0 y1 y2 o0 o1 o2 oz Kx5; obtain ⟨x0, x1, x2⟩ := cells3 (Kx6.out.2 _ (.head _)); obtain ⟨y0, y1, y2⟩ := cells3 (Kx6.out.2 _ (.tail _ (.head _))); obtain ⟨o0, o1, o2⟩ := cells3 (Kx6.out.2 _ (.tail _ (.tail _ (.head _)))); have oz : ∀ j, wx6.frozen? ⟨w.heap.size + 1 + 1, j, none⟩ = false := fun j => frozen_of_row wx6 (w.heap.size + 1 + 1) j _ _ (Kx6.out.2 _ (.tail _ (.tail _ (.head _)))))
      | (go_at_call 47; (with_reducible refine (HKO.out _).mono ?_); rintro e wx7 ⟨rfl, hb⟩; have Kx7 := Lib.hid (Kx6.out.call hb); clear hb x0 x1 x2 y0 y1 y2 o0 o1 o2 oz Kx6; obtain ⟨x0, x1, x2⟩ := cells3 (Kx7.out.2 _ (.head _)); obtain ⟨y0, y1, y2⟩ := cells3 (Kx7.out.2 _ (.tail _ (.head _))); obtain ⟨o0, o1, o2⟩ := cells3 (Kx7.out.2 _ (.tail _ (.tail _ (.head _)))); have oz : ∀ j, wx7.frozen? ⟨w.heap.size + 1 + 1, j, none⟩ = false := fun j => frozen_of_row wx7 (w.heap.size + 1 + 1) j _ _ (Kx7.out.2 _ (.tail _ (.tail _ (.head _))))))
    clear x0 x1 x2 y0 y1 y2 o0 o1 o2 oz
    apply wp_region_gives 10 (fun w' => Blw wx7.heap.size wx7 w') [.agg #[.int .i64 x, .int .i64 y, .int .i64 z], .int .i64 M, .agg #[.int .i64 p1, .int .i64 p2, .int .i64 p3], .agg #[.int .i64 a, .int .i64 b, .int .i64 c], .int .i64 L, .agg #[.int .i64 q1, .int .i64 q2, .int .i64 q3], .agg #[.int .i64 s1, .int .i64 s2, .int .i64 s3], .tuple #[.agg #[.int .i64 t1, .int .i64 t2, .int .i64 t3], .int .i64 er], .agg #[.int .i64 t1, .int .i64 t2, .int .i64 t3], .int .i64 er] (by kernel_rfl) (by kernel_rfl) (by kernel_rfl) (show Below _ _ _ from (Below.refl _ _).drew)
    case haF =>
      simp [putJs, Act.put, List.range, List.range.loop]
      exact rfl
    case h =>
      have hBx := Kx7.out.2 _ (.head _)
      have hBy := Kx7.out.2 _ (.tail _ (.head _))
      simp only [List.take_succ_cons, List.take_zero, GivesL]
      clear Kx7
      refine ⟨?_, ?_, ?_, ?_, ?_, ?_, ?_, ?_, ?_, ?_, trivial⟩
      all_goals
        intro w1 hw1
        obtain ⟨x_0, x_1, x_2⟩ := cells3 (((show Below _ _ _ from hw1).block _ (lt_of_blk hBx)).trans hBx)
        obtain ⟨y_0, y_1, y_2⟩ := cells3 (((show Below _ _ _ from hw1).block _ (lt_of_blk hBy)).trans hBy)
        unfold Oper.wp
        simp only [execOp]
        go_simp <;> first
          | exact ⟨rfl, hw1⟩
          | ((with_reducible refine (HKT.out _).mono ?_); rintro e w2 ⟨rfl, hb⟩; exact ⟨rfl, below_call hb hw1⟩)
          | ((with_reducible refine (HKU.out _).mono ?_); rintro e w2 ⟨rfl, hb⟩; exact ⟨rfl, below_call hb hw1⟩)
          | ((with_reducible refine (HKA.out _).mono ?_); rintro e w2 ⟨rfl, hb⟩; exact ⟨rfl, below_call hb hw1⟩)
          | ((with_reducible refine (HKR.out _).mono ?_); rintro e w2 ⟨rfl, hb⟩; exact ⟨rfl, below_call hb hw1⟩)
    case ht =>
      intro w5 hw5
      have K5 := Lib.hid (Kx7.out.call (show Below _ _ _ from hw5))
      clear hw5 Kx7
      simp only [List.drop_succ_cons, List.drop_zero]
      obtain ⟨o0, o1, o2⟩ := cells3 (K5.out.2 _ (.tail _ (.tail _ (.head _))))
      have oz : ∀ j, w5.frozen? ⟨w.heap.size + 1 + 1, j, none⟩ = false := fun j => frozen_of_row w5 (w.heap.size + 1 + 1) j _ _ (K5.out.2 _ (.tail _ (.tail _ (.head _))))
      have hb5 := Lib.hid (Kp.below K5.out)
      clear K5
      go_wp2_with fail
      refine bodyPost_ret (v := .tuple #[.agg #[.int .i64 t1, .int .i64 t2, .int .i64 t3], .int .i64 er]) (by simp [results, Tryz.results21, go_sem, o0, o1, o2]) rfl ⟨rfl, ?_⟩
      exact ((hb5.out.setCell (show w.heap.size ≤ w.heap.size + 1 + 1 by omega) _).setCell (show w.heap.size ≤ w.heap.size + 1 + 1 by omega) _).setCell (show w.heap.size ≤ w.heap.size + 1 + 1 by omega) _

end Go.Proofs.YtggffhmdgceljaaGreatDoor

/-
  Contract of Whole: the whole vector of four integers up to 32, not all 0.
-/
namespace Go.Proofs.YtggffhmdgceljaaGreatDoor
open Go.RowKit
set_option linter.unusedVariables false
set_option linter.unusedSimpArgs false

def Root (n : Int) : Prop := -32 ≤ n ∧ n ≤ 32
theorem whole_fit {a b : Int} (ha : Root a) (hb : Root b) : -1024 ≤ a * b ∧ a * b ≤ 1024 := mul_abs ha hb
theorem eq_four4 (x y z u a b c d : Int) (w : World) : (Op.equalIn 10000 43 (.agg #[.int .i64 x, .int .i64 y, .int .i64 z, .int .i64 u]) (.agg #[.int .i64 a, .int .i64 b, .int .i64 c, .int .i64 d])).run Tryz.prog w = .ok (decide ([x, y, z, u] = [a, b, c, d])) w :=
  run_equalIn_ints w 9998 43 3 4 Tryz.underlying43 Tryz.underlying3 (fun w => by first | kernel_rfl | rfl) [x, y, z, u] [a, b, c, d] rfl rfl

set_option maxRecDepth 100000 in
set_option maxHeartbeats 6400000 in
theorem whole_ok (m n p q : Int) (hm : Root m) (hn : Root n) (hp : Root p) (hq : Root q) (h0 : ¬ (m = 0 ∧ n = 0 ∧ p = 0 ∧ q = 0)) (w : World) :
    Calls Tryz.prog 18 #[.agg #[.int .i64 m, .int .i64 n, .int .i64 p, .int .i64 q]] w fun e w' => e = .returned (.tuple #[.agg #[.int .i64 (m * m + n * n - p * p - q * q), .int .i64 (2 * (m * q + n * p)), .int .i64 (2 * (n * q - m * p))], .int .i64 0]) ∧ Below w.heap.size w w' := by
  have f_mm := whole_fit hm hm
  have f_nn := whole_fit hn hn
  have f_pp := whole_fit hp hp
  have f_qq := whole_fit hq hq
  have f_mq := whole_fit hm hq
  have f_np := whole_fit hn hp
  have f_nk := whole_fit hn hq
  have f_mp := whole_fit hm hp
  obtain ⟨mm, e_mm⟩ : ∃ mm, m * m = mm := ⟨_, rfl⟩
  obtain ⟨nn, e_nn⟩ : ∃ nn, n * n = nn := ⟨_, rfl⟩
  obtain ⟨pp, e_pp⟩ : ∃ pp, p * p = pp := ⟨_, rfl⟩
  obtain ⟨qq, e_qq⟩ : ∃ qq, q * q = qq := ⟨_, rfl⟩
  obtain ⟨mq, e_mq⟩ : ∃ mq, m * q = mq := ⟨_, rfl⟩
  obtain ⟨np, e_np⟩ : ∃ np, n * p = np := ⟨_, rfl⟩
  obtain ⟨nk, e_nk⟩ : ∃ nk, n * q = nk := ⟨_, rfl⟩
  obtain ⟨mp, e_mp⟩ : ∃ mp, m * p = mp := ⟨_, rfl⟩
  rw [e_mm, e_nn, e_pp, e_qq, e_mq, e_np, e_nk, e_mp]
  rw [e_mm] at f_mm
  rw [e_nn] at f_nn
  rw [e_pp] at f_pp
  rw [e_qq] at f_qq
  rw [e_mq] at f_mq
  rw [e_np] at f_np
  rw [e_nk] at f_nk
  rw [e_mp] at f_mp
  have w_0 : IntKind.i64.wrap mm = mm := IntWalk.i64_in _ ⟨by omega, by omega⟩
  have w_1 : IntKind.i64.wrap nn = nn := IntWalk.i64_in _ ⟨by omega, by omega⟩
  have w_2 : IntKind.i64.wrap pp = pp := IntWalk.i64_in _ ⟨by omega, by omega⟩
  have w_3 : IntKind.i64.wrap qq = qq := IntWalk.i64_in _ ⟨by omega, by omega⟩
  have w_4 : IntKind.i64.wrap mq = mq := IntWalk.i64_in _ ⟨by omega, by omega⟩
  have w_5 : IntKind.i64.wrap np = np := IntWalk.i64_in _ ⟨by omega, by omega⟩
  have w_6 : IntKind.i64.wrap nk = nk := IntWalk.i64_in _ ⟨by omega, by omega⟩
  have w_7 : IntKind.i64.wrap mp = mp := IntWalk.i64_in _ ⟨by omega, by omega⟩
  have w_8 : IntKind.i64.wrap (mm + nn) = (mm + nn) := IntWalk.i64_in _ ⟨by omega, by omega⟩
  have w_9 : IntKind.i64.wrap (mm + nn - pp) = (mm + nn - pp) := IntWalk.i64_in _ ⟨by omega, by omega⟩
  have w_10 : IntKind.i64.wrap (mm + nn - pp - qq) = (mm + nn - pp - qq) := IntWalk.i64_in _ ⟨by omega, by omega⟩
  have w_11 : IntKind.i64.wrap (mq + np) = (mq + np) := IntWalk.i64_in _ ⟨by omega, by omega⟩
  have w_12 : IntKind.i64.wrap (2 * (mq + np)) = (2 * (mq + np)) := IntWalk.i64_in _ ⟨by omega, by omega⟩
  have w_13 : IntKind.i64.wrap (nk - mp) = (nk - mp) := IntWalk.i64_in _ ⟨by omega, by omega⟩
  have w_14 : IntKind.i64.wrap (2 * (nk - mp)) = (2 * (nk - mp)) := IntWalk.i64_in _ ⟨by omega, by omega⟩
  have hz : decide ([m, n, p, q] = [(0 : Int), 0, 0, 0]) = false := decide_eq_false (by simpa using h0)
  have hq4 : ∀ w1 : World, (Op.equalIn 10000 43 (.agg #[.int .i64 m, .int .i64 n, .int .i64 p, .int .i64 q]) (.agg #[.int .i64 0, .int .i64 0, .int .i64 0, .int .i64 0])).run Tryz.prog w1 = .ok false w1 := fun w1 => by rw [eq_four4, hz]
  have r1 := rangeErr_in hm.1 hm.2
  have r2 := rangeErr_in hn.1 hn.2
  have r3 := rangeErr_in hp.1 hp.2
  have r4 := rangeErr_in hq.1 hq.2
  have KM : Hid (∀ (w1 : World) (b : Nat), w1.heap[b]? = some (.cells #[.int .i64 m, .int .i64 n, .int .i64 p, .int .i64 q] 43 (0, 0)) → Calls Tryz.prog 65 #[.slice (some ⟨b, 0, none⟩) 4 4, .func (.func 66) #[] #[]] w1 fun e w' =>
      ∃ g, e = .returned (.slice (some ⟨g, 0, none⟩) 4 4) ∧ Hid (∀ j, j < 4 → w'.cell? ⟨g, 0 + j, none⟩ = some (.int .i64 (([0, 0, 0, 0] : List Int)[j]?.getD 0))) ∧ Below w1.heap.size w1 w') := Lib.hid fun w1 b hb => by
    obtain ⟨x0, x1, x2, x3⟩ := cells4 hb
    refine (mapped_roots b 0 4 4 [m, n, p, q] [0, 0, 0, 0] rfl rfl (by omega) (lt_of_blk hb) (fun j hj => ?_) (fun j hj => ?_)).mono fun e w' ⟨he, hown, hbl⟩ => ⟨_, he, Lib.hid fun j hj => ?_, hbl⟩
    · match j, hj with
      | 0, _ => exact x0
      | 1, _ => exact x1
      | 2, _ => exact x2
      | 3, _ => exact x3
    · match j, hj with
      | 0, _ => exact r1
      | 1, _ => exact r2
      | 2, _ => exact r3
      | 3, _ => exact r4
    · rw [Nat.zero_add]
      match j, hj with
      | 0, _ => exact owns_cell hown (j := 0) (v := .int .i64 0) rfl
      | 1, _ => exact owns_cell hown (j := 1) (v := .int .i64 0) rfl
      | 2, _ => exact owns_cell hown (j := 2) (v := .int .i64 0) rfl
      | 3, _ => exact owns_cell hown (j := 3) (v := .int .i64 0) rfl
  have KF : Hid (∀ (w1 : World) (b : Nat), (∀ j, j < 4 → w1.cell? ⟨b, 0 + j, none⟩ = some (.int .i64 (([0, 0, 0, 0] : List Int)[j]?.getD 0))) → Calls Tryz.prog 42 #[.slice (some ⟨b, 0, none⟩) 4 4] w1 fun e w' => e = .returned (.int .i64 0) ∧ w1 = w') := Lib.hid fun w1 b h => first_any b 0 4 4 [0, 0, 0, 0] rfl (by omega) w1 h
  clear r1 r2 r3 r4 hz h0 hm hn hp hq f_mm f_nn f_pp f_qq f_mq f_np f_nk f_mp 
  obtain ⟨W0, hW0⟩ : ∃ W0, ((w.alloc (.cells #[.int .i64 m, .int .i64 n, .int .i64 p, .int .i64 q] 43)).alloc (.cells #[.int .i64 0, .int .i64 0, .int .i64 0] 23)) = W0 := ⟨_, rfl⟩
  have K0 : Hid (Kp w W0 [(w.heap.size + 1, (.cells #[.int .i64 0, .int .i64 0, .int .i64 0] 23 (0, 0))), (w.heap.size, (.cells #[.int .i64 m, .int .i64 n, .int .i64 p, .int .i64 q] 43 (0, 0)))]) := Lib.hid (by
    rw [← hW0]
    have k := (((Kp.none w).alloc (.cells #[.int .i64 m, .int .i64 n, .int .i64 p, .int .i64 q] 43)).alloc (.cells #[.int .i64 0, .int .i64 0, .int .i64 0] 23))
    simpa using k)
  obtain ⟨x0, x1, x2, x3⟩ := cells4 (K0.out.2 _ (.tail _ (.head _)))
  have hB4 : W0.heap[w.heap.size]? = some (.cells #[.int .i64 m, .int .i64 n, .int .i64 p, .int .i64 q] 43 (0, 0)) := K0.out.2 _ (.tail _ (.head _))
  go_enter Tryz.func18, Tryz.ntmps18
  go_upto_region 1 with fail
  try rw [hW0]
  clear hW0
  go_upto_region 7 with (first
    | (go_at_call 65; (with_reducible refine (KM.out _ _ hB4).mono ?_); rintro e w1 ⟨g, rfl, hg, hb⟩; have K1 := Lib.hid (K0.out.call hb); clear hb x0 x1 x2 x3 hB4 K0; obtain ⟨x0, x1, x2, x3⟩ := cells4 (K1.out.2 _ (.tail _ (.head _))))
    | (go_at_call 42; (with_reducible refine (KF.out _ _ hg.out).mono ?_); rintro e w2 ⟨rfl, rfl⟩))
  obtain ⟨o0, o1, o2⟩ := cells3 (K1.out.2 _ (.head _))
  have oz : ∀ j, w1.frozen? ⟨w.heap.size + 1, j, none⟩ = false := fun j => frozen_of_row w1 (w.heap.size + 1) j _ _ (K1.out.2 _ (.head _))
  have hb1 := Lib.hid (Kp.below K1.out)
  clear K1 hg KM KF
  go_quiet (fail)
  go_wp2_with fail
  refine bodyPost_ret (v := .tuple #[.agg #[.int .i64 (mm + nn - pp - qq), .int .i64 (2 * (mq + np)), .int .i64 (2 * (nk - mp))], .int .i64 0]) (by simp [results, Tryz.results18, go_sem, o0, o1, o2]) rfl ⟨rfl, ?_⟩
  exact (((below_drewN hb1.out _).setCell (show w.heap.size ≤ w.heap.size + 1 by omega) _).setCell (show w.heap.size ≤ w.heap.size + 1 by omega) _).setCell (show w.heap.size ≤ w.heap.size + 1 by omega) _
end Go.Proofs.YtggffhmdgceljaaGreatDoor

/-
  A law for a statement whose order Go leaves open, some of whose operations make blocks, guards and all.
-/
namespace Go.Proofs.YtggffhmdgceljaaGreatDoor
open Go.RowKit
set_option linter.unusedVariables false
set_option linter.unusedSimpArgs false

section
variable {P : Program} {ops : Array Oper} {S : World → Prop}
/-- As wp_region_pure, where the operations of the list A make blocks: R is what is known of an address. -/
theorem wp_region_mades2 {id : Nat} {Q : Exit → Act → World → Prop} {a : Act} {w : World} {l : List Oper} (n : Nat) (A : List Nat) (S : World → Prop) (R : Nat → Value → World → Prop) (val : Nat → Value) (hm : P.follows .mixedOrders = true) (hB : pureB l.toArray n = true) (hk : ∀ k ∈ A, k < n)
    (hR : ∀ k v w w', R k v w → Below w.heap.size w w' → R k v w')
    (hS : S w.drew) (hW : ∀ (V : Nat → Value) k o, (∀ j, j ∉ A → V j = val j) → k ∈ A → l[k]? = some o → Region.wanted o (yielded l.toArray (putJs l.toArray V (List.range n) a).tmps) = true)
    (hA : ∀ k o b w, k ∈ A → l[k]? = some o → Region.wanted o (yielded l.toArray b.tmps) = true → (∃ V : Nat → Value, (∀ j, j ∉ A → V j = val j) ∧ execOp b.eval o = execOp (putJs l.toArray V (List.range n) a).eval o) → S w → wpOp P l.toArray Q k (fun c w' => ∃ v, c = b.put o.dst v ∧ S w' ∧ Below w.heap.size w w' ∧ R k v w' ∧ ∀ k' v', R k' v' w → v' ≠ v) b w)
    (h : ∀ (V : Nat → Value) (T : World → Prop) (i : Nat) (o : Oper), (∀ j, j ∉ A → V j = val j) → (∀ w w', T w → Below w.heap.size w w' → T w') → (∀ k ∈ A, Region.waitsFor .any l.toArray i k = true → ∀ w, T w → R k (V k) w) → i < n → i ∉ A → l[i]? = some o → YieldsW P l.toArray (fun w => S w ∧ T w) o (val i) (putJs l.toArray V (List.range n) a))
    (ht : ∀ (V : Nat → Value) w', (∀ j, j ∉ A → V j = val j) → S w' → (∀ k ∈ A, R k (V k) w') → (∀ k ∈ A, ∀ k' ∈ A, k ≠ k' → V k ≠ V k') → wpList P l.toArray Q (l.drop n) (putJs l.toArray V (List.range n) a) w') : (Code.region id l.toArray true).wp P Q a w := by
  simp only [pureB, Bool.and_eq_true, decide_eq_true_eq] at hB
  obtain ⟨⟨⟨⟨⟨⟨hsel, hn⟩, hs⟩, hc⟩, hab⟩, hord⟩, hseq⟩ := hB
  have hn' : n < l.length := by simpa using hn
  have hdst : ∀ i j, i < n → j < n → i ≠ j → dstB l.toArray i j = true := fun i j hi hj hij => by
    have h1 := List.all_eq_true.1 (List.all_eq_true.1 hab i (List.mem_range.2 hi)) j (List.mem_range.2 hj)
    simp only [Bool.and_eq_true, Bool.or_eq_true, beq_iff_eq] at h1
    exact h1.1.resolve_left hij
  have hlook : ∀ i j, i < n → j < n → lookB l.toArray i j = true ∨ (i ≠ j ∧ Region.waitsFor .any l.toArray i j = true) := fun i j hi hj => by
    have h1 := List.all_eq_true.1 (List.all_eq_true.1 hab i (List.mem_range.2 hi)) j (List.mem_range.2 hj)
    simp only [Bool.and_eq_true, Bool.or_eq_true, beq_iff_eq, bne_iff_ne, ne_eq] at h1
    exact h1.2
  have hbef : ∀ i o, i < n → l.toArray[i]? = some o → ∀ e ∈ o.after, Region.binds .any e = true → e.on < i := fun i o hi ho e he hb => by
    have h1 := List.all_eq_true.1 hord i (List.mem_range.2 hi)
    rw [ho] at h1
    have h2 := Array.all_eq_true_iff_forall_mem.1 h1 e he
    rw [hb] at h2
    simpa using h2
  have key : ∀ (f : Nat) (listed : Array Bool) (b : Act) (w' : World), HeadInv .any l.toArray n listed → (unJs n listed).length = f → (∃ V : Nat → Value, (∀ j, j ∉ A → V j = val j) ∧ b = putJs l.toArray V (hdJs n listed) a ∧ S w' ∧ (∀ k ∈ A, listed.getD k false = true → R k (V k) w') ∧ (∀ k ∈ A, ∀ k' ∈ A, k ≠ k' → listed.getD k false = true → listed.getD k' false = true → V k ≠ V k')) →
      wpAny P .any l.toArray Q (f + (l.toArray.size - n)) listed b w' := by
    intro f
    induction f with
    | zero =>
      intro listed b w' inv hu ⟨V, hV, hb, hSw, hRw, hD⟩
      have hnil : unJs n listed = [] := List.length_eq_zero_iff.1 hu
      have hall : ∀ i, i < n → listed.getD i false = true := fun i hi => by
        cases hg : listed.getD i false with
        | true => rfl
        | false =>
          have : i ∈ unJs n listed := List.mem_filter.2 ⟨List.mem_range.2 hi, by rw [hg]; rfl⟩
          rw [hnil] at this
          cases this
      have hlist : listed = Array.replicate n true ++ Array.replicate (l.toArray.size - n) false := by
        have hsz := inv.size
        apply Array.ext
        · simp at hsz ⊢; omega
        · intro i h1 h2
          by_cases hi : i < n
          · have := hall i hi
            rw [Array.getElem_append_left (by simpa using hi)]
            simp [Array.getD, h1] at this ⊢
            exact this
          · have := inv.tail i (by omega) (by rw [← hsz]; exact h1)
            rw [Array.getElem_append_right (by simp; omega)]
            simp [Array.getD, h1] at this ⊢
            exact this
      have hbF : b = putJs l.toArray V (List.range n) a := by
        rw [hb]
        congr 1
        exact List.filter_eq_self.2 fun i hi => hall i (List.mem_range.1 hi)
      rw [Nat.zero_add, hbF]
      have h3 := wpAny_of_seq (md := .any) (Q' := Q) (P := P) (ops := l.toArray) (l.drop n) n listed (putJs l.toArray V (List.range n) a) w' (fun j => by simp [List.getElem?_drop]) (by
        rw [hlist, show (l.drop n).length = l.toArray.size - n by simp]
        exact hseq) (ht V w' hV hSw (fun k hkA => hRw k hkA (hall k (hk k hkA))) (fun k h1 k' h2 h3 => hD k h1 k' h2 h3 (hall k (hk k h1)) (hall k' (hk k' h2))))
      rwa [show (l.drop n).length = l.toArray.size - n by simp] at h3
    | succ f ih =>
      intro listed b w' inv hu ⟨V, hV, hb, hSw, hRw, hD⟩
      have hsz := inv.size
      -- the first one that is not done is ready
      have hex : ∃ i, i < n ∧ listed.getD i false = false ∧ ∀ j, j < i → listed.getD j false = true := by
        have hne : unJs n listed ≠ [] := fun h0 => by rw [h0] at hu; simp at hu
        obtain ⟨i0, hi0⟩ := List.exists_mem_of_ne_nil _ hne
        have hi1 := List.mem_filter.1 hi0
        have hi2 : listed.getD i0 false = false := by simpa using hi1.2
        have hi3 := List.mem_range.1 hi1.1
        clear hi0 hi1 hne
        induction i0 using Nat.strongRecOn with
        | _ i0 ihm =>
          by_cases hx : ∃ j, j < i0 ∧ listed.getD j false = false
          · obtain ⟨j, hj, hjf⟩ := hx
            exact ihm j hj hjf (by omega)
          · refine ⟨i0, hi3, hi2, fun j hj => ?_⟩
            cases hg : listed.getD j false with
            | true => rfl
            | false => exact absurd ⟨j, hj, hg⟩ hx
      obtain ⟨i0, hi0, hu0, hlow⟩ := hex
      have hun0 : listed.getD i0 true = false := getD_in (by rw [hsz]; omega) hu0
      obtain ⟨o0, ho0⟩ : ∃ o, l.toArray[i0]? = some o := ⟨_, Array.getElem?_eq_getElem (by omega)⟩
      have hr0 : i0 ∈ Region.ready .any l.toArray listed := mem_ready.2 ⟨hun0, o0, ho0, fun e he hbd => hlow _ (hbef i0 o0 hi0 ho0 e he hbd)⟩
      rw [show f + 1 + (l.toArray.size - n) = (f + (l.toArray.size - n)) + 1 by omega]
      refine ⟨(fun h0 => by rw [h0] at hr0; cases hr0), fun i hi => ?_⟩
      have hin : i < n := by
        rcases Nat.lt_or_ge i n with hlt | hge
        · exact hlt
        · exact absurd hi (tail_waits hs hc hn inv _ i0 rfl hi0 hun0 i hge)
      obtain ⟨hun, o, ho, hall⟩ := mem_ready.1 hi
      have huf : listed.getD i false = false := getD_both hun
      have hlen : (unJs n (listed.setIfInBounds i true)).length = f := by
        have hperm : (i :: unJs n (listed.setIfInBounds i true)).Perm (unJs n listed) := by
          refine (List.perm_ext_iff_of_nodup ?_ ?_).2 fun x => ?_
          · refine List.nodup_cons.2 ⟨fun hx => ?_, List.nodup_range.filter _⟩
            have := (List.mem_filter.1 hx).2
            rw [set_get (by rw [hsz]; omega)] at this
            simp at this
          · exact List.nodup_range.filter _
          · constructor
            · intro hx
              rcases List.mem_cons.1 hx with rfl | hx
              · exact List.mem_filter.2 ⟨List.mem_range.2 hin, by rw [huf]; rfl⟩
              · have h1 := List.mem_filter.1 hx
                have h2 := h1.2
                rw [set_get (by rw [hsz]; omega)] at h2
                refine List.mem_filter.2 ⟨h1.1, ?_⟩
                by_cases hix : i = x
                · simp [hix] at h2
                · rw [if_neg hix] at h2; exact h2
            · intro hx
              have h1 := List.mem_filter.1 hx
              by_cases hix : i = x
              · subst hix; exact .head _
              · refine .tail _ (List.mem_filter.2 ⟨h1.1, ?_⟩)
                rw [set_get (by rw [hsz]; omega), if_neg hix]
                exact h1.2
        have := hperm.length_eq
        simp at this
        omega
      have hput : ∀ V : Nat → Value, (putJs l.toArray V (hdJs n listed) a).put o.dst (V i) = putJs l.toArray V (hdJs n (listed.setIfInBounds i true)) a := fun V => by
        have hperm : (hdJs n listed ++ [i]).Perm (hdJs n (listed.setIfInBounds i true)) := by
          refine (List.perm_ext_iff_of_nodup ?_ ?_).2 fun x => ?_
          · refine List.nodup_append.2 ⟨List.nodup_range.filter _, by simp, fun x hx y hy => ?_⟩
            have hy' : y = i := by simpa using hy
            subst hy'
            intro hxy
            subst hxy
            have := (List.mem_filter.1 hx).2
            rw [huf] at this
            cases this
          · exact List.nodup_range.filter _
          · constructor
            · intro hx
              rcases List.mem_append.1 hx with hx | hx
              · have h1 := List.mem_filter.1 hx
                refine List.mem_filter.2 ⟨h1.1, ?_⟩
                rw [set_get (by rw [hsz]; omega)]
                split
                · rfl
                · exact h1.2
              · have hx' : x = i := by simpa using hx
                subst hx'
                refine List.mem_filter.2 ⟨List.mem_range.2 hin, ?_⟩
                rw [set_get (by rw [hsz]; omega), if_pos rfl]
            · intro hx
              have h1 := List.mem_filter.1 hx
              by_cases hix : i = x
              · subst hix; exact List.mem_append.2 (.inr (.head _))
              · refine List.mem_append.2 (.inl (List.mem_filter.2 ⟨h1.1, ?_⟩))
                have h2 := h1.2
                rwa [set_get (by rw [hsz]; omega), if_neg hix] at h2
        have e1 : (putJs l.toArray V (hdJs n listed) a).put o.dst (V i) = putJs l.toArray V (hdJs n listed ++ [i]) a := by
          rw [putJs_append, putJs_cons, putJs_nil, ho]
          rfl
        rw [e1]
        refine putJs_perm hperm a fun x hx y hy hxy => ?_
        have m1 := hperm.mem_iff.1 hx
        have m2 := hperm.mem_iff.1 hy
        exact hdst x y (List.mem_range.1 (List.mem_filter.1 m1).1) (List.mem_range.1 (List.mem_filter.1 m2).1) hxy
      have hg' : ∀ k, (listed.setIfInBounds i true).getD k false = if i = k then true else listed.getD k false := fun k => set_get (by rw [hsz]; omega)
      have hF : putJs l.toArray V (List.range n) a = putJs l.toArray V (unJs n listed) b := by
        rw [hb, ← putJs_append]
        exact (putJs_perm (hd_un_perm n listed) a fun x hx y hy hxy => hdst x y (by have := (hd_un_perm n listed).mem_iff.1 hx; simpa using this) (by have := (hd_un_perm n listed).mem_iff.1 hy; simpa using this) hxy).symm
      have hex2 := exec_putJs (val := V) ho (Region.noSelect_spec hsel i o · · ho) (unJs n listed) b fun j hj => by
        have hj1 := List.mem_filter.1 hj
        have hj2 := List.mem_range.1 hj1.1
        rcases hlook i j hin hj2 with h1 | ⟨hne, h1⟩
        · exact h1
        · obtain ⟨o', ho', e, he, hbd, hon⟩ := Region.waitsFor_spec h1
          have : o' = o := Option.some.inj (ho'.symm.trans ho)
          subst this
          have h2 := hall e he hbd
          rw [hon] at h2
          simp [h2] at hj1
      rw [← hF] at hex2
      have hzz : (putJs l.toArray V (List.range n) a).tmps.size = b.tmps.size := by rw [hF, putJs_size]
      by_cases hik : i ∈ A
      · refine wpOp_mono (fun c w'' hcw => ?_) (hA i o b w' hik (by simpa using ho) (hex2.2.symm.trans (hW V i o hV hik (by simpa using ho))) ⟨V, hV, hex2.1.symm⟩ hSw)
        obtain ⟨v', hc1, hS'', hb'', hR'', hfr⟩ := hcw
        refine ih _ c w'' (inv.set hi hin) hlen ⟨upd1 V i v', fun j hj => ?_, ?_, hS'', fun k hkA hkl => ?_, fun k h1 k' h2 h3 h4 h5 => ?_⟩
        · rw [upd1_ne _ _ (fun hji => hj (by rw [hji]; exact hik))]
          exact hV j hj
        · have hsame : putJs l.toArray V (hdJs n listed) a = putJs l.toArray (upd1 V i v') (hdJs n listed) a := putJs_congr _ a fun j hj => by
            have hj1 := (List.mem_filter.1 hj).2
            have hji : j ≠ i := fun hji => by rw [hji, huf] at hj1; cases hj1
            rw [upd1_ne _ _ hji]
          have h4 := hput (upd1 V i v')
          rw [upd1_self] at h4
          rw [hc1, hb, hsame, h4]
        · by_cases hki : k = i
          · subst hki
            rw [upd1_self]
            exact hR''
          · rw [upd1_ne _ _ hki]
            rw [hg', if_neg (Ne.symm hki)] at hkl
            exact hR _ _ _ _ (hRw k hkA hkl) hb''
        · rw [hg'] at h4 h5
          by_cases hki : k = i
          · subst hki
            have hk2 : k' ≠ k := Ne.symm h3
            rw [if_neg (Ne.symm hk2)] at h5
            rw [upd1_self, upd1_ne _ _ hk2]
            exact (hfr k' _ (hRw k' h2 h5)).symm
          · rw [if_neg (Ne.symm hki)] at h4
            rw [upd1_ne _ _ hki]
            by_cases hki2 : k' = i
            · subst hki2
              rw [upd1_self]
              exact hfr k _ (hRw k h1 h4)
            · rw [if_neg (Ne.symm hki2)] at h5
              rw [upd1_ne _ _ hki2]
              exact hD k h1 k' h2 h3 h4 h5
      · have hT : ∀ w w' : World, (∀ k ∈ A, listed.getD k false = true → R k (V k) w) → Below w.heap.size w w' → (∀ k ∈ A, listed.getD k false = true → R k (V k) w') := fun w w' h1 h2 k hkA hkl => hR _ _ _ _ (h1 k hkA hkl) h2
        refine wpOp_mono (fun c w'' hcw => ?_) ((h V (fun w => ∀ k ∈ A, listed.getD k false = true → R k (V k) w) i o hV hT (fun k hkA hwk w1 h1 => h1 k hkA (by
          obtain ⟨o', ho', e, he, hbd, hon⟩ := Region.waitsFor_spec hwk
          have : o' = o := Option.some.inj (ho'.symm.trans ho)
          subst this
          have h2 := hall e he hbd
          rw [hon] at h2
          exact h2)) hin hik (by simpa using ho)).wpOp ho hex2.1.symm hex2.2.symm hzz ⟨hSw, hRw⟩)
        obtain ⟨hc1, hS'', hR''⟩ := hcw
        have hne : ∀ k ∈ A, i ≠ k := fun k hkA hki => hik (by rw [hki]; exact hkA)
        refine ih _ c w'' (inv.set hi hin) hlen ⟨V, hV, ?_, hS'', fun k hkA hkl => ?_, fun k h1 k' h2 h3 h4 h5 => ?_⟩
        · have h4 := hput V
          rw [hV i hik] at h4
          rw [hc1, hb, h4]
        · rw [hg', if_neg (hne k hkA)] at hkl
          exact hR'' k hkA hkl
        · rw [hg', if_neg (hne k h1)] at h4
          rw [hg', if_neg (hne k' h2)] at h5
          exact hD k h1 k' h2 h3 h4 h5
  refine wp_region_any hm ?_
  have inv0 : HeadInv .any l.toArray n (Array.replicate l.toArray.size false) :=
    ⟨by simp, fun j oj _ hl => (by rw [getD_replicate_false] at hl; cases hl), fun t _ ht => getD_in (by simpa using ht) (getD_replicate_false _ _)⟩
  have h0 := key n (Array.replicate l.toArray.size false) a w.drew inv0 (by
    have : unJs n (Array.replicate l.toArray.size false) = List.range n := List.filter_eq_self.2 fun i _ => by rw [getD_replicate_false]; rfl
    rw [this]; simp) (by
    have : hdJs n (Array.replicate l.toArray.size false) = [] := List.filter_eq_nil_iff.2 fun i _ => by rw [getD_replicate_false]; simp
    exact ⟨val, fun _ _ => rfl, by rw [this]; rfl, hS, fun k _ h0 => (by rw [getD_replicate_false] at h0; cases h0), fun k _ k' _ _ h0 => (by rw [getD_replicate_false] at h0; cases h0)⟩)
  rw [show n + (l.toArray.size - n) = l.toArray.size by omega] at h0
  exact h0
def YieldsM (P : Program) (ops : Array Oper) (S : World → Prop) (a : Act) : List Bool → List Oper → List Value → Prop
  | true :: m, _ :: r, _ :: vs => YieldsM P ops S a m r vs
  | false :: m, o :: r, v :: vs => YieldsW P ops S o v a ∧ YieldsM P ops S a m r vs
  | [], [], [] => True
  | _, _, _ => False
theorem YieldsM.get {a : Act} : ∀ {m : List Bool} {l : List Oper} {vs : List Value}, YieldsM P ops S a m l vs → ∀ i o, m[i]? = some false → l[i]? = some o → YieldsW P ops S o (vs.getD i undef) a
  | true :: m, p :: r, v :: vs, hg, 0, o, hi, h => by simp at hi
  | true :: m, p :: r, v :: vs, hg, i + 1, o, hi, h => by
    have := YieldsM.get (show YieldsM P ops S a m r vs from hg) i o (by simpa using hi) (by simpa using h)
    simpa using this
  | false :: m, p :: r, v :: vs, hg, 0, o, _, h => by
    have : p = o := by simpa using h
    subst this
    exact hg.1
  | false :: m, p :: r, v :: vs, hg, i + 1, o, hi, h => by
    have := YieldsM.get hg.2 i o (by simpa using hi) (by simpa using h)
    simpa using this
  | [], _, _, _, _, _, hi, _ => by simp at hi
  | _ :: _, [], _, hg, _, _, _, h => by simp at h
  | true :: _, _ :: _, [], hg, _, _, _, _ => hg.elim
  | false :: _, _ :: _, [], hg, _, _, _, _ => hg.elim

/-- What is known of a made slice of one element. -/
def MadeS (wc : World) (Z : Array Value) (T : TypeId) (v : Value) (w : World) : Prop := ∃ B, v = .slice (some ⟨B, 0, none⟩) 1 1 ∧ wc.heap.size ≤ B ∧ w.heap[B]? = some (.cells Z T (0, 0))
theorem MadeS.kept {wc : World} {Z : Array Value} {T : TypeId} {v : Value} {w w' : World} (h : MadeS wc Z T v w) (hb : Below w.heap.size w w') : MadeS wc Z T v w' := by
  obtain ⟨B, h1, h2, h3⟩ := h
  exact ⟨B, h1, h2, (hb.block _ (lt_of_blk h3)).trans h3⟩
theorem MadeS.fresh {wc w : World} {Z : Array Value} {T : TypeId} {v : Value} (h : MadeS wc Z T v w) : v ≠ .slice (some ⟨w.heap.size, 0, none⟩) 1 1 := by
  obtain ⟨B, h1, h2, h3⟩ := h
  have h4 := lt_of_blk h3
  intro h5
  rw [h1] at h5
  injection h5 with h6
  injection h6 with h7
  injection h7 with h8
  omega

/-- Two operations of the head make slices of one element, each for a call behind it. -/
theorem wp_region_slices2 {id : Nat} {Q : Exit → Act → World → Prop} {a : Act} {aF : Value → Value → Act} {wc : World} {l : List Oper} (n k k2 c c2 : Nat) (m : List Bool) (Z Z2 : Array Value) (T T2 : TypeId) (vals : List Value) (o o2 p p2 : Oper) (hm : P.follows .mixedOrders = true) (hB : pureB l.toArray n = true)
    (hk : k < n ∧ k2 < n ∧ k ≠ k2 ∧ c ≠ k ∧ c ≠ k2 ∧ c2 ≠ k ∧ c2 ≠ k2 ∧ m = (List.range n).map fun i => i == k || i == k2 || i == c || i == c2)
    (hwt : Region.waitsFor .any l.toArray c k = true ∧ Region.waitsFor .any l.toArray c2 k2 = true)
    (ho : l[k]? = some o) (ho2 : l[k2]? = some o2) (hp : l[c]? = some p) (hp2 : l[c2]? = some p2)
    (haF : ∀ u v, putJs l.toArray (upd1 (upd1 (fun i => vals.getD i undef) k u) k2 v) (List.range n) a = aF u v)
    (hz : ∀ u v (w1 : World), (execOp (aF u v).eval o).run P w1 = .ok (.value (.slice (some ⟨w1.heap.size, 0, none⟩) 1 1)) (w1.alloc (.cells Z T)))
    (hz2 : ∀ u v (w1 : World), (execOp (aF u v).eval o2).run P w1 = .ok (.value (.slice (some ⟨w1.heap.size, 0, none⟩) 1 1)) (w1.alloc (.cells Z2 T2)))
    (hw : ∀ u v, Region.wanted o (yielded l.toArray (aF u v).tmps) = true ∧ Region.wanted o2 (yielded l.toArray (aF u v).tmps) = true)
    (h : ∀ u v Tt, Stable Tt → YieldsM P l.toArray (fun w => Blw wc.heap.size wc w ∧ Tt w) (aF u v) m (l.take n) vals)
    (hc : ∀ u v Tt, Stable Tt → (∀ w, Tt w → MadeS wc Z T u w) → YieldsW P l.toArray (fun w => Blw wc.heap.size wc w ∧ Tt w) p (vals.getD c undef) (aF u v))
    (hc2 : ∀ u v Tt, Stable Tt → (∀ w, Tt w → MadeS wc Z2 T2 v w) → YieldsW P l.toArray (fun w => Blw wc.heap.size wc w ∧ Tt w) p2 (vals.getD c2 undef) (aF u v))
    (ht : ∀ u v w', Blw wc.heap.size wc w' → wpList P l.toArray Q (l.drop n) (aF u v) w') : (Code.region id l.toArray true).wp P Q a wc := by
  obtain ⟨hk1, hk2, hkk, hck, hck2, hck3, hck4, hmm⟩ := hk
  have hV : ∀ V : Nat → Value, (∀ j, j ∉ [k, k2] → V j = vals.getD j undef) → putJs l.toArray V (List.range n) a = aF (V k) (V k2) := fun V hV => by
    rw [← haF]
    refine putJs_congr _ a fun j _ => ?_
    by_cases h2 : j = k2
    · subst h2; rw [upd1_self]
    · rw [upd1_ne _ _ h2]
      by_cases h1 : j = k
      · subst h1; rw [upd1_self]
      · rw [upd1_ne _ _ h1]
        exact hV j (by simp [h1, h2])
  have e1 : (if k2 = k then Z else Z2) = Z2 := if_neg (Ne.symm hkk)
  have e2 : (if k2 = k then T else T2) = T2 := if_neg (Ne.symm hkk)
  refine wp_region_mades2 n [k, k2] (fun w => Blw wc.heap.size wc w) (fun j v w => MadeS wc (if j = k then Z else Z2) (if j = k then T else T2) v w) (fun i => vals.getD i undef) hm hB (by simp; omega) (fun k v w w' => MadeS.kept) (show Below _ _ _ from (Below.refl _ _).drew) (fun V k' o' hV' hk' ho' => ?_) (fun k' o' b w1 hk' ho' hwn hex hS => ?_) (fun V Tt i o' hV' hT hR hi hik ho' => ?_) (fun V w' hV' hS hR hD => ?_)
  · rw [hV V hV']
    rcases (show k' = k ∨ k' = k2 by simpa using hk') with rfl | rfl
    · obtain rfl : o = o' := Option.some.inj (ho.symm.trans ho')
      exact (hw _ _).1
    · obtain rfl : o2 = o' := Option.some.inj (ho2.symm.trans ho')
      exact (hw _ _).2
  · obtain ⟨V, hV', hex⟩ := hex
    rw [hV V hV'] at hex
    unfold Go.wpOp
    simp only [show l.toArray[k']? = some o' by simpa using ho']
    rw [hwn]
    simp only [if_true]
    refine .inl ?_
    unfold Oper.wp
    rw [hex]
    rcases (show k' = k ∨ k' = k2 by simpa using hk') with rfl | rfl
    · obtain rfl : o = o' := Option.some.inj (ho.symm.trans ho')
      rw [hz]
      refine ⟨_, rfl, below_allocS (show Below _ _ _ from hS) _, below_allocS (Below.refl _ _) _, ⟨w1.heap.size, rfl, (show Below _ _ _ from hS).size, ?_⟩, fun k' v' h' => MadeS.fresh h'⟩
      rw [if_pos rfl, if_pos rfl]
      exact blk_alloc_new _ _
    · obtain rfl : o2 = o' := Option.some.inj (ho2.symm.trans ho')
      rw [hz2]
      refine ⟨_, rfl, below_allocS (show Below _ _ _ from hS) _, below_allocS (Below.refl _ _) _, ⟨w1.heap.size, rfl, (show Below _ _ _ from hS).size, ?_⟩, fun k' v' h' => MadeS.fresh h'⟩
      rw [e1, e2]
      exact blk_alloc_new _ _
  · rw [hV V hV']
    by_cases hc1 : i = c
    · subst hc1
      obtain rfl : p = o' := Option.some.inj (hp.symm.trans ho')
      refine hc (V k) (V k2) Tt hT fun w h1 => ?_
      have h2 := hR k (by simp) hwt.1 w h1
      rwa [if_pos rfl, if_pos rfl] at h2
    · by_cases hc3 : i = c2
      · subst hc3
        obtain rfl : p2 = o' := Option.some.inj (hp2.symm.trans ho')
        refine hc2 (V k) (V k2) Tt hT fun w h1 => ?_
        have h2 := hR k2 (by simp) hwt.2 w h1
        rwa [e1, e2] at h2
      · refine (h (V k) (V k2) Tt hT).get i o' ?_ (by rw [List.getElem?_take]; simp [hi, ho'])
        rw [hmm, List.getElem?_map, List.getElem?_range hi]
        simp at hik
        simp [hik, hc1, hc3]
  · rw [hV V hV']
    exact ht _ _ w' hS
end
end Go.Proofs.YtggffhmdgceljaaGreatDoor

/-
  Contracts of the reference's divisors of all integers, and of chapter 2's checks of rays, dot products and multiples.
-/
namespace Go.Proofs.YtggffhmdgceljaaGreatDoor
open Go.RowKit
set_option linter.unusedVariables false
set_option linter.unusedSimpArgs false

/-- The greatest common divisor, and 1 if both are 0. -/
def divR (a b : Int) : Int := if Int.gcd a b = 0 then 1 else (Int.gcd a b : Int)
theorem divR_of {a b g : Int} (h : (Int.gcd a b : Int) = g) : divR a b = if g = 0 then 1 else g := by
  unfold divR
  by_cases h0 : Int.gcd a b = 0
  · rw [if_pos h0, if_pos (by omega)]
  · rw [if_neg h0, if_neg (by omega), h]
set_option maxHeartbeats 3200000 in
theorem refDivisor_all (a b : Int) (ha : -4611686018427387904 ≤ a ∧ a ≤ 4611686018427387904) (hb : -4611686018427387904 ≤ b ∧ b ≤ 4611686018427387904) (w : World) :
    Calls Tryz.prog 85 #[.int .i64 a, .int .i64 b] w fun e w' => e = .returned (.int .i64 (divR a b)) ∧ w = w' := by
  by_cases h : a < 0
  · obtain ⟨a1, ea⟩ : ∃ a1, (0 : Int) - a = a1 := ⟨_, rfl⟩
    have ha1 : 0 ≤ a1 ∧ a1 ≤ 4611686018427387904 := by omega
    by_cases h2 : b < 0
    · obtain ⟨b1, eb⟩ : ∃ b1, (0 : Int) - b = b1 := ⟨_, rfl⟩
      have hb1 : 0 ≤ b1 ∧ b1 ≤ 4611686018427387904 := by omega
      have HG1 : Hid (Int.gcd a1 b1 = Int.gcd a b) := Lib.hid (by rw [← ea, ← eb, Int.zero_sub, Int.zero_sub, Int.neg_gcd, Int.gcd_neg])
      go_enter Tryz.func85, Tryz.ntmps85
      go_wp2_with fail
      go_loop [0, 1] (fun x y => ∃ a' b' : Int, x = .int .i64 a' ∧ y = .int .i64 b' ∧ (0 ≤ a' ∧ a' ≤ 4611686018427387904) ∧ (0 ≤ b' ∧ b' ≤ 4611686018427387904) ∧ Hid (Int.gcd a' b' = Int.gcd a b)) (fun _ y => (intOf y).natAbs)
      case atStart => exact ⟨a1, b1, rfl, rfl, ha1, hb1, HG1⟩
      case round =>
        obtain ⟨a', b', rfl, rfl, ha', hb', hg⟩ := hrel
        clear hb ha1 hb1
        by_cases h0 : b' = 0
        · have HG : Hid ((Int.gcd a b : Int) = a') := Lib.hid (by rw [← hg.out, h0, gcd_zero]; omega)
          have HD := Lib.hid (divR_of HG.out)
          subst h0
          clear hg
          by_cases hz : a' = 0
          · have e0 : (a' == 0) = true := by simp [hz]
            rw [if_pos hz] at HD
            go_wp2
            go_ret
            exact ⟨ret_int HD.out.symm, rfl⟩
          · have e0 : (a' == 0) = false := by simp [hz]
            rw [if_neg hz] at HD
            go_wp2
            go_ret
            exact ⟨ret_int HD.out.symm, rfl⟩
        · have e0 : (b' != 0) = true := by simp [h0]
          have em : a'.tmod b' = a' % b' := Int.tmod_eq_emod_of_nonneg ha'.1
          have hn := tmod_small a' b' h0
          have hb2 : 0 ≤ a' % b' ∧ a' % b' ≤ 4611686018427387904 := by
            have := Int.emod_nonneg a' h0
            rw [em] at hn
            omega
          have hg2 := Lib.hid ((gcd_step a' b').trans hg.out)
          rw [em] at hg2 hn
          clear hg em
          go_wp2
          go_round
          case rel => exact ⟨b', a' % b', rfl, rfl, hb', hb2, hg2⟩
          case measure => exact hn
    · have hb1 : 0 ≤ b ∧ b ≤ 4611686018427387904 := by omega
      have HG1 : Hid (Int.gcd a1 b = Int.gcd a b) := Lib.hid (by rw [← ea, Int.zero_sub, Int.neg_gcd])
      go_enter Tryz.func85, Tryz.ntmps85
      go_wp2_with fail
      go_loop [0, 1] (fun x y => ∃ a' b' : Int, x = .int .i64 a' ∧ y = .int .i64 b' ∧ (0 ≤ a' ∧ a' ≤ 4611686018427387904) ∧ (0 ≤ b' ∧ b' ≤ 4611686018427387904) ∧ Hid (Int.gcd a' b' = Int.gcd a b)) (fun _ y => (intOf y).natAbs)
      case atStart => exact ⟨a1, b, rfl, rfl, ha1, hb1, HG1⟩
      case round =>
        obtain ⟨a', b', rfl, rfl, ha', hb', hg⟩ := hrel
        clear hb ha1 hb1
        by_cases h0 : b' = 0
        · have HG : Hid ((Int.gcd a b : Int) = a') := Lib.hid (by rw [← hg.out, h0, gcd_zero]; omega)
          have HD := Lib.hid (divR_of HG.out)
          subst h0
          clear hg
          by_cases hz : a' = 0
          · have e0 : (a' == 0) = true := by simp [hz]
            rw [if_pos hz] at HD
            go_wp2
            go_ret
            exact ⟨ret_int HD.out.symm, rfl⟩
          · have e0 : (a' == 0) = false := by simp [hz]
            rw [if_neg hz] at HD
            go_wp2
            go_ret
            exact ⟨ret_int HD.out.symm, rfl⟩
        · have e0 : (b' != 0) = true := by simp [h0]
          have em : a'.tmod b' = a' % b' := Int.tmod_eq_emod_of_nonneg ha'.1
          have hn := tmod_small a' b' h0
          have hb2 : 0 ≤ a' % b' ∧ a' % b' ≤ 4611686018427387904 := by
            have := Int.emod_nonneg a' h0
            rw [em] at hn
            omega
          have hg2 := Lib.hid ((gcd_step a' b').trans hg.out)
          rw [em] at hg2 hn
          clear hg em
          go_wp2
          go_round
          case rel => exact ⟨b', a' % b', rfl, rfl, hb', hb2, hg2⟩
          case measure => exact hn
  · have ha1 : 0 ≤ a ∧ a ≤ 4611686018427387904 := by omega
    by_cases h2 : b < 0
    · obtain ⟨b1, eb⟩ : ∃ b1, (0 : Int) - b = b1 := ⟨_, rfl⟩
      have hb1 : 0 ≤ b1 ∧ b1 ≤ 4611686018427387904 := by omega
      have HG1 : Hid (Int.gcd a b1 = Int.gcd a b) := Lib.hid (by rw [← eb, Int.zero_sub, Int.gcd_neg])
      go_enter Tryz.func85, Tryz.ntmps85
      go_wp2_with fail
      go_loop [0, 1] (fun x y => ∃ a' b' : Int, x = .int .i64 a' ∧ y = .int .i64 b' ∧ (0 ≤ a' ∧ a' ≤ 4611686018427387904) ∧ (0 ≤ b' ∧ b' ≤ 4611686018427387904) ∧ Hid (Int.gcd a' b' = Int.gcd a b)) (fun _ y => (intOf y).natAbs)
      case atStart => exact ⟨a, b1, rfl, rfl, ha1, hb1, HG1⟩
      case round =>
        obtain ⟨a', b', rfl, rfl, ha', hb', hg⟩ := hrel
        clear hb ha1 hb1
        by_cases h0 : b' = 0
        · have HG : Hid ((Int.gcd a b : Int) = a') := Lib.hid (by rw [← hg.out, h0, gcd_zero]; omega)
          have HD := Lib.hid (divR_of HG.out)
          subst h0
          clear hg
          by_cases hz : a' = 0
          · have e0 : (a' == 0) = true := by simp [hz]
            rw [if_pos hz] at HD
            go_wp2
            go_ret
            exact ⟨ret_int HD.out.symm, rfl⟩
          · have e0 : (a' == 0) = false := by simp [hz]
            rw [if_neg hz] at HD
            go_wp2
            go_ret
            exact ⟨ret_int HD.out.symm, rfl⟩
        · have e0 : (b' != 0) = true := by simp [h0]
          have em : a'.tmod b' = a' % b' := Int.tmod_eq_emod_of_nonneg ha'.1
          have hn := tmod_small a' b' h0
          have hb2 : 0 ≤ a' % b' ∧ a' % b' ≤ 4611686018427387904 := by
            have := Int.emod_nonneg a' h0
            rw [em] at hn
            omega
          have hg2 := Lib.hid ((gcd_step a' b').trans hg.out)
          rw [em] at hg2 hn
          clear hg em
          go_wp2
          go_round
          case rel => exact ⟨b', a' % b', rfl, rfl, hb', hb2, hg2⟩
          case measure => exact hn
    · have hb1 : 0 ≤ b ∧ b ≤ 4611686018427387904 := by omega
      go_enter Tryz.func85, Tryz.ntmps85
      go_wp2_with fail
      go_loop [0, 1] (fun x y => ∃ a' b' : Int, x = .int .i64 a' ∧ y = .int .i64 b' ∧ (0 ≤ a' ∧ a' ≤ 4611686018427387904) ∧ (0 ≤ b' ∧ b' ≤ 4611686018427387904) ∧ Hid (Int.gcd a' b' = Int.gcd a b)) (fun _ y => (intOf y).natAbs)
      case atStart => exact ⟨a, b, rfl, rfl, ha1, hb1, Lib.hid rfl⟩
      case round =>
        obtain ⟨a', b', rfl, rfl, ha', hb', hg⟩ := hrel
        clear hb ha1 hb1
        by_cases h0 : b' = 0
        · have HG : Hid ((Int.gcd a b : Int) = a') := Lib.hid (by rw [← hg.out, h0, gcd_zero]; omega)
          have HD := Lib.hid (divR_of HG.out)
          subst h0
          clear hg
          by_cases hz : a' = 0
          · have e0 : (a' == 0) = true := by simp [hz]
            rw [if_pos hz] at HD
            go_wp2
            go_ret
            exact ⟨ret_int HD.out.symm, rfl⟩
          · have e0 : (a' == 0) = false := by simp [hz]
            rw [if_neg hz] at HD
            go_wp2
            go_ret
            exact ⟨ret_int HD.out.symm, rfl⟩
        · have e0 : (b' != 0) = true := by simp [h0]
          have em : a'.tmod b' = a' % b' := Int.tmod_eq_emod_of_nonneg ha'.1
          have hn := tmod_small a' b' h0
          have hb2 : 0 ≤ a' % b' ∧ a' % b' ≤ 4611686018427387904 := by
            have := Int.emod_nonneg a' h0
            rw [em] at hn
            omega
          have hg2 := Lib.hid ((gcd_step a' b').trans hg.out)
          rw [em] at hg2 hn
          clear hg em
          go_wp2
          go_round
          case rel => exact ⟨b', a' % b', rfl, rfl, hb', hb2, hg2⟩
          case measure => exact hn

set_option maxRecDepth 100000 in
set_option maxHeartbeats 6400000 in
theorem refWithin_all (x y z L : Int) (hL : 0 ≤ L ∧ L ≤ 1048576) (w : World) :
    Calls Tryz.prog 51 #[.agg #[.int .i64 x, .int .i64 y, .int .i64 z], .int .i64 L] w fun e w' => e = .returned (.int .i64 (vectorErrL L x y z)) ∧ Below w.heap.size w w' := by
  obtain ⟨ex, hx⟩ : ∃ e : Int, rangeErr x (-L) L = e := ⟨_, rfl⟩
  obtain ⟨ey, hy⟩ : ∃ e : Int, rangeErr y (-L) L = e := ⟨_, rfl⟩
  obtain ⟨ez, hz⟩ : ∃ e : Int, rangeErr z (-L) L = e := ⟨_, rfl⟩
  have Kx : Hid (∀ w1 : World, Calls Tryz.prog 50 #[.int .i64 x, .int .i64 (-L), .int .i64 L] w1 fun e w' => e = .returned (.int .i64 ex) ∧ w1 = w') := Lib.hid fun w1 => by
    have h := refCheckRange_any x (-L) L w1
    rwa [hx] at h
  have Ky : Hid (∀ w1 : World, Calls Tryz.prog 50 #[.int .i64 y, .int .i64 (-L), .int .i64 L] w1 fun e w' => e = .returned (.int .i64 ey) ∧ w1 = w') := Lib.hid fun w1 => by
    have h := refCheckRange_any y (-L) L w1
    rwa [hy] at h
  have Kz : Hid (∀ w1 : World, Calls Tryz.prog 50 #[.int .i64 z, .int .i64 (-L), .int .i64 L] w1 fun e w' => e = .returned (.int .i64 ez) ∧ w1 = w') := Lib.hid fun w1 => by
    have h := refCheckRange_any z (-L) L w1
    rwa [hz] at h
  unfold vectorErrL
  rw [hx, hy, hz]
  obtain ⟨E, hE⟩ : ∃ E : Int, firstNZ [ex, ey, ez] = E := ⟨_, rfl⟩
  have KF : Hid (∀ (w1 : World) (b : Nat), (∀ j, j < 3 → w1.cell? ⟨b, 0 + j, none⟩ = some (.int .i64 (([ex, ey, ez] : List Int)[j]?.getD 0))) → Calls Tryz.prog 49 #[.slice (some ⟨b, 0, none⟩) 3 3] w1 fun e w' => e = .returned (.int .i64 E) ∧ w1 = w') := Lib.hid fun w1 b h => by
    have k := refFirst_any b 0 3 3 [ex, ey, ez] rfl (by omega) w1 h
    rwa [hE] at k
  rw [hE]
  have wl : IntKind.i64.wrap (0 - L) = -L := by rw [Int.zero_sub]; exact IntWalk.i64_in _ ⟨by omega, by omega⟩
  have wl2 : IntKind.i64.wrap (-L) = -L := IntWalk.i64_in _ ⟨by omega, by omega⟩
  clear hx hy hz hE hL
  obtain ⟨W0, hW0⟩ : ∃ W0, (w.alloc (.cells #[.int .i64 x, .int .i64 y, .int .i64 z] 23)) = W0 := ⟨_, rfl⟩
  have K0 : Hid (Kp w W0 [(w.heap.size, (.cells #[.int .i64 x, .int .i64 y, .int .i64 z] 23 (0, 0)))]) := Lib.hid (by
    rw [← hW0]
    have k := ((Kp.none w).alloc (.cells #[.int .i64 x, .int .i64 y, .int .i64 z] 23))
    simpa using k)
  go_enter Tryz.func51, Tryz.ntmps51
  go_upto_region 1 with fail
  try rw [hW0]
  clear hW0
  apply wp_region_gives 18 (fun w' => Blw W0.heap.size W0 w') [.pointer (some ⟨w.heap.size, 0, none⟩), .int .i64 x, .int .i64 L, .int .i64 (-L), .int .i64 L, .int .i64 ex, .pointer (some ⟨w.heap.size, 1, none⟩), .int .i64 y, .int .i64 L, .int .i64 (-L), .int .i64 L, .int .i64 ey, .pointer (some ⟨w.heap.size, 2, none⟩), .int .i64 z, .int .i64 L, .int .i64 (-L), .int .i64 L, .int .i64 ez] (by kernel_rfl) (by kernel_rfl) (by kernel_rfl) (show Below _ _ _ from (Below.refl _ _).drew)
  case haF =>
    simp [putJs, Act.put, List.range, List.range.loop]
    exact rfl
  case h =>
    have hBq := K0.out.2 _ (.head _)
    simp only [List.take_succ_cons, List.take_zero, GivesL]
    clear K0
    refine ⟨?_, ?_, ?_, ?_, ?_, ?_, ?_, ?_, ?_, ?_, ?_, ?_, ?_, ?_, ?_, ?_, ?_, ?_, trivial⟩
    all_goals
      intro w1 hw1
      obtain ⟨q_0, q_1, q_2⟩ := cells3 (((show Below _ _ _ from hw1).block _ (lt_of_blk hBq)).trans hBq)
      unfold Oper.wp
      simp only [execOp]
      go_simp <;> first
        | exact ⟨rfl, hw1⟩
        | ((with_reducible refine (Kx.out _).mono ?_); rintro e w2 ⟨rfl, rfl⟩; exact ⟨rfl, hw1⟩)
        | ((with_reducible refine (Ky.out _).mono ?_); rintro e w2 ⟨rfl, rfl⟩; exact ⟨rfl, hw1⟩)
        | ((with_reducible refine (Kz.out _).mono ?_); rintro e w2 ⟨rfl, rfl⟩; exact ⟨rfl, hw1⟩)
  case ht =>
    intro w2 hw5
    have K2 := Lib.hid (K0.out.call (show Below _ _ _ from hw5))
    clear hw5 K0
    simp only [List.drop_succ_cons, List.drop_zero]
    go_wp2_with (first
      | (go_at_call 49; (with_reducible refine (KF.out _ _ ?_).mono ?_); rotate_left 1; rintro e w6 ⟨rfl, rfl⟩; rotate_left 1; (intro j hj; match j, hj with | 0, _ => simp [go_sem] | 1, _ => simp [go_sem] | 2, _ => simp [go_sem])))
    go_ret
    exact ⟨rfl, (Kp.below K2.out).alloc (Kp.below K2.out).size _⟩

set_option maxRecDepth 100000 in
set_option maxHeartbeats 6400000 in
theorem refCheckRay_all (x y z : Int) (w : World) :
    Calls Tryz.prog 11 #[.agg #[.int .i64 x, .int .i64 y, .int .i64 z]] w fun e w' => e = .returned (.int .i64 (rayErr x y z)) ∧ Below w.heap.size w w' := by
  obtain ⟨e1, h1⟩ : ∃ e : Int, directionErr x y z = e := ⟨_, rfl⟩
  obtain ⟨e2, h2⟩ : ∃ e : Int, vectorErrL 4096 x y z = e := ⟨_, rfl⟩
  have KA : Hid (∀ w1 : World, Calls Tryz.prog 28 #[.agg #[.int .i64 x, .int .i64 y, .int .i64 z]] w1 fun e w' => e = .returned (.int .i64 e1) ∧ Below w1.heap.size w1 w') := Lib.hid fun w1 => by
    have h := refCheckDirection_all x y z w1
    rwa [h1] at h
  have KB : Hid (∀ w1 : World, Calls Tryz.prog 51 #[.agg #[.int .i64 x, .int .i64 y, .int .i64 z], .int .i64 4096] w1 fun e w' => e = .returned (.int .i64 e2) ∧ Below w1.heap.size w1 w') := Lib.hid fun w1 => by
    have h := refWithin_all x y z 4096 (by omega) w1
    rwa [h2] at h
  unfold rayErr
  rw [h1, h2]
  obtain ⟨E, hE⟩ : ∃ E : Int, firstNZ [e1, e2] = E := ⟨_, rfl⟩
  have KF : Hid (∀ (w1 : World) (b : Nat), (∀ j, j < 2 → w1.cell? ⟨b, 0 + j, none⟩ = some (.int .i64 (([e1, e2] : List Int)[j]?.getD 0))) → Calls Tryz.prog 49 #[.slice (some ⟨b, 0, none⟩) 2 2] w1 fun e w' => e = .returned (.int .i64 E) ∧ w1 = w') := Lib.hid fun w1 b h => by
    have k := refFirst_any b 0 2 2 [e1, e2] rfl (by omega) w1 h
    rwa [hE] at k
  rw [hE]
  clear h1 h2 hE
  obtain ⟨W0, hW0⟩ : ∃ W0, (w.alloc (.cells #[.int .i64 x, .int .i64 y, .int .i64 z] 23)) = W0 := ⟨_, rfl⟩
  have K0 : Hid (Kp w W0 [(w.heap.size, (.cells #[.int .i64 x, .int .i64 y, .int .i64 z] 23 (0, 0)))]) := Lib.hid (by
    rw [← hW0]
    have k := ((Kp.none w).alloc (.cells #[.int .i64 x, .int .i64 y, .int .i64 z] 23))
    simpa using k)
  go_enter Tryz.func11, Tryz.ntmps11
  go_upto_region 1 with fail
  try rw [hW0]
  clear hW0
  apply wp_region_gives 4 (fun w' => Blw W0.heap.size W0 w') [.agg #[.int .i64 x, .int .i64 y, .int .i64 z], .int .i64 e1, .agg #[.int .i64 x, .int .i64 y, .int .i64 z], .int .i64 e2] (by kernel_rfl) (by kernel_rfl) (by kernel_rfl) (show Below _ _ _ from (Below.refl _ _).drew)
  case haF =>
    simp [putJs, Act.put, List.range, List.range.loop]
    exact rfl
  case h =>
    have hBq := K0.out.2 _ (.head _)
    simp only [List.take_succ_cons, List.take_zero, GivesL]
    clear K0
    refine ⟨?_, ?_, ?_, ?_, trivial⟩
    all_goals
      intro w1 hw1
      obtain ⟨q_0, q_1, q_2⟩ := cells3 (((show Below _ _ _ from hw1).block _ (lt_of_blk hBq)).trans hBq)
      unfold Oper.wp
      simp only [execOp]
      go_simp <;> first
        | exact ⟨rfl, hw1⟩
        | ((with_reducible refine (KA.out _).mono ?_); rintro e w2 ⟨rfl, hb⟩; exact ⟨rfl, below_call hb hw1⟩)
        | ((with_reducible refine (KB.out _).mono ?_); rintro e w2 ⟨rfl, hb⟩; exact ⟨rfl, below_call hb hw1⟩)
  case ht =>
    intro w2 hw5
    have K2 := Lib.hid (K0.out.call (show Below _ _ _ from hw5))
    clear hw5 K0
    simp only [List.drop_succ_cons, List.drop_zero]
    go_wp2_with (first
      | (go_at_call 49; (with_reducible refine (KF.out _ _ ?_).mono ?_); rotate_left 1; rintro e w6 ⟨rfl, rfl⟩; rotate_left 1; (intro j hj; match j, hj with | 0, _ => simp [go_sem] | 1, _ => simp [go_sem])))
    go_ret
    exact ⟨rfl, (Kp.below K2.out).alloc (Kp.below K2.out).size _⟩

set_option maxRecDepth 100000 in
set_option maxHeartbeats 6400000 in
theorem refDot_any (x y z a b c : Int) (h1 : Fit (x * a)) (h2 : Fit (y * b)) (h3 : Fit (z * c)) (w : World) :
    Calls Tryz.prog 29 #[.agg #[.int .i64 x, .int .i64 y, .int .i64 z], .agg #[.int .i64 a, .int .i64 b, .int .i64 c]] w fun e w' => e = .returned (.int .i64 (dot3 x y z a b c)) ∧ Below w.heap.size w w' := by
  unfold dot3
  obtain ⟨m1, e1⟩ : ∃ m1, x * a = m1 := ⟨_, rfl⟩
  obtain ⟨m2, e2⟩ : ∃ m2, y * b = m2 := ⟨_, rfl⟩
  obtain ⟨m3, e3⟩ : ∃ m3, z * c = m3 := ⟨_, rfl⟩
  rw [e1] at h1 ⊢
  rw [e2] at h2 ⊢
  rw [e3] at h3 ⊢
  have w1 := h1.wrap
  have w2 := h2.wrap
  have w3 := h3.wrap
  have s2 := wrap_fit2 h1 h2
  have s3 := wrap_fit3 h1 h2 h3
  clear h1 h2 h3
  go_enter Tryz.func29, Tryz.ntmps29
  go_wp2_with fail
  go_ret
  exact ⟨rfl, ((Below.refl _ _).alloc (Nat.le_refl _) _).alloc (by simp) _⟩

set_option maxRecDepth 100000 in
set_option maxHeartbeats 6400000 in
theorem refTimes_any (x y z n : Int) (h1 : Fit (x * n)) (h2 : Fit (y * n)) (h3 : Fit (z * n)) (w : World) :
    Calls Tryz.prog 23 #[.agg #[.int .i64 x, .int .i64 y, .int .i64 z], .int .i64 n] w fun e w' => e = .returned (.agg #[.int .i64 (x * n), .int .i64 (y * n), .int .i64 (z * n)]) ∧ Below w.heap.size w w' := by
  obtain ⟨m1, e1⟩ : ∃ m1, x * n = m1 := ⟨_, rfl⟩
  obtain ⟨m2, e2⟩ : ∃ m2, y * n = m2 := ⟨_, rfl⟩
  obtain ⟨m3, e3⟩ : ∃ m3, z * n = m3 := ⟨_, rfl⟩
  rw [e1] at h1 ⊢
  rw [e2] at h2 ⊢
  rw [e3] at h3 ⊢
  have w1 := h1.wrap
  have w2 := h2.wrap
  have w3 := h3.wrap
  clear h1 h2 h3
  go_enter Tryz.func23, Tryz.ntmps23
  go_wp2_with fail
  refine bodyPost_ret (v := .agg #[.int .i64 m1, .int .i64 m2, .int .i64 m3]) (by simp [results, Tryz.results23, go_sem]) rfl ⟨rfl, ?_⟩
  first
    | exact ((Below.refl _ w).alloc (Nat.le_refl _) _).alloc (by simp) _
    | exact (((((Below.refl _ w).alloc (Nat.le_refl _) _).alloc (by simp) _).setCell (by simp) _).setCell (by simp) _).setCell (by simp) _
end Go.Proofs.YtggffhmdgceljaaGreatDoor

/-
  Contract of what tells tiny rays.
-/
namespace Go.Proofs.YtggffhmdgceljaaGreatDoor
open Go.RowKit
set_option linter.unusedVariables false
set_option linter.unusedSimpArgs false

def tinyP (x y z : Int) : Prop := rayErr x y z = 0 ∧ (-40 ≤ x ∧ x ≤ 40) ∧ (-40 ≤ y ∧ y ≤ 40) ∧ (-40 ≤ z ∧ z ≤ 40)
def max6 (a b c d e f : Int) : Int := max (max (max (max (max a b) c) d) e) f
theorem run_max2 (a b : Int) : Builtin.max2 (.int .i64 a) (.int .i64 b) = pure (.int .i64 (max a b)) := by
  have m : (if b > a then b else a) = max a b := by
    rw [Int.max_def]
    split <;> split <;> omega
  simp only [Builtin.max2, m]
@[go_sem high] theorem run_max6 {P : Program} (a b c d e f : Int) (w : World) (ts : Array TypeId) (t : TypeId) : (Builtin.max_ ts t #[.int .i64 a, .int .i64 b, .int .i64 c, .int .i64 d, .int .i64 e, .int .i64 f]).run P w = .ok (.int .i64 (max6 a b c d e f)) w := by
  simp [Builtin.max_, List.foldlM, run_max2, max6]

set_option maxRecDepth 100000 in
set_option maxHeartbeats 6400000 in
theorem tiny_yes (x y z : Int) (h : tinyP x y z) (w : World) :
    Calls Tryz.prog 19 #[.agg #[.int .i64 x, .int .i64 y, .int .i64 z]] w fun e w' => e = .returned (.bool true) ∧ Below w.heap.size w w' := by
  obtain ⟨h0, hx, hy, hz⟩ := h
  have KR : Hid (∀ w1 : World, Calls Tryz.prog 11 #[.agg #[.int .i64 x, .int .i64 y, .int .i64 z]] w1 fun e w' => e = .returned (.int .i64 0) ∧ Below w1.heap.size w1 w') := Lib.hid fun w1 => by
    have h := refCheckRay_all x y z w1
    rwa [h0] at h
  obtain ⟨W0, hW0⟩ : ∃ W0, w.alloc (.cells #[.int .i64 x, .int .i64 y, .int .i64 z] 23) = W0 := ⟨_, rfl⟩
  have K0 : Hid (Kp w W0 [(w.heap.size, .cells #[.int .i64 x, .int .i64 y, .int .i64 z] 23 (0, 0))]) := Lib.hid (by
    rw [← hW0]
    have k := (Kp.none w).alloc (.cells #[.int .i64 x, .int .i64 y, .int .i64 z] 23)
    simpa using k)
  have y6 := @run_max6
  clear y6
  have n1 : IntKind.i64.wrap (-x) = -x := IntWalk.i64_in _ ⟨by omega, by omega⟩
  have n2 : IntKind.i64.wrap (-y) = -y := IntWalk.i64_in _ ⟨by omega, by omega⟩
  have n3 : IntKind.i64.wrap (-z) = -z := IntWalk.i64_in _ ⟨by omega, by omega⟩
  obtain ⟨m, hmm⟩ : ∃ m, max6 x (-x) y (-y) z (-z) = m := ⟨_, rfl⟩
  have hle : m ≤ 40 := by unfold max6 at hmm; omega
  clear hx hy hz h0
  go_enter Tryz.func19, Tryz.ntmps19
  go_upto_region 1 with fail
  try rw [hW0]
  clear hW0
  obtain ⟨b0, b1, b2⟩ := cells3 (K0.out.2 _ (.head _))
  go_wp2_with (first
    | (go_at_call 11; (with_reducible refine (KR.out _).mono ?_); rintro e w1 ⟨rfl, hb⟩; have K1 := Lib.hid (K0.out.call hb); clear hb; obtain ⟨c0, c1, c2⟩ := cells3 (K1.out.2 _ (.head _))))
  go_ret
  first
    | exact ⟨rfl, Kp.below K1.out⟩
    | exact ⟨by show Ending.returned (Value.bool (decide (m ≤ 40))) = _; rw [decide_eq_false (by omega)], Kp.below K1.out⟩

set_option maxRecDepth 100000 in
set_option maxHeartbeats 6400000 in
theorem tiny_no (x y z : Int) (h : ¬ tinyP x y z) (w : World) :
    Calls Tryz.prog 19 #[.agg #[.int .i64 x, .int .i64 y, .int .i64 z]] w fun e w' => e = .returned (.bool false) ∧ Below w.heap.size w w' := by
  by_cases h0 : rayErr x y z = 0
  · obtain ⟨_, hx, hy, hz⟩ := ray_ok h0
    have KR : Hid (∀ w1 : World, Calls Tryz.prog 11 #[.agg #[.int .i64 x, .int .i64 y, .int .i64 z]] w1 fun e w' => e = .returned (.int .i64 0) ∧ Below w1.heap.size w1 w') := Lib.hid fun w1 => by
      have h := refCheckRay_all x y z w1
      rwa [h0] at h
    obtain ⟨W0, hW0⟩ : ∃ W0, w.alloc (.cells #[.int .i64 x, .int .i64 y, .int .i64 z] 23) = W0 := ⟨_, rfl⟩
    have K0 : Hid (Kp w W0 [(w.heap.size, .cells #[.int .i64 x, .int .i64 y, .int .i64 z] 23 (0, 0))]) := Lib.hid (by
      rw [← hW0]
      have k := (Kp.none w).alloc (.cells #[.int .i64 x, .int .i64 y, .int .i64 z] 23)
      simpa using k)
    have y6 := @run_max6
    clear y6
    have n1 : IntKind.i64.wrap (-x) = -x := IntWalk.i64_in _ ⟨by omega, by omega⟩
    have n2 : IntKind.i64.wrap (-y) = -y := IntWalk.i64_in _ ⟨by omega, by omega⟩
    have n3 : IntKind.i64.wrap (-z) = -z := IntWalk.i64_in _ ⟨by omega, by omega⟩
    obtain ⟨m, hmm⟩ : ∃ m, max6 x (-x) y (-y) z (-z) = m := ⟨_, rfl⟩
    have hle : ¬ m ≤ 40 := fun hle => h ⟨h0, by unfold max6 at hmm; omega, by unfold max6 at hmm; omega, by unfold max6 at hmm; omega⟩
    clear hx hy hz h h0
    go_enter Tryz.func19, Tryz.ntmps19
    go_upto_region 1 with fail
    try rw [hW0]
    clear hW0
    obtain ⟨b0, b1, b2⟩ := cells3 (K0.out.2 _ (.head _))
    go_wp2_with (first
      | (go_at_call 11; (with_reducible refine (KR.out _).mono ?_); rintro e w1 ⟨rfl, hb⟩; have K1 := Lib.hid (K0.out.call hb); clear hb; obtain ⟨c0, c1, c2⟩ := cells3 (K1.out.2 _ (.head _))))
    go_ret
    first
      | exact ⟨rfl, Kp.below K1.out⟩
      | exact ⟨by show Ending.returned (Value.bool (decide (m ≤ 40))) = _; rw [decide_eq_false (by omega)], Kp.below K1.out⟩
  · obtain ⟨er, her⟩ : ∃ er, rayErr x y z = er := ⟨_, rfl⟩
    rw [her] at h0
    have n0 : (er == 0) = false := by simp [h0]
    have KR : Hid (∀ w1 : World, Calls Tryz.prog 11 #[.agg #[.int .i64 x, .int .i64 y, .int .i64 z]] w1 fun e w' => e = .returned (.int .i64 er) ∧ Below w1.heap.size w1 w') := Lib.hid fun w1 => by
      have h := refCheckRay_all x y z w1
      rwa [her] at h
    obtain ⟨W0, hW0⟩ : ∃ W0, w.alloc (.cells #[.int .i64 x, .int .i64 y, .int .i64 z] 23) = W0 := ⟨_, rfl⟩
    have K0 : Hid (Kp w W0 [(w.heap.size, .cells #[.int .i64 x, .int .i64 y, .int .i64 z] 23 (0, 0))]) := Lib.hid (by
      rw [← hW0]
      have k := (Kp.none w).alloc (.cells #[.int .i64 x, .int .i64 y, .int .i64 z] 23)
      simpa using k)
    clear her h h0
    go_enter Tryz.func19, Tryz.ntmps19
    go_upto_region 1 with fail
    try rw [hW0]
    clear hW0
    obtain ⟨b0, b1, b2⟩ := cells3 (K0.out.2 _ (.head _))
    go_wp2_with (first
      | (go_at_call 11; (with_reducible refine (KR.out _).mono ?_); rintro e w1 ⟨rfl, hb⟩; have K1 := Lib.hid (K0.out.call hb); clear hb; obtain ⟨c0, c1, c2⟩ := cells3 (K1.out.2 _ (.head _))))
    go_ret
    first
      | exact ⟨rfl, Kp.below K1.out⟩
      | exact ⟨by show Ending.returned (Value.bool (decide (m ≤ 40))) = _; rw [decide_eq_false (by omega)], Kp.below K1.out⟩
end Go.Proofs.YtggffhmdgceljaaGreatDoor

/-
  A law for a statement whose order Go leaves open, one of whose operations makes a block of three cells that another one fills.
-/
namespace Go.Proofs.YtggffhmdgceljaaGreatDoor
open Go.RowKit
set_option linter.unusedVariables false
set_option linter.unusedSimpArgs false

section
variable {P : Program} {ops : Array Oper}
/-- A block of three cells is made, and filled. -/
theorem wp_region_put1 {id : Nat} {Q : Exit → Act → World → Prop} {a : Act} {aF : Value → Act} {wc : World} {l : List Oper} (k1 s1 : Nat) (m : List Bool) (c0 c1 c2 x0 x1 x2 : Value) (T1 : TypeId) (vals : List Value) (o1 p1 : Oper)
    (hm : P.follows .mixedOrders = true) (hB : ordB l.toArray = true)
    (hK : (k1 < l.length ∧ s1 < l.length) ∧ k1 ≠ s1 ∧ m = (List.range l.length).map fun i => i == k1 || i == s1)
    (hW : Region.waitsFor .any l.toArray s1 k1 = true)
    (ho1 : l[k1]? = some o1) (hp1 : l[s1]? = some p1) (hd1 : p1.dst = none)
    (hz1 : ∀ (b : Act) (w1 : World), (execOp b.eval o1).run P w1 = .ok (.value (.pointer (some ⟨w1.heap.size, 0, none⟩))) (w1.alloc (.cells #[c0, c1, c2] T1)))
    (haF : ∀ u, putJs l.toArray (upd1 (fun i => vals.getD i undef) k1 u) (List.range l.length) a = aF u)
    (hG : ∀ u Tt, Stable Tt → GivesM P (fun w => Blw wc.heap.size wc w ∧ Tt w) (aF u) m l vals)
    (hS1 : ∀ B w1, w1.heap[B]? = some (.cells #[c0, c1, c2] T1 (0, 0)) → p1.wp P (aF (.pointer (some ⟨B, 0, none⟩))) w1 (fun c w' => c = aF (.pointer (some ⟨B, 0, none⟩)) ∧ w' = put3 w1 B x0 x1 x2) (fun _ _ _ => False))
    (hQ : ∀ B1 w', wc.heap.size ≤ B1 → Blw wc.heap.size wc w' → w'.heap[B1]? = some (.cells #[x0, x1, x2] T1 (0, 0)) → Q .normal (aF (.pointer (some ⟨B1, 0, none⟩))) w') : (Code.region id l.toArray true).wp P Q a wc := by
  obtain ⟨⟨b1, b2⟩, n1, hmm⟩ := hK
  have hV : ∀ V : Nat → Value, (∀ j, j ∉ [(k1, s1)].map Prod.fst → V j = vals.getD j undef) → putJs l.toArray V (List.range l.length) a = aF (V k1) := fun V hV => by
    rw [← haF]
    refine putJs_congr _ a fun j _ => ?_
    by_cases h1 : j = k1
    · subst h1; rw [upd1_self]
    · rw [upd1_ne _ _ h1]
      exact hV j (by simp [h1])
  have put : ∀ {w1 : World} {B : Nat} {T : TypeId} {c0 c1 c2 : Value} (x0 x1 x2 : Value), Blw wc.heap.size wc w1 → wc.heap.size ≤ B → w1.heap[B]? = some (.cells #[c0, c1, c2] T (0, 0)) →
      Blw wc.heap.size wc (put3 w1 B x0 x1 x2) ∧ (put3 w1 B x0 x1 x2).heap[B]? = some (.cells #[x0, x1, x2] T (0, 0)) ∧ ∀ B', B' ≠ B → (put3 w1 B x0 x1 x2).heap[B']? = w1.heap[B']? := fun {w1 B T c0 c1 c2} x0 x1 x2 h1 h2 h3 =>
    ⟨show Below _ _ _ from put3_below (show Below _ _ _ from h1) h2 _ _ _, put3_self h3 _ _ _, fun B' hB' => put3_other _ hB' _ _ _⟩
  refine wp_region_blocks [(k1, s1)] (fun _ => #[c0, c1, c2]) (fun _ => #[x0, x1, x2]) (fun _ => T1) (fun i => vals.getD i undef) hm hB ?_ ?_ ?_ ?_ ?_ ?_
  · intro p hp
    obtain rfl : p = (k1, s1) := by simpa using hp
    exact ⟨b1, b2, hW⟩
  · intro p hp q hq
    obtain rfl : p = (k1, s1) := by simpa using hp
    obtain rfl : q = (k1, s1) := by simpa using hq
    exact ⟨fun _ => rfl, fun _ => rfl, n1⟩
  · intro p hp o ho b w1
    obtain rfl : p = (k1, s1) := by simpa using hp
    obtain rfl : o1 = o := Option.some.inj (ho1.symm.trans ho)
    exact hz1 b w1
  · intro V Tt i o hV' hT hi1 hi2 ho
    rw [hV V hV']
    have hin : i < l.length := by
      rcases Nat.lt_or_ge i l.length with h | h
      · exact h
      · rw [List.getElem?_eq_none h] at ho; cases ho
    refine (hG (V k1) Tt hT).get i o ?_ ho
    rw [hmm, List.getElem?_map, List.getElem?_range hin]
    simp at hi1 hi2
    simp [hi1, hi2]
  · intro V p o B w1 hV' hp ho hv hS hB' hb
    obtain rfl : p = (k1, s1) := by simpa using hp
    obtain rfl : p1 = o := Option.some.inj (hp1.symm.trans ho)
    rw [hV V hV', show V k1 = _ from hv, hd1]
    have h := hS1 B w1 hb
    have h4 := put x0 x1 x2 hS hB' hb
    exact oper_mono (fun c w' h => ⟨h.1, by rw [h.2]; exact h4.1, by rw [h.2]; exact h4.2.1, by rw [h.2]; exact h4.2.2⟩) h
  · intro V w' hV' hS hb hne
    rw [hV V hV']
    obtain ⟨B1, g1, g2, g3⟩ := hb (k1, s1) (by simp)
    simp only at g1 g3
    rw [g1]
    exact hQ B1 w' g2 hS g3
end
end Go.Proofs.YtggffhmdgceljaaGreatDoor
