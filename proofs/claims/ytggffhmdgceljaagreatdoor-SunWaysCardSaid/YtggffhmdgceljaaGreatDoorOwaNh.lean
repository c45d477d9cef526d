/-
  Contract of CheckSky, for a valid sky.
-/
import Derived.Test.YtggffhmdgceljaaGreatDoorRows
import Derived.WalkKit
import Derived.WalkSpells
import Derived.WalkLawsBesides
import Derived.Lib.Hide
import Derived.BigQuiet
import Derived.Deep.QuietTactic
import Derived.Handy
import Derived.Deep.RegionHeld3
import Derived.Deep.RegionWith
import Derived.StillTailTactics
import Derived.RangeFuncNested
import Derived.RangeFuncBound
import Derived.RangeFuncCalls
import Derived.RangeFuncLeaves
import Derived.RangeFuncBox
import Derived.Shelf.Abstract
import Derived.Shelf.RegionOpen
import Derived.OwnWalkIn
import Derived.TacticsInMore
import Derived.LoopNIn
import Derived.LoopIn
import Derived.Maps.AppendAt
import Derived.Test.YtggffhmdgceljaaGreatDoorProg
import Derived.Laws.FloatArith
import Derived.Laws.BitsAllLaws
import Derived.Deep.DeepCutAuto
import Derived.Stop.BytesEq
import Derived.Deep.MidRow
import Derived.Laws.CopyRow
import Derived.WalkMore
import Derived.Deep.DrawnRows
import Derived.Deep.CutBlock
import Derived.Orders
import Derived.LoopTactic
import Derived.Laws.StructEq
import Derived.Deep.RegionLaw
import Derived.RegionTactic
import Derived.StillTail
import Derived.Laws.RangeString
import Derived.Laws.RangeAny
import Derived.Test.YtggffhmdgceljaaGreatDoorOwaWa
import Derived.Test.YtggffhmdgceljaaGreatDoorOwaWn
import Derived.Test.YtggffhmdgceljaaGreatDoorOwaXe
import Derived.Test.YtggffhmdgceljaaGreatDoorOwaIb
import Derived.Test.YtggffhmdgceljaaGreatDoorOwaIl
import Derived.Test.YtggffhmdgceljaaGreatDoorOwaNd
import Derived.Test.YtggffhmdgceljaaGreatDoorOwaId
import Derived.Test.YtggffhmdgceljaaGreatDoorOwaIi
import Derived.Test.YtggffhmdgceljaaGreatDoorOwaWo
import Derived.Test.YtggffhmdgceljaaGreatDoorOwaNc
import Derived.Test.YtggffhmdgceljaaGreatDoorOwaNg
namespace Go.Proofs.YtggffhmdgceljaaGreatDoor
open Go.RowKit
set_option linter.unusedVariables false
set_option linter.unusedSimpArgs false

theorem sun_index (b q n c j : Nat) (hj : j < n) (w : World) :
    (Instr.indexAt 78 (.slice (some ⟨b, q, none⟩) n c) (.int .i64 (j : Int))).run Tryz.prog w = .ok (.pointer (some ⟨b, q + j * 4, none⟩)) w := by
  rw [run_indexAt_slice (h := by kernel_rfl), if_pos ⟨by omega, by omega⟩]
  have h : (sizeOf (Tryz.prog.elem 78)).run Tryz.prog w = .ok 4 w := by kernel_rfl
  rw [h]
  simp only [Result.andThen_ok, Int.toNat_natCast, Addr.add_mid]
theorem checkSun_sky {L : List SunV} {b q n c k : Nat} {w : World} (hA : SunsAt w b q L) (hb : b < w.heap.size) (hS : SkyOk L) (hn : L.length = n) (hk : k < n) :
    Calls Tryz.prog 104 #[.slice (some ⟨b, q, none⟩) n c, .int .i64 (k : Int)] w fun e w' => e = .returned (.int .i64 0) ∧ Below w.heap.size w w' := by
  have h0 : 0 < L.length := by have := hS.two; omega
  have hk' : k < L.length := by omega
  have s0 := hS.all 0 h0
  have sk := hS.all k hk'
  have d : ∀ {s f : SunV}, SunOk s f → ∀ w1 : World, Calls Tryz.prog 74 #[.agg #[.int .i64 s.x, .int .i64 s.y, .int .i64 s.z], .agg #[.int .i64 s.x, .int .i64 s.y, .int .i64 s.z]] w1 fun e w' => e = .returned (.int .i64 (dot3 f.x f.y f.z f.x f.y f.z)) ∧ Below w1.heap.size w1 w' := fun {s f} h w1 => by
    obtain ⟨a1, a2, a3⟩ := h.parts
    rw [← h.long]
    exact dot_any s.x s.y s.z s.x s.y s.z (fit_abs a1 a1 (by omega)) (fit_abs a2 a2 (by omega)) (fit_abs a3 a3 (by omega)) w1
  have r0 := sk.tick
  have i0 : ∀ w1, (Instr.indexAt 78 (.slice (some ⟨b, q, none⟩) n c) (.int .i64 0)).run Tryz.prog w1 = .ok (.pointer (some ⟨b, q, none⟩)) w1 := fun w1 => by
    have h := sun_index b q n c 0 (by omega) w1
    rw [Nat.zero_mul, Nat.add_zero] at h
    exact h
  have z0 : ∀ w1 : World, Below w.heap.size w w1 → w1.rangeAt b (q + 1) [.int .i64 (L[0]?.getD sunZ).x, .int .i64 (L[0]?.getD sunZ).y, .int .i64 (L[0]?.getD sunZ).z] := fun w1 hw => by
    have h := (hA.kept hw hb).range h0
    rw [Nat.zero_mul, Nat.add_zero] at h
    exact h
  rcases Nat.eq_zero_or_pos k with rfl | hp
  · refine checkSun_first _ _ 0 _ _ _ _ (L[0]?.getD sunZ).t _ _ _ _ b q q q w i0 i0 (by rfl) rfl (fun w1 hw => ?_) sk.ray (rangeErr_in r0.1 r0.2) (d sk) (d s0)
    have h := ((hA.kept hw hb).cell0 h0).1
    rw [Nat.zero_mul, Nat.add_zero] at h
    exact ⟨h, z0 w1 hw, h, z0 w1 hw⟩
  · have g := hS.gaps k hp hk'
    have s1 := (hS.all (k - 1) (by omega)).tick
    refine checkSun_next _ (k : Int) ((k - 1 : Nat) : Int) _ _ _ _ (L[k - 1]?.getD sunZ).t _ _ _ _ b q (q + k * 4) (q + (k - 1) * 4) w (fun w1 => sun_index b q n c k hk w1) i0 (fun w1 => sun_index b q n c (k - 1) (by omega) w1) ?_ (by omega) g.1 g.2 ?_ (fun w1 hw => ?_) sk.ray (rangeErr_in r0.1 r0.2) (d sk) (d s0)
    · have h64 := hS.most
      rw [show ((k - 1 : Nat) : Int) = (k : Int) - 1 by omega]
      exact IntWalk.i64_in _ ⟨by omega, by omega⟩
    · exact IntWalk.i64_in _ ⟨by omega, by omega⟩
    · have hA1 := hA.kept hw hb
      exact ⟨(hA1.cell0 hk').1, hA1.range hk', (hA1.cell0 (show k - 1 < L.length by omega)).1, z0 w1 hw⟩

set_option maxRecDepth 100000 in
set_option maxHeartbeats 6400000 in
theorem checkSky_ok (s : ByteArray) (L : List SunV) (b q n c : Nat) (w : World) (hm : s.size ≤ maxLen) (hN : nameB s = true) (hA : SunsAt w b q L) (hb : b < w.heap.size) (hS : SkyOk L) (hn : L.length = n) :
    Calls Tryz.prog 81 #[.agg #[.string s, .slice (some ⟨b, q, none⟩) n c]] w fun e w' => e = .returned (.int .i64 0) ∧ Below w.heap.size w w' := by
  have KN : Hid (∀ w1 : World, Calls Tryz.prog 103 #[.string s] w1 fun e w' => e = .returned (.bool true) ∧ Below w1.heap.size w1 w') := Lib.hid fun w1 => by
    have h := isName_any s w1 hm
    rwa [hN] at h
  have KW1 : Hid (∀ w1 : World, Calls Tryz.prog 86 #[.bool false, .int .i64 8] w1 fun e w' => e = .returned (.int .i64 0) ∧ w1 = w') := Lib.hid fun w1 => cwhen_any false 8 w1
  have KW2 : Hid (∀ w1 : World, Calls Tryz.prog 86 #[.bool false, .int .i64 16] w1 fun e w' => e = .returned (.int .i64 0) ∧ w1 = w') := Lib.hid fun w1 => cwhen_any false 16 w1
  have KW3 : Hid (∀ w1 : World, Calls Tryz.prog 86 #[.bool false, .int .i64 5] w1 fun e w' => e = .returned (.int .i64 0) ∧ w1 = w') := Lib.hid fun w1 => cwhen_any false 5 w1
  have KF : Hid (∀ (w1 : World) (b : Nat), (∀ j, j < 3 → w1.cell? ⟨b, 0 + j, none⟩ = some (.int .i64 (([0, 0, 0] : List Int)[j]?.getD 0))) → Calls Tryz.prog 42 #[.slice (some ⟨b, 0, none⟩) 3 3] w1 fun e w' => e = .returned (.int .i64 0) ∧ w1 = w') := Lib.hid fun w1 b h => first_any b 0 3 3 [0, 0, 0] rfl (by omega) w1 h
  have i1 : ¬ (n : Int) < 2 := by have := hS.two; omega
  have i2 : ¬ (64 : Int) < n := by have := hS.most; omega
  have i3 : (n : Int) ≤ 64 := by omega
  have KS : Hid (∀ (k : Nat) (w1 : World), k < n → Below w.heap.size w w1 → Calls Tryz.prog 104 #[.slice (some ⟨b, q, none⟩) n c, .int .i64 (k : Int)] w1 fun e w' => e = .returned (.int .i64 0) ∧ Below w1.heap.size w1 w') := Lib.hid fun k w1 hk hw => checkSun_sky (hA.kept hw hb) (Nat.lt_of_lt_of_le hb hw.size) hS hn hk
  clear hm hN hA hb hS hn
  obtain ⟨W0, hW0⟩ : ∃ W0, (w.alloc (.cells #[.string s, .slice (some ⟨b, q, none⟩) n c] 80)) = W0 := ⟨_, rfl⟩
  have K0 : Hid (Kp w W0 [(w.heap.size, (.cells #[.string s, .slice (some ⟨b, q, none⟩) n c] 80 (0, 0)))]) := Lib.hid (by
    rw [← hW0]
    have k := ((Kp.none w).alloc (.cells #[.string s, .slice (some ⟨b, q, none⟩) n c] 80))
    simpa using k)
  go_enter Tryz.func81, Tryz.ntmps81
  go_upto_region 1 with fail
  try rw [hW0]
  clear hW0
  apply wp_region_gives 15 (fun w' => Blw W0.heap.size W0 w') [.pointer (some ⟨w.heap.size, 0, none⟩), .string s, .bool true, .bool false, .int .i64 0, .pointer (some ⟨w.heap.size, 1, none⟩), .slice (some ⟨b, q, none⟩) n c, .int .i64 n, .bool false, .int .i64 0, .pointer (some ⟨w.heap.size, 1, none⟩), .slice (some ⟨b, q, none⟩) n c, .int .i64 n, .bool false, .int .i64 0] (by kernel_rfl) (by kernel_rfl) (by kernel_rfl) (show Below _ _ _ from (Below.refl _ _).drew)
  case haF =>
    simp [putJs, Act.put, List.range, List.range.loop]
    exact rfl
  case h =>
    have hBx := K0.out.2 _ (.head _)
    simp only [List.take_succ_cons, List.take_zero, GivesL]
    clear K0
    refine ⟨?_, ?_, ?_, ?_, ?_, ?_, ?_, ?_, ?_, ?_, ?_, ?_, ?_, ?_, ?_, trivial⟩
    all_goals
      intro w1 hw1
      obtain ⟨x_0, x_1⟩ := cells2 (((show Below _ _ _ from hw1).block _ (lt_of_blk hBx)).trans hBx)
      unfold Oper.wp
      simp only [execOp]
      go_simp <;> first
        | exact ⟨rfl, hw1⟩
        | ((with_reducible refine (KN.out _).mono ?_); rintro e w2 ⟨rfl, hb⟩; exact ⟨rfl, below_call hb hw1⟩)
        | ((with_reducible refine (KW1.out _).mono ?_); rintro e w2 ⟨rfl, rfl⟩; exact ⟨rfl, hw1⟩)
        | ((with_reducible refine (KW2.out _).mono ?_); rintro e w2 ⟨rfl, rfl⟩; exact ⟨rfl, hw1⟩)
        | ((with_reducible refine (KW3.out _).mono ?_); rintro e w2 ⟨rfl, rfl⟩; exact ⟨rfl, hw1⟩)
  case ht =>
    intro w2 hw5
    have K2 := Lib.hid (K0.out.call (show Below _ _ _ from hw5))
    clear hw5 K0
    simp only [List.drop_succ_cons, List.drop_zero]
    clear KN KW1 KW2 KW3
    go_upto_region 4 with (first
      | (go_at_call 42; (with_reducible refine (KF.out _ _ ?_).mono ?_); rotate_left 1; rintro e w6 ⟨rfl, rfl⟩; rotate_left 1; (intro j hj; match j, hj with | 0, _ => simp [go_sem] | 1, _ => simp [go_sem] | 2, _ => simp [go_sem])))
    refine wp_world (fun w' => Kp w w' [(w.heap.size, (.cells #[.string s, .slice (some ⟨b, q, none⟩) n c] 80 (0, 0)))]) (by exact K2.out.call ((Below.refl _ _).alloc (Nat.le_refl _) _)) fun w3 k3 => ?_
    have K3 := Lib.hid k3
    clear k3 K2 KF
    obtain ⟨c0, c1⟩ := cells2 (K3.out.2 _ (.head _))
    go_wp2_with fail
    clear c0 c1
    go_loopw [29] (fun i wr => ∃ k : Nat, k ≤ n ∧ i = .int .i64 k ∧ Hid (Kp w wr [(w.heap.size, (.cells #[.string s, .slice (some ⟨b, q, none⟩) n c] 80 (0, 0)))])) (fun i _ => n - (intOf i).toNat)
    case atStart => exact ⟨0, Nat.zero_le _, rfl, K3⟩
    case round =>
      obtain ⟨k, hk, rfl, hkp⟩ := hrel
      clear K3
      obtain ⟨c0, c1⟩ := cells2 (hkp.out.2 _ (.head _))
      by_cases hlt : k < n
      · have hKS := Lib.hid (KS.out k wr hlt (Kp.below hkp.out))
        go_wp2_with (first
          | (go_at_call 104; (with_reducible refine hKS.out.mono ?_); rintro e w6 ⟨rfl, hb6⟩; have K6 := Lib.hid (hkp.out.call hb6); clear hb6))
        go_roundw
        case rel => exact ⟨k + 1, by omega, by go_num, K6⟩
        case measure => simp [intOf]; omega
      · obtain rfl : k = n := by omega
        go_wp2_with fail
        go_ret
        exact ⟨rfl, Kp.below hkp.out⟩
end Go.Proofs.YtggffhmdgceljaaGreatDoor
