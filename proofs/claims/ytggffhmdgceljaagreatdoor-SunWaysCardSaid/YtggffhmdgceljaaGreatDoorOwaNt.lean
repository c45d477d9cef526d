/-
  Contracts of CheckAir and stepsOf, for valid air.
-/
import Derived.Test.YtggffhmdgceljaaGreatDoorRows
import Derived.WalkKit
import Derived.WalkSpells
import Derived.WalkLawsBesides
import Derived.Lib.Hide
import Derived.BigQuiet
import Derived.Deep.QuietTactic
import Derived.Handy
import Derived.Deep.RegionHeld3
import Derived.Deep.RegionWith
import Derived.StillTailTactics
import Derived.RangeFuncNested
import Derived.RangeFuncBound
import Derived.RangeFuncCalls
import Derived.RangeFuncLeaves
import Derived.RangeFuncBox
import Derived.Shelf.Abstract
import Derived.Shelf.RegionOpen
import Derived.OwnWalkIn
import Derived.TacticsInMore
import Derived.LoopNIn
import Derived.LoopIn
import Derived.Maps.AppendAt
import Derived.Test.YtggffhmdgceljaaGreatDoorProg
import Derived.Laws.FloatArith
import Derived.Laws.BitsAllLaws
import Derived.Deep.DeepCutAuto
import Derived.Stop.BytesEq
import Derived.Deep.MidRow
import Derived.Laws.CopyRow
import Derived.WalkMore
import Derived.Deep.DrawnRows
import Derived.Deep.CutBlock
import Derived.Orders
import Derived.LoopTactic
import Derived.Laws.StructEq
import Derived.Deep.RegionLaw
import Derived.RegionTactic
import Derived.StillTail
import Derived.Laws.RangeString
import Derived.Laws.RangeAny
import Derived.Test.YtggffhmdgceljaaGreatDoorOwaWa
import Derived.Test.YtggffhmdgceljaaGreatDoorOwaWn
import Derived.Test.YtggffhmdgceljaaGreatDoorOwaXe
import Derived.Test.YtggffhmdgceljaaGreatDoorOwaIb
import Derived.Test.YtggffhmdgceljaaGreatDoorOwaIl
import Derived.Test.YtggffhmdgceljaaGreatDoorOwaNd
import Derived.Test.YtggffhmdgceljaaGreatDoorOwaId
import Derived.Test.YtggffhmdgceljaaGreatDoorOwaNc
import Derived.Test.YtggffhmdgceljaaGreatDoorOwaNs
namespace Go.Proofs.YtggffhmdgceljaaGreatDoor
open Go.RowKit
set_option linter.unusedVariables false
set_option linter.unusedSimpArgs false

structure StepV where
  a : Int
  l : Int
def StepV.val (s : StepV) : List Value := [.int .i64 s.a, .int .i64 s.l]
def stepZ : StepV := ⟨0, 0⟩
def StepsAt (w : World) (b q : Nat) (L : List StepV) : Prop := ∀ k, k < L.length → w.rangeAt b (q + k * 2) (L[k]?.getD stepZ).val
theorem StepsAt.kept {w w' : World} {b q B : Nat} {L : List StepV} (h : StepsAt w b q L) (hb : Below B w w') (hB : b < B) : StepsAt w' b q L := fun k hk j v hv => by
  rw [hb.cell (by exact hB)]; exact h k hk j v hv
structure StepOk (s : StepV) : Prop where
  from_ : -100000 ≤ s.a ∧ s.a ≤ 100000
  lift : 0 ≤ s.l ∧ s.l ≤ 16
theorem StepOk.err {s : StepV} (h : StepOk s) : stepErr s.a s.l = 0 := by
  unfold stepErr
  rw [rangeErr_in h.from_.1 h.from_.2, rangeErr_in h.lift.1 h.lift.2]
  rfl
structure AirOk (L : List StepV) : Prop where
  most : L.length ≤ 16
  all : ∀ k, k < L.length → StepOk (L[k]?.getD stepZ)
  up : ∀ k, k + 1 < L.length → (L[k]?.getD stepZ).a < (L[k + 1]?.getD stepZ).a
theorem step_index (b q n c j : Nat) (hj : j < n) (w : World) :
    (Instr.indexAt 110 (.slice (some ⟨b, q, none⟩) n c) (.int .i64 (j : Int))).run Tryz.prog w = .ok (.pointer (some ⟨b, q + j * 2, none⟩)) w := by
  rw [run_indexAt_slice (h := by kernel_rfl), if_pos ⟨by omega, by omega⟩]
  have h : (sizeOf (Tryz.prog.elem 110)).run Tryz.prog w = .ok 2 w := by kernel_rfl
  rw [h]
  simp only [Result.andThen_ok, Int.toNat_natCast, Addr.add_mid]

set_option maxRecDepth 100000 in
set_option maxHeartbeats 6400000 in
theorem ascending_ok (L : List StepV) (b q n c : Nat) (w : World) (hA : StepsAt w b q L) (hb : b < w.heap.size) (hn : L.length = n) (hL : AirOk L) :
    Calls Tryz.prog 107 #[.slice (some ⟨b, q, none⟩) n c, .func (.func 108) #[] #[], .func (.func 109) #[] #[]] w fun e w' => e = .returned (.int .i64 0) ∧ Below w.heap.size w w' := by
  have HA : Hid (∀ (k : Nat) (w1 : World), k < n → Below w.heap.size w w1 → w1.rangeAt b (q + k * 2) (L[k]?.getD stepZ).val) := Lib.hid fun k w1 hk hw => hA.kept hw hb k (by omega)
  have HL := Lib.hid hL
  have s2 : (Tryz.prog.info? 146).map (·.size) = some 2 := by kernel_rfl
  have i3 : (n : Int) ≤ 16 := by have := hL.most; omega
  have HN := Lib.hid hn
  clear hA hb hn hL
  go_enter Tryz.func107, Tryz.ntmps107
  go_wp2_with fail
  go_loopw [12] (fun i wr => ∃ k : Nat, k ≤ n ∧ i = .int .i64 k ∧ Hid (Below w.heap.size w wr)) (fun i _ => n - (intOf i).toNat)
  case atStart => exact ⟨0, Nat.zero_le _, rfl, Lib.hid (Below.refl _ _)⟩
  case round =>
    obtain ⟨k, hk, rfl, hkp⟩ := hrel
    by_cases hlt : k < n
    · have hr := HA.out k wr hlt hkp.out
      have hok := HL.out.all k (by have := HN.out; omega)
      obtain ⟨sv, hsv⟩ : ∃ s, L[k]?.getD stepZ = s := ⟨_, rfl⟩
      rw [hsv] at hr hok
      have hv : sv.val = [.int .i64 sv.a, .int .i64 sv.l] := rfl
      have HR := Lib.hid hr
      clear hr
      have he := hok.err
      go_upto_region 4 with (first
        | (refine wpList_load_mid rfl 146 _ rfl b (q + k * 2) rfl sv.val _ HR.out Tryz.underlying146 rfl (by rw [s2]; rfl) ?_))
      refine wp_world (fun w' => Kp w w' [(wr.heap.size, .cells #[.int .i64 sv.a, .int .i64 sv.l] 146 (0, 0))]) (by exact (show Kp w wr [] from ⟨hkp.out, fun p h => nomatch h⟩).alloc (.cells #[.int .i64 sv.a, .int .i64 sv.l] 146)) fun w4 k4 => ?_
      have K4 := Lib.hid k4
      clear k4
      obtain ⟨B8, hB8⟩ : ∃ B8, wr.heap.size = B8 := ⟨_, rfl⟩
      rw [hB8] at K4 ⊢
      clear hB8
      have KA : Hid (∀ w1 : World, Calls Tryz.prog 108 #[.agg #[.int .i64 sv.a, .int .i64 sv.l]] w1 fun e w' => e = .returned (.int .i64 0) ∧ Below w1.heap.size w1 w') := Lib.hid fun w1 => by
        have h := checkStep_any sv.a sv.l w1
        rwa [he] at h
      have KW : Hid (∀ w1 : World, Calls Tryz.prog 86 #[.bool false, .int .i64 11] w1 fun e w' => e = .returned (.int .i64 0) ∧ w1 = w') := Lib.hid fun w1 => cwhen_any false 11 w1
      have KF : Hid (∀ (w1 : World) (b : Nat), (∀ j, j < 2 → w1.cell? ⟨b, 0 + j, none⟩ = some (.int .i64 (([0, 0] : List Int)[j]?.getD 0))) → Calls Tryz.prog 42 #[.slice (some ⟨b, 0, none⟩) 2 2] w1 fun e w' => e = .returned (.int .i64 0) ∧ w1 = w') := Lib.hid fun w1 b h => first_any b 0 2 2 [0, 0] rfl (by omega) w1 h
      rcases Nat.eq_zero_or_pos k with hk0 | hp
      · subst hk0
        apply wp_region_yields 17 (fun w' => Blw w4.heap.size w4 w') [.func (.func 108) #[] #[], .agg #[.int .i64 sv.a, .int .i64 sv.l], .int .i64 0, .int .i64 0, .bool false, .bool false, undef, undef, undef, undef, undef, undef, undef, undef, undef, .bool false, .int .i64 0] (by kernel_rfl) (by kernel_rfl) (show Below _ _ _ from (Below.refl _ _).drew)
        case haF =>
          simp [putJs, Act.put, List.range, List.range.loop]
          exact rfl
        case h =>
          have hBx := K4.out.2 _ (.head _)
          simp only [List.take_succ_cons, List.take_zero, YieldsL]
          have HK4 := K4
          clear K4
          refine ⟨.no rfl ?_, .no rfl ?_, .no rfl ?_, .no rfl ?_, .no rfl ?_, .no rfl ?_, .not rfl rfl, .not rfl rfl, .not rfl rfl, .not rfl rfl, .not rfl rfl, .not rfl rfl, .not rfl rfl, .not rfl rfl, .not rfl rfl, .no rfl ?_, .no rfl ?_, trivial⟩
          all_goals
            intro w1 hw1
            obtain ⟨x_0, x_1⟩ := cells2 (((show Below _ _ _ from hw1).block _ (lt_of_blk hBx)).trans hBx)
            unfold Oper.wp
            simp only [execOp]
            go_simp <;> first
              | exact ⟨rfl, hw1⟩
              | ((with_reducible refine (KA.out _).mono ?_); rintro e w2 ⟨rfl, hb⟩; exact ⟨rfl, below_call hb hw1⟩)
              | ((with_reducible refine (KW.out _).mono ?_); rintro e w2 ⟨rfl, rfl⟩; exact ⟨rfl, hw1⟩)
        case ht =>
          intro w5 hw5
          have K5 := Lib.hid (K4.out.call (show Below _ _ _ from hw5))
          clear hw5 K4
          simp only [List.drop_succ_cons, List.drop_zero]
          go_wp2_with (first
            | (go_at_call 42; (with_reducible refine (KF.out _ _ ?_).mono ?_); rotate_left 1; rintro e w6 ⟨rfl, rfl⟩; rotate_left 1; (intro j hj; match j, hj with | 0, _ => simp [go_sem] | 1, _ => simp [go_sem])))
          go_roundw
          case rel => exact ⟨0 + 1, by omega, by go_num, Lib.hid ((Kp.below K5.out).alloc (Kp.below K5.out).size _)⟩
          case measure => simp [intOf]; omega
      · have hup := HL.out.up (k - 1) (by have := HN.out; omega)
        rw [show k - 1 + 1 = k by omega, hsv] at hup
        obtain ⟨sb, hsb⟩ : ∃ s, L[k - 1]?.getD stepZ = s := ⟨_, rfl⟩
        rw [hsb] at hup
        have hvb : sb.val = [.int .i64 sb.a, .int .i64 sb.l] := rfl
        have kw : IntKind.i64.wrap ((k : Int) - 1) = (k : Int) - 1 := IntWalk.i64_in _ ⟨by omega, by omega⟩
        have k0 : (0 : Int) < (k : Int) := by omega
        have x1 : ∀ w1, (Instr.indexAt 110 (.slice (some ⟨b, q, none⟩) n c) (.int .i64 ((k : Int) - 1))).run Tryz.prog w1 = .ok (.pointer (some ⟨b, q + (k - 1) * 2, none⟩)) w1 := fun w1 => by
          have h := step_index b q n c (k - 1) (by omega) w1
          rwa [show ((k - 1 : Nat) : Int) = (k : Int) - 1 by omega] at h
        have HB : Hid (∀ w1, Below w.heap.size w w1 → w1.rangeAt b (q + (k - 1) * 2) sb.val) := Lib.hid fun w1 hw => by
          have h := HA.out (k - 1) w1 (by omega) hw
          rwa [hsb] at h
        obtain ⟨o1, ho1⟩ : ∃ o1, q + (k - 1) * 2 = o1 := ⟨_, rfl⟩
        simp only [ho1] at x1
        rw [ho1] at HB
        have KL : Hid (∀ w1 : World, Calls Tryz.prog 109 #[.agg #[.int .i64 sb.a, .int .i64 sb.l], .agg #[.int .i64 sv.a, .int .i64 sv.l]] w1 fun e w' => e = .returned (.bool true) ∧ Below w1.heap.size w1 w') := Lib.hid fun w1 => by
          have h := stepLess_any sb.a sb.l sv.a sv.l w1
          rwa [decide_eq_true hup] at h
        clear hup hsb hsv ho1 HR hok he
        apply wp_region_yields 17 (fun w' => Blw w4.heap.size w4 w') [.func (.func 108) #[] #[], .agg #[.int .i64 sv.a, .int .i64 sv.l], .int .i64 0, .int .i64 (k : Int), .bool true, .bool true, .func (.func 109) #[] #[], .slice (some ⟨b, q, none⟩) n c, .int .i64 (k : Int), .int .i64 ((k : Int) - 1), .pointer (some ⟨b, o1, none⟩), .agg #[.int .i64 sb.a, .int .i64 sb.l], .agg #[.int .i64 sv.a, .int .i64 sv.l], .bool true, .bool false, .bool false, .int .i64 0] (by kernel_rfl) (by kernel_rfl) (show Below _ _ _ from (Below.refl _ _).drew)
        case haF =>
          simp [putJs, Act.put, List.range, List.range.loop]
          exact rfl
        case h =>
          have hBx := K4.out.2 _ (.head _)
          simp only [List.take_succ_cons, List.take_zero, YieldsL]
          have HK4 := K4
          clear K4
          refine ⟨.no rfl ?_, .no rfl ?_, .no rfl ?_, .no rfl ?_, .no rfl ?_, .no rfl ?_, .yes rfl rfl ?_, .yes rfl rfl ?_, .yes rfl rfl ?_, .yes rfl rfl ?_, .yes rfl rfl ?_, .yes rfl rfl ?_, .yes rfl rfl ?_, .yes rfl rfl ?_, .yes rfl rfl ?_, .no rfl ?_, .no rfl ?_, trivial⟩
          all_goals
            intro w1 hw1
            obtain ⟨x_0, x_1⟩ := cells2 (((show Below _ _ _ from hw1).block _ (lt_of_blk hBx)).trans hBx)
            obtain ⟨g1⟩ : Nonempty (w1.rangeAt b o1 sb.val) := ⟨HB.out w1 ((Kp.below HK4.out).trans ((show Below _ _ _ from hw1).mono (Kp.below HK4.out).size))⟩
            first
              | (refine wp_load_mid 146 _ rfl b o1 rfl sb.val _ g1 Tryz.underlying146 rfl (by rw [s2]; rfl) ?_; exact ⟨rfl, hw1⟩)
              | (unfold Oper.wp
                 simp only [execOp]
                 go_simp <;> first
                   | exact ⟨rfl, hw1⟩
                   | ((with_reducible refine (KA.out _).mono ?_); rintro e w2 ⟨rfl, hb⟩; exact ⟨rfl, below_call hb hw1⟩)
                   | ((with_reducible refine (KW.out _).mono ?_); rintro e w2 ⟨rfl, rfl⟩; exact ⟨rfl, hw1⟩)
                   | ((with_reducible refine (KL.out _).mono ?_); rintro e w2 ⟨rfl, hb⟩; exact ⟨rfl, below_call hb hw1⟩))
        case ht =>
          intro w5 hw5
          have K5 := Lib.hid (K4.out.call (show Below _ _ _ from hw5))
          clear hw5 K4
          simp only [List.drop_succ_cons, List.drop_zero]
          go_wp2_with (first
            | (go_at_call 42; (with_reducible refine (KF.out _ _ ?_).mono ?_); rotate_left 1; rintro e w6 ⟨rfl, rfl⟩; rotate_left 1; (intro j hj; match j, hj with | 0, _ => simp [go_sem] | 1, _ => simp [go_sem])))
          go_roundw
          case rel => exact ⟨k + 1, by omega, by go_num, Lib.hid ((Kp.below K5.out).alloc (Kp.below K5.out).size _)⟩
          case measure => simp [intOf]; omega
    · obtain rfl : k = n := by omega
      go_wp2_with fail
      go_ret
      exact ⟨rfl, hkp.out⟩


set_option maxRecDepth 100000 in
set_option maxHeartbeats 6400000 in
theorem checkAir_ok (L : List StepV) (b q n c : Nat) (w : World) (hA : StepsAt w b q L) (hb : b < w.heap.size) (hn : L.length = n) (hL : AirOk L) :
    Calls Tryz.prog 88 #[.slice (some ⟨b, q, none⟩) n c] w fun e w' => e = .returned (.int .i64 0) ∧ Below w.heap.size w w' := by
  have K := Lib.hid (ascending_ok L b q n c w hA hb hn hL)
  have i1 : ¬ (16 : Int) < n := by have := hL.most; omega
  clear hA hb hn hL
  go_enter Tryz.func88, Tryz.ntmps88
  go_wp2_with (first
    | (go_at_call 107; (with_reducible refine K.out.mono ?_); rintro e w2 ⟨rfl, hb⟩))
  go_ret
  exact ⟨rfl, hb⟩
end Go.Proofs.YtggffhmdgceljaaGreatDoor
