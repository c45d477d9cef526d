/-
  Contract of around: the two told suns between which a tick lies.
-/
import Derived.Test.YtggffhmdgceljaaGreatDoorRows
import Derived.WalkKit
import Derived.WalkSpells
import Derived.WalkLawsBesides
import Derived.Lib.Hide
import Derived.BigQuiet
import Derived.Deep.QuietTactic
import Derived.Handy
import Derived.Deep.RegionHeld3
import Derived.Deep.RegionWith
import Derived.StillTailTactics
import Derived.RangeFuncNested
import Derived.RangeFuncBound
import Derived.RangeFuncCalls
import Derived.RangeFuncLeaves
import Derived.RangeFuncBox
import Derived.Shelf.Abstract
import Derived.Shelf.RegionOpen
import Derived.OwnWalkIn
import Derived.TacticsInMore
import Derived.LoopNIn
import Derived.LoopIn
import Derived.Maps.AppendAt
import Derived.Test.YtggffhmdgceljaaGreatDoorProg
import Derived.Laws.FloatArith
import Derived.Laws.BitsAllLaws
import Derived.Deep.DeepCutAuto
import Derived.Stop.BytesEq
import Derived.Deep.MidRow
import Derived.Laws.CopyRow
import Derived.WalkMore
import Derived.Deep.DrawnRows
import Derived.Deep.CutBlock
import Derived.Orders
import Derived.LoopTactic
import Derived.Laws.StructEq
import Derived.Deep.RegionLaw
import Derived.RegionTactic
import Derived.StillTail
import Derived.Laws.RangeString
import Derived.Laws.RangeAny
import Derived.Test.YtggffhmdgceljaaGreatDoorOwaWn
import Derived.Test.YtggffhmdgceljaaGreatDoorOwaXe
import Derived.Test.YtggffhmdgceljaaGreatDoorOwaIb
import Derived.Test.YtggffhmdgceljaaGreatDoorOwaIl
import Derived.Test.YtggffhmdgceljaaGreatDoorOwaNd
import Derived.Test.YtggffhmdgceljaaGreatDoorOwaId
import Derived.Test.YtggffhmdgceljaaGreatDoorOwaNc
import Derived.Test.YtggffhmdgceljaaGreatDoorOwaIg
import Derived.Test.YtggffhmdgceljaaGreatDoorOwaNh
namespace Go.Proofs.YtggffhmdgceljaaGreatDoor
open Go.RowKit
set_option linter.unusedVariables false
set_option linter.unusedSimpArgs false

theorem blw_set4 {w v : World} (h : Blw w.heap.size w v) {B : Nat} (hB : w.heap.size ≤ B) (a b c d : Value) : Blw w.heap.size w ((((v.setCell ⟨B, 0, none⟩ a).setCell ⟨B, 1, none⟩ b).setCell ⟨B, 2, none⟩ c).setCell ⟨B, 3, none⟩ d) :=
  show Below _ _ _ from ((((show Below _ _ _ from h).setCell hB a).setCell hB b).setCell hB c).setCell hB d
theorem set4_other (w : World) {B q : Nat} (hq : q ≠ B) (a b c d : Value) : ((((w.setCell ⟨B, 0, none⟩ a).setCell ⟨B, 1, none⟩ b).setCell ⟨B, 2, none⟩ c).setCell ⟨B, 3, none⟩ d).heap[q]? = w.heap[q]? :=
  (Below.heap_setCell _ _ _ _ hq).trans ((Below.heap_setCell _ _ _ _ hq).trans ((Below.heap_setCell _ _ _ _ hq).trans (Below.heap_setCell _ _ _ _ hq)))
def SunV.agg (s : SunV) : Value := .agg #[.int .i64 s.t, .int .i64 s.x, .int .i64 s.y, .int .i64 s.z]

set_option maxRecDepth 100000 in
set_option maxHeartbeats 6400000 in
theorem around_ok (L : List SunV) (b q n c j : Nat) (tick : Int) (w : World) (hA : SunsAt w b q L) (hb : b < w.heap.size) (hn : L.length = n) (hm : n ≤ 64) (hc : n ≤ c) (hj : j + 1 < n) (hlo : ∀ i, i < j → (L[i + 1]?.getD sunZ).t < tick) (hhi : tick ≤ (L[j + 1]?.getD sunZ).t) :
    Calls Tryz.prog 106 #[.slice (some ⟨b, q, none⟩) n c, .int .i64 tick] w fun e w' => e = .returned (.tuple #[(L[j]?.getD sunZ).agg, (L[j + 1]?.getD sunZ).agg]) ∧ Below w.heap.size w w' := by
  have HA : Hid (∀ (k : Nat) (w1 : World), k < n → Below w.heap.size w w1 → w1.rangeAt b (q + k * 4) (L[k]?.getD sunZ).val) := Lib.hid fun k w1 hk hw => hA.kept hw hb k (by omega)
  have HL := Lib.hid hlo
  have s4 : (Tryz.prog.info? 139).map (·.size) = some 4 := by kernel_rfl
  obtain ⟨sj, hsj⟩ : ∃ s, L[j]?.getD sunZ = s := ⟨_, rfl⟩
  obtain ⟨sk, hsk⟩ : ∃ s, L[j + 1]?.getD sunZ = s := ⟨_, rfl⟩
  rw [hsj, hsk]
  rw [hsk] at hhi
  have i1 : (1 : Int) ≤ n := by omega
  have i2 : 1 ≤ n := by omega
  have i3 : 1 ≤ c := by omega
  have i4 : (n : Int) ≤ c := by omega
  have i5 : (n : Int) ≤ 64 := by omega
  have hcc : (0 : Int) ≤ n := by omega
  obtain ⟨W0, hW0⟩ : ∃ W0, ((w.alloc (.cells #[.int .i64 0, .int .i64 0, .int .i64 0, .int .i64 0] 139)).alloc (.cells #[.int .i64 0, .int .i64 0, .int .i64 0, .int .i64 0] 139)) = W0 := ⟨_, rfl⟩
  have K0 : Hid (Kp w W0 [(w.heap.size + 1, (.cells #[.int .i64 0, .int .i64 0, .int .i64 0, .int .i64 0] 139 (0, 0))), (w.heap.size, (.cells #[.int .i64 0, .int .i64 0, .int .i64 0, .int .i64 0] 139 (0, 0)))]) := Lib.hid (by
    rw [← hW0]
    have k := (((Kp.none w).alloc (.cells #[.int .i64 0, .int .i64 0, .int .i64 0, .int .i64 0] 139)).alloc (.cells #[.int .i64 0, .int .i64 0, .int .i64 0, .int .i64 0] 139))
    simpa using k)
  go_enter Tryz.func106, Tryz.ntmps106
  go_wp2_with fail
  go_step3
  go_wp2_with fail
  go_step3
  go_wp2_with fail
  try rw [hW0]
  clear hW0
  go_loopw [6, 12] (fun nx i wr => ∃ k : Nat, k ≤ j ∧ i = .int .i64 k ∧ nx = .int .i64 1 ∧ Hid (Kp w wr [(w.heap.size + 1, (.cells #[.int .i64 0, .int .i64 0, .int .i64 0, .int .i64 0] 139 (0, 0))), (w.heap.size, (.cells #[.int .i64 0, .int .i64 0, .int .i64 0, .int .i64 0] 139 (0, 0)))])) (fun _ i _ => n - (intOf i).toNat)
  case atStart => exact ⟨0, Nat.zero_le _, rfl, rfl, K0⟩
  case round =>
    obtain ⟨k, hk, rfl, rfl, hkp⟩ := hrel
    clear K0
    have hlt : k < n - 1 := by omega
    have i6 : (k : Int) < (n : Int) - 1 := by omega
    have hr := HA.out (k + 1) wr (by omega) (Kp.below hkp.out)
    rw [show q + (k + 1) * 4 = q + 4 + k * 4 by omega] at hr
    obtain ⟨sv, hsv⟩ : ∃ s, L[k + 1]?.getD sunZ = s := ⟨_, rfl⟩
    rw [hsv] at hr
    have hv : sv.val = [.int .i64 sv.t, .int .i64 sv.x, .int .i64 sv.y, .int .i64 sv.z] := rfl
    have HR := Lib.hid hr
    clear hr
    by_cases hkj : k = j
    · subst hkj
      have e1 : sv = sk := by rw [← hsv, hsk]
      subst e1
      have i7 : tick ≤ sv.t := hhi
      go_wp2_with (first
        | (refine wpList_load_mid rfl 139 _ rfl b (q + 4 + k * 4) rfl sv.val _ HR.out Tryz.underlying139 rfl (by rw [s4]; rfl) ?_))
      refine wp_world (fun w' => Kp w w' [(w.heap.size + 1, (.cells #[.int .i64 0, .int .i64 0, .int .i64 0, .int .i64 0] 139 (0, 0))), (w.heap.size, (.cells #[.int .i64 0, .int .i64 0, .int .i64 0, .int .i64 0] 139 (0, 0)))]) (by exact hkp.out.call ((Below.refl _ _).alloc (Nat.le_refl _) _)) fun w5 k5 => ?_
      have K5 := Lib.hid k5
      clear k5
      obtain ⟨c0, c1, c2, c3⟩ := cells4 (K5.out.2 _ (.tail _ (.head _)))
      obtain ⟨d0, d1, d2, d3⟩ := cells4 (K5.out.2 _ (.head _))
      have cz : ∀ j, w5.frozen? ⟨w.heap.size, j, none⟩ = false := fun j => frozen_of_row w5 w.heap.size j _ _ (K5.out.2 _ (.tail _ (.head _)))
      have dz : ∀ j, w5.frozen? ⟨w.heap.size + 1, j, none⟩ = false := fun j => frozen_of_row w5 (w.heap.size + 1) j _ _ (K5.out.2 _ (.head _))
      have x1 : ∀ w1, (Instr.indexAt 78 (.slice (some ⟨b, q, none⟩) n c) (.int .i64 (k : Int))).run Tryz.prog w1 = .ok (.pointer (some ⟨b, q + k * 4, none⟩)) w1 := fun w1 => sun_index b q n c k (by omega) w1
      have x2 : ∀ w1, (Instr.indexAt 78 (.slice (some ⟨b, q, none⟩) n c) (.int .i64 (1 + (k : Int)))).run Tryz.prog w1 = .ok (.pointer (some ⟨b, q + (k + 1) * 4, none⟩)) w1 := fun w1 => by
        have h := sun_index b q n c (k + 1) (by omega) w1
        rwa [show ((k + 1 : Nat) : Int) = 1 + (k : Int) by omega] at h
      have xw : IntKind.i64.wrap (1 + (k : Int) - 1) = (k : Int) := by rw [show 1 + (k : Int) - 1 = (k : Int) by omega]; exact IntWalk.i64_in _ ⟨by omega, by omega⟩
      have hb5 : Blw w.heap.size w w5 := show Below _ _ _ from Kp.below K5.out
      obtain ⟨o1, ho1⟩ : ∃ o1, q + k * 4 = o1 := ⟨_, rfl⟩
      obtain ⟨o2, ho2⟩ : ∃ o2, q + (k + 1) * 4 = o2 := ⟨_, rfl⟩
      have l1 : Hid (∀ w', Blw w.heap.size w w' → w'.rangeAt b o1 sj.val ∧ w'.rangeAt b o2 sv.val) := Lib.hid fun w' hw => by
        have h := HA.out k w' (by omega) hw
        have h' := HA.out (k + 1) w' (by omega) hw
        rw [hsj, ho1] at h
        rw [hsk, ho2] at h'
        exact ⟨h, h'⟩
      simp only [ho1] at x1
      simp only [ho2] at x2
      clear HR HA hv ho1 ho2 c0 c1 c2 c3 d0 d1 d2 d3 cz dz
      apply wp_region_fill2 (wb := w) 9 10 w.heap.size (w.heap.size + 1) [false, false, false, false, false, false, false, false, false, true, true] _ _ sj.val.toArray sv.val.toArray _ _ [.slice (some ⟨b, q, none⟩) n c, .int .i64 (1 + (k : Int)), .int .i64 (k : Int), .pointer (some ⟨b, o1, none⟩), .agg sj.val.toArray, .slice (some ⟨b, q, none⟩) n c, .int .i64 (1 + (k : Int)), .pointer (some ⟨b, o2, none⟩), .agg sv.val.toArray, undef, undef] _ _ (by kernel_rfl) (by kernel_rfl) (by decide) rfl rfl rfl rfl (by omega) (by omega) (by omega) (K5.out.2 _ (.tail _ (.head _))) (K5.out.2 _ (.head _)) hb5
      case haF =>
        simp [putJs, Act.put, List.range, List.range.loop]
        exact rfl
      case hG =>
        intro Tt hT
        simp only [GivesM]
        clear K5 hkp hb5
        refine ⟨?_, ?_, ?_, ?_, ?_, ?_, ?_, ?_, ?_, trivial⟩
        all_goals
          intro w1 hw
          obtain ⟨hw1, ht1⟩ := hw
          first
            | (refine wp_load_mid 139 _ rfl b o1 rfl sj.val _ (l1.out w1 hw1).1 Tryz.underlying139 rfl (by rw [s4]; rfl) ?_; exact ⟨rfl, hw1, ht1⟩)
            | (refine wp_load_mid 139 _ rfl b o2 rfl sv.val _ (l1.out w1 hw1).2 Tryz.underlying139 rfl (by rw [s4]; rfl) ?_; exact ⟨rfl, hw1, ht1⟩)
            | (unfold Oper.wp
               simp only [execOp]
               go_simp <;> first
                 | exact ⟨rfl, hw1, ht1⟩
                 | exact ht1
                 | exact ⟨hw1, ht1⟩)
      case hS1 =>
        intro w1 hb hS
        obtain ⟨m0, m1, m2, m3⟩ := cells4 hb
        have mz : ∀ j, w1.frozen? ⟨w.heap.size, j, none⟩ = false := fun j => frozen_of_row w1 _ j _ _ hb
        unfold Oper.wp
        simp only [execOp, SunV.val]
        go_simp
        exact ⟨blw_set4 hS (by omega) _ _ _ _, blk_set4u hb _ _ _ _, fun B' hB' => set4_other _ hB' _ _ _ _⟩
      case hS2 =>
        intro w1 hb hS
        obtain ⟨m0, m1, m2, m3⟩ := cells4 hb
        have mz : ∀ j, w1.frozen? ⟨w.heap.size + 1, j, none⟩ = false := fun j => frozen_of_row w1 _ j _ _ hb
        unfold Oper.wp
        simp only [execOp, SunV.val]
        go_simp
        exact ⟨blw_set4 hS (by omega) _ _ _ _, blk_set4u hb _ _ _ _, fun B' hB' => set4_other _ hB' _ _ _ _⟩
      case hQ =>
        intro w6 hS h1 h2
        obtain ⟨c0, c1, c2, c3⟩ := cells4 h1
        obtain ⟨d0, d1, d2, d3⟩ := cells4 h2
        rename ∀ (a : Act) (w_1 : World), Code.wp _ _ _ a w_1 → _ => hK
        refine hK _ _ ?_
        go_wp2_with fail
        rw [Exit.noGoto_ret]
        exact bodyPost_ret (v := .tuple #[sj.agg, sv.agg]) (by simp [results, Tryz.results106, go_sem, SunV.agg, c0, c1, c2, c3, d0, d1, d2, d3]) rfl ⟨rfl, hS⟩
    · have i7 : ¬ tick ≤ sv.t := by rw [← hsv]; have := HL.out k (by omega); omega
      go_wp2_with (first
        | (refine wpList_load_mid rfl 139 _ rfl b (q + 4 + k * 4) rfl sv.val _ HR.out Tryz.underlying139 rfl (by rw [s4]; rfl) ?_))
      go_roundw
      case rel => exact ⟨k + 1, by omega, by go_num, rfl, Lib.hid (hkp.out.call ((Below.refl _ _).alloc (Nat.le_refl _) _))⟩
      case measure => simp [intOf]; omega
end Go.Proofs.YtggffhmdgceljaaGreatDoor
