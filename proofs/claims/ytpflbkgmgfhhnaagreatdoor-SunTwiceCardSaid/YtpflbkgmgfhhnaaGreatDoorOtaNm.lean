/-
  Contracts of At and Risen, for a valid sky and a tick of it.
-/
import Derived.Test.YtpflbkgmgfhhnaaGreatDoorRows
import Derived.WalkKit
import Derived.WalkSpells
import Derived.WalkLawsBesides
import Derived.Lib.Hide
import Derived.BigQuiet
import Derived.Deep.QuietTactic
import Derived.Laws.FloatArith
import Derived.Laws.BitsAllLaws
import Derived.Deep.CutBlock
import Derived.Deep.DeepCutAuto
import Derived.Deep.RegionHeld3
import Derived.StillTailTactics
import Derived.LoopTactic
import Derived.Handy
import Derived.Laws.StructEq
import Derived.RangeFuncNested
import Derived.RangeFuncBound
import Derived.RangeFuncCalls
import Derived.RangeFuncLeaves
import Derived.RangeFuncBox
import Derived.Shelf.Abstract
import Derived.Shelf.RegionOpen
import Derived.OwnWalkIn
import Derived.TacticsInMore
import Derived.LoopNIn
import Derived.LoopIn
import Derived.Maps.AppendAt
import Derived.Test.YtpflbkgmgfhhnaaGreatDoorProg
import Derived.Deep.RegionWith
import Derived.Stop.BytesEq
import Derived.Deep.MidRow
import Derived.Laws.CopyRow
import Derived.WalkMore
import Derived.Deep.DrawnRows
import Derived.Deep.RegionLaw
import Derived.Orders
import Derived.RegionTactic
import Derived.StillTail
import Derived.Laws.RangeString
import Derived.Laws.RangeAny
import Derived.Test.YtpflbkgmgfhhnaaGreatDoorOtaFlo
import Derived.Test.YtpflbkgmgfhhnaaGreatDoorOtaXc
import Derived.Test.YtpflbkgmgfhhnaaGreatDoorOtaXe
import Derived.Test.YtpflbkgmgfhhnaaGreatDoorOtaIb
import Derived.Test.YtpflbkgmgfhhnaaGreatDoorOtaFc
import Derived.Test.YtpflbkgmgfhhnaaGreatDoorOtaId
import Derived.Test.YtpflbkgmgfhhnaaGreatDoorOtaNh
import Derived.Test.YtpflbkgmgfhhnaaGreatDoorOtaNi
namespace Go.Proofs.YtpflbkgmgfhhnaaGreatDoor
open Go.RowKit
set_option linter.unusedVariables false
set_option linter.unusedSimpArgs false

set_option maxRecDepth 100000 in
set_option maxHeartbeats 6400000 in
theorem at_ok (s : ByteArray) (b q n c : Nat) (tick t0 tl p1 p2 p3 r1 r2 r3 : Int) (w : World) (hn : 0 < n) (hm : n ≤ 64)
    (KC : ∀ w1 : World, Below w.heap.size w w1 → Calls Tryz.prog 77 #[.agg #[.string s, .slice (some ⟨b, q, none⟩) n c]] w1 fun e w' => e = .returned (.int .i64 0) ∧ Below w1.heap.size w1 w')
    (KS : ∀ w1 : World, Below w.heap.size w w1 → Calls Tryz.prog 78 #[.slice (some ⟨b, q, none⟩) n c, .int .i64 tick] w1 fun e w' => e = .returned (.agg #[.int .i64 p1, .int .i64 p2, .int .i64 p3]) ∧ Below w1.heap.size w1 w')
    (HC : ∀ w1 : World, Below w.heap.size w w1 → w1.cell? ⟨b, q, none⟩ = some (.int .i64 t0) ∧ w1.cell? ⟨b, q + (n - 1) * 4, none⟩ = some (.int .i64 tl)) (h0 : t0 ≤ tick) (hl : tick ≤ tl)
    (hz : ¬ (p1 = 0 ∧ p2 = 0 ∧ p3 = 0))
    (KR : ∀ w1 : World, Calls Tryz.prog 61 #[.agg #[.int .i64 p1, .int .i64 p2, .int .i64 p3]] w1 fun e w' => e = .returned (.agg #[.int .i64 r1, .int .i64 r2, .int .i64 r3]) ∧ Below w1.heap.size w1 w') :
    Calls Tryz.prog 49 #[.agg #[.string s, .slice (some ⟨b, q, none⟩) n c], .int .i64 tick] w fun e w' => e = .returned (.tuple #[.agg #[.int .i64 r1, .int .i64 r2, .int .i64 r3], .int .i64 0]) ∧ Below w.heap.size w w' := by
  have HKC := Lib.hid KC
  have HKS := Lib.hid KS
  have HHC := Lib.hid HC
  have HKR := Lib.hid KR
  clear KC KS HC KR
  have KV : Hid (∀ w1 : World, Calls Tryz.prog 62 #[.agg #[.int .i64 r1, .int .i64 r2, .int .i64 r3]] w1 fun e w' => e = .returned (.agg #[.int .i64 r1, .int .i64 r2, .int .i64 r3]) ∧ Below w1.heap.size w1 w') := Lib.hid fun w1 => vector_any r1 r2 r3 w1
  have e1 := eq_parts p1 p2 p3 0 0 0
  have ez : decide (([p1, p2, p3] : List Int) = [0, 0, 0]) = false := by simp; omega
  rw [ez] at e1
  have x0 : ∀ w1, (Instr.indexAt 88 (.slice (some ⟨b, q, none⟩) n c) (.int .i64 0)).run Tryz.prog w1 = .ok (.pointer (some ⟨b, q, none⟩)) w1 := fun w1 => by
    have h := sun_index b q n c 0 hn w1
    rw [Nat.zero_mul, Nat.add_zero] at h
    exact h
  have xl : ∀ w1, (Instr.indexAt 88 (.slice (some ⟨b, q, none⟩) n c) (.int .i64 ((n : Int) - 1))).run Tryz.prog w1 = .ok (.pointer (some ⟨b, q + (n - 1) * 4, none⟩)) w1 := fun w1 => by
    have h := sun_index b q n c (n - 1) (by omega) w1
    rwa [show ((n - 1 : Nat) : Int) = (n : Int) - 1 by omega] at h
  have xw : IntKind.i64.wrap ((n : Int) - 1) = (n : Int) - 1 := IntWalk.i64_in _ ⟨by omega, by omega⟩
  have g0 : ¬ tick < t0 := by omega
  have g1 : ¬ tl < tick := by omega
  obtain ⟨ol, hol⟩ : ∃ ol, q + (n - 1) * 4 = ol := ⟨_, rfl⟩
  rw [hol] at HHC
  simp only [hol] at xl
  clear hol h0 hl ez
  obtain ⟨W0, hW0⟩ : ∃ W0, ((w.alloc (.cells #[.string s, .slice (some ⟨b, q, none⟩) n c] 90)).alloc (.cells #[.int .i64 0, .int .i64 0, .int .i64 0] 23)) = W0 := ⟨_, rfl⟩
  have K0 : Hid (Kp w W0 [(w.heap.size + 1, (.cells #[.int .i64 0, .int .i64 0, .int .i64 0] 23 (0, 0))), (w.heap.size, (.cells #[.string s, .slice (some ⟨b, q, none⟩) n c] 90 (0, 0)))]) := Lib.hid (by
    rw [← hW0]
    have k := (((Kp.none w).alloc (.cells #[.string s, .slice (some ⟨b, q, none⟩) n c] 90)).alloc (.cells #[.int .i64 0, .int .i64 0, .int .i64 0] 23))
    simpa using k)
  go_enter Tryz.func49, Tryz.ntmps49
  go_upto_region 1 with fail
  try rw [hW0]
  clear hW0
  have hKC := Lib.hid (HKC.out W0 (Kp.below K0.out))
  obtain ⟨c0, c1⟩ := cells2 (K0.out.2 _ (.tail _ (.head _)))
  go_upto_region 4 with (first
    | (go_at_call 77; (with_reducible refine hKC.out.mono ?_); rintro e w2 ⟨rfl, hb⟩; have K2 := Lib.hid (K0.out.call hb); clear hb K0 c0 c1 hKC HKC))
  obtain ⟨c0, c1⟩ := cells2 (K2.out.2 _ (.tail _ (.head _)))
  obtain ⟨g2, g3⟩ := HHC.out w2 (Kp.below K2.out)
  go_upto_region 6 with fail
  have hKS := Lib.hid (HKS.out w2 (Kp.below K2.out))
  clear HKS HHC g2 g3
  go_upto_region 7 with (first
    | (go_at_call 78; (with_reducible refine hKS.out.mono ?_); rintro e w3 ⟨rfl, hb⟩; have K3 := Lib.hid (K2.out.call hb); clear hb K2 c0 c1 hKS))
  refine wp_world (fun w' => Kp w w' [(w3.heap.size, (.cells #[.int .i64 p1, .int .i64 p2, .int .i64 p3] 73 (0, 0))), (w.heap.size + 1, (.cells #[.int .i64 0, .int .i64 0, .int .i64 0] 23 (0, 0))), (w.heap.size, (.cells #[.string s, .slice (some ⟨b, q, none⟩) n c] 90 (0, 0)))]) (by exact K3.out.alloc _) fun w4 k4 => ?_
  have K4 := Lib.hid k4
  clear k4
  obtain ⟨B7, hB7⟩ : ∃ B7, w3.heap.size = B7 := ⟨_, rfl⟩
  rw [hB7] at K4 ⊢
  clear hB7 K3
  obtain ⟨x0, x1, x2⟩ := cells3 (K4.out.2 _ (.head _))
  go_wp2_with (first
    | (go_at_call 61; (with_reducible refine (HKR.out _).mono ?_); rintro e w5 ⟨rfl, hb⟩; have K5 := Lib.hid (K4.out.call hb))
    | (go_at_call 62; (with_reducible refine (KV.out _).mono ?_); rintro e w6 ⟨rfl, hb⟩; have K6 := Lib.hid (K5.out.call hb); clear hb; obtain ⟨o0, o1, o2⟩ := cells3 (K6.out.2 _ (.tail _ (.head _))); have oz : ∀ j, w6.frozen? ⟨w.heap.size + 1, j, none⟩ = false := fun j => frozen_of_row w6 (w.heap.size + 1) j _ _ (K6.out.2 _ (.tail _ (.head _)))))
  have hb5 := Lib.hid (Kp.below K6.out)
  refine bodyPost_ret (v := .tuple #[.agg #[.int .i64 r1, .int .i64 r2, .int .i64 r3], .int .i64 0]) (by simp [results, Tryz.results49, go_sem, o0, o1, o2]) rfl ⟨rfl, ?_⟩
  exact ((hb5.out.setCell (show w.heap.size ≤ w.heap.size + 1 by omega) _).setCell (show w.heap.size ≤ w.heap.size + 1 by omega) _).setCell (show w.heap.size ≤ w.heap.size + 1 by omega) _

set_option maxRecDepth 100000 in
set_option maxHeartbeats 6400000 in
theorem risen_any (s : ByteArray) (b q n c : Nat) (tick r1 r2 r3 er : Int) (w : World)
    (KC : ∀ w1 : World, Below w.heap.size w w1 → Calls Tryz.prog 49 #[.agg #[.string s, .slice (some ⟨b, q, none⟩) n c], .int .i64 tick] w1 fun e w' => e = .returned (.tuple #[.agg #[.int .i64 r1, .int .i64 r2, .int .i64 r3], .int .i64 er]) ∧ Below w1.heap.size w1 w') :
    Calls Tryz.prog 51 #[.agg #[.string s, .slice (some ⟨b, q, none⟩) n c], .int .i64 tick] w fun e w' => e = .returned (.tuple #[.bool (decide (0 < r3)), .int .i64 er]) ∧ Below w.heap.size w w' := by
  have HKC := Lib.hid KC
  clear KC
  obtain ⟨bb, hbb⟩ : ∃ bb, decide (0 < r3) = bb := ⟨_, rfl⟩
  rw [hbb]
  obtain ⟨W0, hW0⟩ : ∃ W0, (w.alloc (.cells #[.string s, .slice (some ⟨b, q, none⟩) n c] 90)) = W0 := ⟨_, rfl⟩
  have K0 : Hid (Kp w W0 [(w.heap.size, (.cells #[.string s, .slice (some ⟨b, q, none⟩) n c] 90 (0, 0)))]) := Lib.hid (by
    rw [← hW0]
    have k := ((Kp.none w).alloc (.cells #[.string s, .slice (some ⟨b, q, none⟩) n c] 90))
    simpa using k)
  go_enter Tryz.func51, Tryz.ntmps51
  go_upto_region 1 with fail
  try rw [hW0]
  clear hW0
  have hKC := Lib.hid (HKC.out W0 (Kp.below K0.out))
  obtain ⟨c0, c1⟩ := cells2 (K0.out.2 _ (.head _))
  go_wp2_with (first
    | (go_at_call 49; (with_reducible refine hKC.out.mono ?_); rintro e w2 ⟨rfl, hb⟩; have K2 := Lib.hid (K0.out.call hb); clear hb K0 c0 c1 hKC HKC))
  go_ret2
  exact ⟨rfl, (Kp.below K2.out).alloc (Kp.below K2.out).size _⟩
end Go.Proofs.YtpflbkgmgfhhnaaGreatDoor
