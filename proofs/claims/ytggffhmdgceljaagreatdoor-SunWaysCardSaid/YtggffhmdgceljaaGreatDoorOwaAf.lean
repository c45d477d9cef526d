/-
  Contracts of lifted, stepOf, Bent and Unbent for valid air; the fixed examples of air.
-/
import Derived.Test.YtggffhmdgceljaaGreatDoorRows
import Derived.WalkKit
import Derived.WalkSpells
import Derived.WalkLawsBesides
import Derived.Lib.Hide
import Derived.BigQuiet
import Derived.Deep.QuietTactic
import Derived.Handy
import Derived.Deep.RegionHeld3
import Derived.Deep.RegionWith
import Derived.StillTailTactics
import Derived.RangeFuncNested
import Derived.RangeFuncBound
import Derived.RangeFuncCalls
import Derived.RangeFuncLeaves
import Derived.RangeFuncBox
import Derived.Shelf.Abstract
import Derived.Shelf.RegionOpen
import Derived.OwnWalkIn
import Derived.TacticsInMore
import Derived.LoopNIn
import Derived.LoopIn
import Derived.Maps.AppendAt
import Derived.Test.YtggffhmdgceljaaGreatDoorProg
import Derived.Laws.FloatArith
import Derived.Laws.BitsAllLaws
import Derived.Deep.DeepCutAuto
import Derived.Stop.BytesEq
import Derived.Deep.MidRow
import Derived.Laws.CopyRow
import Derived.WalkMore
import Derived.Deep.DrawnRows
import Derived.Deep.CutBlock
import Derived.Orders
import Derived.LoopTactic
import Derived.Laws.StructEq
import Derived.Deep.RegionLaw
import Derived.RegionTactic
import Derived.StillTail
import Derived.Laws.RangeString
import Derived.Laws.RangeAny
import Derived.Shelf.Strings.Builder1
import Derived.Shelf.Strings.OnBuilder
import Derived.Shelf.LaysM
import Derived.Shelf.Strconv.Itoa3
import Derived.Lib.AppendIntMem
import Derived.Lib.ItoaLen
import Derived.RowKit
import Derived.Test.YtggffhmdgceljaaGreatDoorOwaWn
import Derived.Test.YtggffhmdgceljaaGreatDoorOwaXe
import Derived.Test.YtggffhmdgceljaaGreatDoorOwaIb
import Derived.Test.YtggffhmdgceljaaGreatDoorOwaNd
import Derived.Test.YtggffhmdgceljaaGreatDoorOwaId
import Derived.Test.YtggffhmdgceljaaGreatDoorOwaIi
import Derived.Test.YtggffhmdgceljaaGreatDoorOwaNc
import Derived.Test.YtggffhmdgceljaaGreatDoorOwaNi
import Derived.Test.YtggffhmdgceljaaGreatDoorOwaIx
import Derived.Test.YtggffhmdgceljaaGreatDoorOwaNs
import Derived.Test.YtggffhmdgceljaaGreatDoorOwaNt
import Derived.Test.YtggffhmdgceljaaGreatDoorOwaWo
import Derived.Test.YtggffhmdgceljaaGreatDoorOwaNu
import Derived.Test.YtggffhmdgceljaaGreatDoorOwaNv
import Derived.Test.YtggffhmdgceljaaGreatDoorOwaNw
import Derived.Test.YtggffhmdgceljaaGreatDoorOwaNx
import Derived.Test.YtggffhmdgceljaaGreatDoorOwaNo
import Derived.Test.YtggffhmdgceljaaGreatDoorOwaNy
import Derived.Test.YtggffhmdgceljaaGreatDoorOwaAb
import Derived.Test.YtggffhmdgceljaaGreatDoorOwaAe
namespace Go.Proofs.YtggffhmdgceljaaGreatDoor
open Go.RowKit
set_option linter.unusedVariables false
set_option linter.unusedSimpArgs false

theorem flat3p_at : ∀ (L : List PlV) (k j : Nat) (v : Value), k < L.length → (L[k]?.getD plZ).val[j]? = some v → (L.flatMap PlV.val)[k * 3 + j]? = some v
  | [], k, _, _, h, _ => by simp at h
  | t :: L, 0, j, v, _, hv => by
    simp at hv
    have hj : j < 3 := by
      rcases Nat.lt_or_ge j 3 with h | h
      · exact h
      · rw [List.getElem?_eq_none (show t.val.length ≤ j from h)] at hv; cases hv
    rw [List.flatMap_cons, List.getElem?_append_left (show 0 * 3 + j < t.val.length by show 0 * 3 + j < 3; omega)]
    simpa using hv
  | t :: L, k + 1, j, v, h, hv => by
    rw [List.flatMap_cons, List.getElem?_append_right (show t.val.length ≤ (k + 1) * 3 + j by show 3 ≤ (k + 1) * 3 + j; omega), show (k + 1) * 3 + j - t.val.length = k * 3 + j by show (k + 1) * 3 + j - 3 = k * 3 + j; omega]
    exact flat3p_at L k j v (by simpa using h) (by simpa using hv)
theorem PlsAt.of_row {w : World} {B T : Nat} {v : Value} {n : Nat} {P : List PlV} (h0 : 0 < n) (h : w.ownsRow B T 3 v n (P.flatMap PlV.val)) : ∃ g cap, v = .slice (some ⟨g, 0, none⟩) n cap ∧ (PlsAt w g 0 P ∧ g < w.heap.size ∧ n ≤ cap) := by
  rcases h.2 with ⟨_, h1⟩ | ⟨g, cap, cur, rfl, _, hg, hc, _⟩
  · omega
  · refine ⟨g, cap, rfl, fun k hk i u hu => ?_, lt_of_blk hg, hc⟩
    have h2 := h.cells (g := g) rfl (k * 3 + i) u (flat3p_at P k i u hk hu)
    rw [Addr.add_mid] at h2
    rw [Nat.zero_add] at h2 ⊢
    exact h2

theorem lifted_any (x y z m : Int) (hx : -1000000 ≤ x ∧ x ≤ 1000000) (hy : -1000000 ≤ y ∧ y ≤ 1000000) (hz : -1000000 ≤ z ∧ z ≤ 1000000) (hm : -100 ≤ m ∧ m ≤ 100) (w : World) (hA : AxesAt w) (hg : 0 < w.heap.size) :
    Calls Tryz.prog 89 #[.agg #[.int .i64 x, .int .i64 y, .int .i64 z], .int .i64 m] w fun e w' => e = .returned (.agg #[.int .i64 (x * 64), .int .i64 (y * 64), .int .i64 (z * 64 + m * flatI x y)]) ∧ Below w.heap.size w w' := by
  have hf : -2000000 ≤ flatI x y ∧ flatI x y ≤ 2000000 := by unfold flatI; omega
  have hmf := mul_abs hm hf
  have f : ∀ {a : Int}, (-1000000 ≤ a ∧ a ≤ 1000000) → Fit (a * 64) := fun h => fit_abs h (show (-64 : Int) ≤ 64 ∧ (64 : Int) ≤ 64 by decide) (by omega)
  refine lifted_walk x y z m (flatI x y) (m * flatI x y) (x * 64) (y * 64) (z * 64) 0 0 (m * flatI x y) (x * 64) (y * 64) (z * 64 + m * flatI x y) w hA hg (fun w1 => ?_) (fun w1 => ?_) (IntWalk.i64_in _ ⟨by omega, by omega⟩) (fun w1 => ?_) (fun w1 => ?_)
  · exact times_any x y z 64 (f hx) (f hy) (f hz) w1
  · exact flat_any x y z (by omega) (by omega) w1
  · have h := times_any 0 0 1 (m * flatI x y) (by unfold Fit; omega) (by unfold Fit; omega) (by unfold Fit; omega) w1
    rwa [show (0 : Int) * (m * flatI x y) = 0 by omega, show (1 : Int) * (m * flatI x y) = m * flatI x y by omega] at h
  · have h := partsPlus_any (x * 64) (y * 64) (z * 64) 0 0 (m * flatI x y) (by unfold Fit; omega) (by unfold Fit; omega) (by unfold Fit; omega) w1
    rwa [show x * 64 + 0 = x * 64 by omega, show y * 64 + 0 = y * 64 by omega] at h

/-- The fixed air lies in a world. -/
def AirIn (w : World) (g : Nat) : Prop := StepsAt w g 0 airL ∧ g < w.heap.size
theorem AirIn.kept {w w' : World} {g : Nat} (h : AirIn w g) (hb : Below w.heap.size w w') : AirIn w' g := ⟨h.1.kept hb h.2, Nat.lt_of_lt_of_le h.2 hb.size⟩
def AxesIn (w : World) : Prop := AxesAt w ∧ 0 < w.heap.size
theorem AxesIn.on {w w' : World} (h : AxesIn w) (hb : Below w.heap.size w w') : AxesIn w' := ⟨fun k hk => (hb.cell h.2).trans (h.1 k hk), Nat.lt_of_lt_of_le h.2 hb.size⟩
def airP : List PlV := [⟨0, 0, -1⟩, ⟨0, 8, 0⟩, ⟨64, 0, 1⟩]
theorem ex_steps {w : World} {g : Nat} (h : AirIn w g) : Calls Tryz.prog 91 #[.slice (some ⟨g, 0, none⟩) 2 2] w fun e w' => ∃ g' cap, e = .returned (.slice (some ⟨g', 0, none⟩) 3 cap) ∧ (PlsAt w' g' 0 airP ∧ g' < w'.heap.size ∧ 3 ≤ cap) ∧ Below w.heap.size w w' :=
  (stepsOf_ok airL g 0 2 2 w h.1 h.2 rfl (by omega)).mono fun e w' ⟨v, he, ho, hb⟩ => by
    obtain ⟨g', cap, hv, hp⟩ := PlsAt.of_row (P := airP) (by omega) ho
    subst hv
    exact ⟨g', cap, he, hp, hb⟩
theorem ex_checkAir {w : World} {g : Nat} (h : AirIn w g) : Calls Tryz.prog 88 #[.slice (some ⟨g, 0, none⟩) 2 2] w fun e w' => e = .returned (.int .i64 0) ∧ Below w.heap.size w w' :=
  checkAir_ok airL g 0 2 2 w h.1 h.2 rfl airL_ok
theorem ex_stepOf (x y z : Int) (hx : -1000 ≤ x ∧ x ≤ 1000) (hy : -1000 ≤ y ∧ y ≤ 1000) (hz : -1000 ≤ z ∧ z ≤ 1000) (w : World) (g cap : Nat) (h : PlsAt w g 0 airP ∧ g < w.heap.size ∧ 3 ≤ cap) :
    Calls Tryz.prog 90 #[.slice (some ⟨g, 0, none⟩) 3 cap, .agg #[.int .i64 x, .int .i64 y, .int .i64 z]] w fun e w' => e = .returned (stTo airP (flatI x y) z 2).agg ∧ Below w.heap.size w w' := by
  have hf : -2000 ≤ flatI x y ∧ flatI x y ≤ 2000 := by unfold flatI; omega
  refine stepOf_walk airP g 0 3 cap x y z (flatI x y) w h.1 h.2.1 rfl (by omega) (by omega) h.2.2 (fun k hk => ?_) (IntWalk.i64_in _ ⟨by omega, by omega⟩) (fun w1 => flat_any x y z (by omega) (by omega) w1)
  match k, hk with
  | 0, _ => exact IntWalk.i64_in _ ⟨by show _ ≤ (0 : Int) * _; omega, by show (0 : Int) * _ ≤ _; omega⟩
  | 1, _ => exact IntWalk.i64_in _ ⟨by show _ ≤ (0 : Int) * _; omega, by show (0 : Int) * _ ≤ _; omega⟩
  | 2, _ => exact IntWalk.i64_in _ ⟨by show _ ≤ (64 : Int) * _; omega, by show (64 : Int) * _ ≤ _; omega⟩
theorem ex_bent1 {w : World} {g : Nat} (h : AirIn w g) (hX : AxesIn w) : Calls Tryz.prog 58 #[.slice (some ⟨g, 0, none⟩) 2 2, .agg #[.int .i64 4, .int .i64 0, .int .i64 1]] w fun e w' => e = .returned (.tuple #[.agg #[.int .i64 8, .int .i64 0, .int .i64 3], .int .i64 0]) ∧ Below w.heap.size w w' := by
  refine bent_walk airP g 0 2 2 3 4 0 1 0 8 0 256 0 96 8 0 3 (by decide) w (fun w1 hw => ex_checkAir (h.kept hw)) (fun w1 hw => ex_steps (h.kept hw)) (fun w1 g' cap hp => ?_) (fun w1 hw => ?_) (fun w1 => ?_)
  · exact ex_stepOf 4 0 1 (by omega) (by omega) (by omega) w1 g' cap hp
  · exact lifted_any 4 0 1 8 (by omega) (by omega) (by omega) (by omega) w1 (hX.on hw).1 (hX.on hw).2
  · exact reduced_any 256 0 96 (by unfold Mid; omega) (by unfold Mid; omega) (by unfold Mid; omega) (by decide) w1
theorem ex_bent2 {w : World} {g : Nat} (h : AirIn w g) (hX : AxesIn w) : Calls Tryz.prog 58 #[.slice (some ⟨g, 0, none⟩) 2 2, .agg #[.int .i64 1, .int .i64 0, .int .i64 1]] w fun e w' => e = .returned (.tuple #[.agg #[.int .i64 1, .int .i64 0, .int .i64 1], .int .i64 0]) ∧ Below w.heap.size w w' := by
  refine bent_walk airP g 0 2 2 3 1 0 1 64 0 1 64 0 64 1 0 1 (by decide) w (fun w1 hw => ex_checkAir (h.kept hw)) (fun w1 hw => ex_steps (h.kept hw)) (fun w1 g' cap hp => ?_) (fun w1 hw => ?_) (fun w1 => ?_)
  · exact ex_stepOf 1 0 1 (by omega) (by omega) (by omega) w1 g' cap hp
  · exact lifted_any 1 0 1 0 (by omega) (by omega) (by omega) (by omega) w1 (hX.on hw).1 (hX.on hw).2
  · exact reduced_any 64 0 64 (by unfold Mid; omega) (by unfold Mid; omega) (by unfold Mid; omega) (by decide) w1
def airD : List P3 := [⟨512, 0, 192⟩, ⟨512, 0, 128⟩, ⟨512, 0, 192⟩]
def airS : List PlV := [⟨0, 8, 0⟩, ⟨0, 8, 0⟩, ⟨0, 8, 0⟩]
theorem ex_unbent {w : World} {g : Nat} (h : AirIn w g) (hX : AxesIn w) : Calls Tryz.prog 60 #[.slice (some ⟨g, 0, none⟩) 2 2, .agg #[.int .i64 8, .int .i64 0, .int .i64 3]] w fun e w' => ∃ v, e = .returned (.tuple #[v, .int .i64 0]) ∧ w'.ownsRow w.heap.size 23 3 v 1 [.int .i64 4, .int .i64 0, .int .i64 1] ∧ Below w.heap.size w w' := by
  refine unbent_walk airP airS airD [⟨4, 0, 1⟩] g 0 2 2 3 8 0 3 (by decide) rfl rfl (by omega) w (fun w1 hw => ex_checkAir (h.kept hw)) (fun w1 hw => ex_steps (h.kept hw)) (fun k w1 g' cap hk hp => ?_) (fun k w1 hk hw => ?_) (fun k hk => ?_) (fun j hj w1 => ?_)
  · match k, hk with
    | 0, _ => exact ex_stepOf 512 0 192 (by omega) (by omega) (by omega) w1 g' cap hp
    | 1, _ => exact ex_stepOf 512 0 128 (by omega) (by omega) (by omega) w1 g' cap hp
    | 2, _ => exact ex_stepOf 512 0 192 (by omega) (by omega) (by omega) w1 g' cap hp
  · match k, hk with
    | 0, _ => exact lifted_any 8 0 3 0 (by omega) (by omega) (by omega) (by omega) w1 (hX.on hw).1 (hX.on hw).2
    | 1, _ => exact lifted_any 8 0 3 (-8) (by omega) (by omega) (by omega) (by omega) w1 (hX.on hw).1 (hX.on hw).2
    | 2, _ => exact lifted_any 8 0 3 0 (by omega) (by omega) (by omega) (by omega) w1 (hX.on hw).1 (hX.on hw).2
  · match k, hk with
    | 0, _ => rfl
    | 1, _ => rfl
    | 2, _ => rfl
  · match j, hj with
    | 0, _ => exact reduced_any 512 0 128 (by unfold Mid; omega) (by unfold Mid; omega) (by unfold Mid; omega) (by decide) w1
end Go.Proofs.YtggffhmdgceljaaGreatDoor
