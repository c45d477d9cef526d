/-
  Contracts of the fixed examples of chapter 2: the calls of skies and of air.
-/
import Derived.Test.YtggffhmdgceljaaGreatDoorRows
import Derived.WalkKit
import Derived.WalkSpells
import Derived.WalkLawsBesides
import Derived.Lib.Hide
import Derived.BigQuiet
import Derived.Deep.QuietTactic
import Derived.Handy
import Derived.Deep.RegionHeld3
import Derived.Deep.RegionWith
import Derived.StillTailTactics
import Derived.RangeFuncNested
import Derived.RangeFuncBound
import Derived.RangeFuncCalls
import Derived.RangeFuncLeaves
import Derived.RangeFuncBox
import Derived.Shelf.Abstract
import Derived.Shelf.RegionOpen
import Derived.OwnWalkIn
import Derived.TacticsInMore
import Derived.LoopNIn
import Derived.LoopIn
import Derived.Maps.AppendAt
import Derived.Test.YtggffhmdgceljaaGreatDoorProg
import Derived.Laws.FloatArith
import Derived.Laws.BitsAllLaws
import Derived.Deep.DeepCutAuto
import Derived.Stop.BytesEq
import Derived.Deep.MidRow
import Derived.Laws.CopyRow
import Derived.WalkMore
import Derived.Deep.DrawnRows
import Derived.Deep.CutBlock
import Derived.Orders
import Derived.LoopTactic
import Derived.Laws.StructEq
import Derived.Deep.RegionLaw
import Derived.RegionTactic
import Derived.StillTail
import Derived.Laws.RangeString
import Derived.Laws.RangeAny
import Derived.Shelf.Strings.Builder1
import Derived.Shelf.Strings.OnBuilder
import Derived.Shelf.LaysM
import Derived.Shelf.Strconv.Itoa3
import Derived.Lib.AppendIntMem
import Derived.Lib.ItoaLen
import Derived.RowKit
import Derived.Test.YtggffhmdgceljaaGreatDoorOwaWn
import Derived.Test.YtggffhmdgceljaaGreatDoorOwaXe
import Derived.Test.YtggffhmdgceljaaGreatDoorOwaNd
import Derived.Test.YtggffhmdgceljaaGreatDoorOwaId
import Derived.Test.YtggffhmdgceljaaGreatDoorOwaWo
import Derived.Test.YtggffhmdgceljaaGreatDoorOwaNc
import Derived.Test.YtggffhmdgceljaaGreatDoorOwaNh
import Derived.Test.YtggffhmdgceljaaGreatDoorOwaNi
import Derived.Test.YtggffhmdgceljaaGreatDoorOwaNa
import Derived.Test.YtggffhmdgceljaaGreatDoorOwaNt
import Derived.Test.YtggffhmdgceljaaGreatDoorOwaNv
import Derived.Test.YtggffhmdgceljaaGreatDoorOwaNx
import Derived.Test.YtggffhmdgceljaaGreatDoorOwaNz
import Derived.Test.YtggffhmdgceljaaGreatDoorOwaNo
import Derived.Test.YtggffhmdgceljaaGreatDoorOwaNy
import Derived.Test.YtggffhmdgceljaaGreatDoorOwaAb
namespace Go.Proofs.YtggffhmdgceljaaGreatDoor
open Go.RowKit Go.Shelf
set_option linter.unusedVariables false
set_option linter.unusedSimpArgs false

/-- The fixed sky lies in a world. -/
def DayIn (w : World) (g : Nat) : Prop := SunsAt w g 0 dayL ∧ g < w.heap.size
theorem DayIn.kept {w w' : World} {g : Nat} (h : DayIn w g) (hb : Below w.heap.size w w') : DayIn w' g := ⟨h.1.kept hb h.2, Nat.lt_of_lt_of_le h.2 hb.size⟩
theorem name_s : nameB ⟨#[115]⟩ = true := nameB_yes ⟨by decide, by decide, fun i h => by
  match i, h with
  | 0, _ => exact .inl (.inr (show (97 : Int) ≤ 115 ∧ (115 : Int) ≤ 122 by decide))⟩
theorem ex_checkSky {w : World} {g : Nat} (h : DayIn w g) : Calls Tryz.prog 81 #[.agg #[.string ⟨#[115]⟩, .slice (some ⟨g, 0, none⟩) 3 3]] w fun e w' => e = .returned (.int .i64 0) ∧ Below w.heap.size w w' :=
  checkSky_ok ⟨#[115]⟩ dayL g 0 3 3 w (by decide) name_s h.1 h.2 dayL_ok rfl
theorem DayIn.ends {w : World} {g : Nat} (h : DayIn w g) : w.cell? ⟨g, 0, none⟩ = some (.int .i64 0) ∧ w.cell? ⟨g, 0 + (3 - 1) * 4, none⟩ = some (.int .i64 20) :=
  ⟨(h.1.cell0 (show 0 < dayL.length by decide)).1, (h.1.cell0 (show 2 < dayL.length by decide)).1⟩
def dayJ (k : Nat) : Nat := if k ≤ 10 then 0 else 1
def dayP (k : Nat) : Int × Int × Int := sunP dayL (dayJ k) (k : Int)
theorem ex_sunAt {w : World} {g : Nat} (h : DayIn w g) (k : Nat) (hk : k ≤ 20) :
    Calls Tryz.prog 84 #[.slice (some ⟨g, 0, none⟩) 3 3, .int .i64 (k : Int)] w fun e w' => e = .returned (.agg #[.int .i64 (dayP k).1, .int .i64 (dayP k).2.1, .int .i64 (dayP k).2.2]) ∧ Below w.heap.size w w' := by
  unfold dayP dayJ
  by_cases h1 : k ≤ 10
  · rw [if_pos h1]
    refine sunAt_sky (L := dayL) (n := 3) (c := 3) (j := 0) dayL_ok rfl (by omega) (by omega) (fun i hi => absurd hi (by omega)) ?_ ?_ w h.1 h.2
    · show (k : Int) ≤ 10
      omega
    · show (0 : Int) ≤ k
      omega
  · rw [if_neg h1]
    refine sunAt_sky (L := dayL) (n := 3) (c := 3) (j := 1) dayL_ok rfl (by omega) (by omega) (fun i hi => ?_) ?_ ?_ w h.1 h.2
    · match i, hi with
      | 0, _ =>
        show (10 : Int) < k
        omega
    · show (k : Int) ≤ 20
      omega
    · show (10 : Int) ≤ k
      omega
theorem ex_at {w : World} {g : Nat} (h : DayIn w g) : Calls Tryz.prog 37 #[.agg #[.string ⟨#[115]⟩, .slice (some ⟨g, 0, none⟩) 3 3], .int .i64 5] w fun e w' => e = .returned (.tuple #[.agg #[.int .i64 5, .int .i64 1, .int .i64 2], .int .i64 0]) ∧ Below w.heap.size w w' := by
  refine at_ok ⟨#[115]⟩ g 0 3 3 5 0 20 25 5 10 5 1 2 w (by omega) (by omega) (fun w1 hw => ex_checkSky (h.kept hw)) (fun w1 hw => ?_) (fun w1 hw => (h.kept hw).ends) (by decide) (by decide) (by decide) (fun w1 => ?_)
  · exact ex_sunAt (h.kept hw) 5 (by omega)
  · exact reduced_any 25 5 10 (by unfold Mid; omega) (by unfold Mid; omega) (by unfold Mid; omega) (by decide) w1
theorem ex_risen {w : World} {g : Nat} (h : DayIn w g) : Calls Tryz.prog 38 #[.agg #[.string ⟨#[115]⟩, .slice (some ⟨g, 0, none⟩) 3 3], .int .i64 0] w fun e w' => e = .returned (.tuple #[.bool false, .int .i64 0]) ∧ Below w.heap.size w w' := by
  refine risen_any ⟨#[115]⟩ g 0 3 3 0 1 0 0 0 w (fun w0 hw0 => ?_)
  have h := h.kept hw0
  refine at_ok ⟨#[115]⟩ g 0 3 3 0 0 20 30 0 0 1 0 0 w0 (by omega) (by omega) (fun w1 hw => ex_checkSky (h.kept hw)) (fun w1 hw => ?_) (fun w1 hw => (h.kept hw).ends) (by decide) (by decide) (by decide) (fun w1 => ?_)
  · exact ex_sunAt (h.kept hw) 0 (by omega)
  · exact reduced_any 30 0 0 (by unfold Mid; omega) (by unfold Mid; omega) (by unfold Mid; omega) (by decide) w1
theorem day_spans : dayF 0 dayP (List.range (20 + 1)) = [(1, 21)] := by decide
theorem ex_daylight {w : World} {g : Nat} (h : DayIn w g) : Calls Tryz.prog 34 #[.agg #[.string ⟨#[115]⟩, .slice (some ⟨g, 0, none⟩) 3 3]] w fun e w' => ∃ v, e = .returned (.tuple #[v, .int .i64 0]) ∧
      w'.ownsRow w.heap.size 86 2 v 1 [.int .i64 1, .int .i64 21] ∧ Below w.heap.size w w' := by
  have hd := callsIn_wide.1 (daylight_ok ⟨#[115]⟩ dayL g 0 3 3 20 0 dayP w h.2 h.1 rfl (by omega) (by omega) (by omega) (by rfl) (by rfl) (by omega) (fun k W hk hA hb => by
    have := ex_sunAt (w := W) (g := g) ⟨hA, hb⟩ k hk
    rwa [show ((0 : Nat) : Int) + (k : Int) = (k : Int) by omega]) (fun w1 hw => ex_checkSky (h.kept hw)))
  rw [day_spans] at hd
  exact hd
theorem ex_highest {w : World} {g : Nat} (h : DayIn w g) : Calls Tryz.prog 36 #[.agg #[.string ⟨#[115]⟩, .slice (some ⟨g, 0, none⟩) 3 3]] w fun e w' => e = .returned (.tuple #[.int .i64 1, .int .i64 0]) ∧ Below w.heap.size w w' :=
  highest_ok ⟨#[115]⟩ dayL g 0 3 3 w h.1 h.2 rfl (by omega) (by omega) (fun w1 hw => ex_checkSky (h.kept hw))
def dayText : List UInt8 := [115, 107, 121, 32, 115, 10, 115, 117, 110, 32, 48, 32, 51, 32, 48, 32, 48, 10, 115, 117, 110, 32, 49, 48, 32, 50, 32, 49, 32, 50, 10, 115, 117, 110, 32, 50, 48, 32, 45, 49, 32, 50, 32, 50, 10]
theorem sun_itoa1 (u : Nat) (h : u < 10) : Lib.itoa u = [UInt8.ofNat (48 + u)] := by
  have e : Lib.decDigits u = [UInt8.ofNat (48 + u)] := by rw [Lib.decDigits, dif_pos h]
  unfold Lib.itoa
  rw [if_neg (by omega)]
  simpa using e
theorem sun_itoa2 (u : Nat) (h : ¬ u < 10) (h2 : u / 10 < 10) : Lib.itoa u = [UInt8.ofNat (48 + u / 10), UInt8.ofNat (48 + u % 10)] := by
  have e1 : Lib.decDigits (u / 10) = [UInt8.ofNat (48 + u / 10)] := by rw [Lib.decDigits, dif_pos h2]
  have e : Lib.decDigits u = [UInt8.ofNat (48 + u / 10), UInt8.ofNat (48 + u % 10)] := by rw [Lib.decDigits, dif_neg h, e1]; rfl
  unfold Lib.itoa
  rw [if_neg (by omega)]
  simpa using e
theorem sun_itoaN (u : Nat) (h : u < 10) (h0 : 0 < u) : Lib.itoa (-(u : Int)) = [45, UInt8.ofNat (48 + u)] := by
  have e : Lib.decDigits u = [UInt8.ofNat (48 + u)] := by rw [Lib.decDigits, dif_pos h]
  unfold Lib.itoa
  rw [if_pos (by omega)]
  simpa using e
theorem day_join : Lib.join (dayL.map sunLine) [] = dayText.drop 6 := by
  have a0 := sun_itoa1 0 (by omega)
  have a1 := sun_itoa1 1 (by omega)
  have a2 := sun_itoa1 2 (by omega)
  have a3 := sun_itoa1 3 (by omega)
  have b1 := sun_itoa2 10 (by omega) (by omega)
  have b2 := sun_itoa2 20 (by omega) (by omega)
  have n1 := sun_itoaN 1 (by omega) (by omega)
  simp only [dayL, sunLine, lineL, List.map_cons, List.map_nil, Lib.join]
  rw [show Lib.itoa 0 = [48] from a0, show Lib.itoa 1 = [49] from a1, show Lib.itoa 2 = [50] from a2, show Lib.itoa 3 = [51] from a3, show Lib.itoa 10 = [49, 48] from b1, show Lib.itoa 20 = [50, 48] from b2, show Lib.itoa (-1) = [45, 49] from n1]
  rfl
theorem day_text : skyT (⟨#[115]⟩ : ByteArray).data.toList dayL = dayText := by
  unfold skyT
  rw [day_join]
  rfl
theorem ex_print {w : World} {g : Nat} (h : DayIn w g) (ht : TabAt w) : Calls Tryz.prog 61 #[.agg #[.string ⟨#[115]⟩, .slice (some ⟨g, 0, none⟩) 3 3]] w fun e w' => e = .returned (.tuple #[strV dayText, .int .i64 0]) ∧ Below w.heap.size w w' := by
  have hp := print_ok ⟨#[115]⟩ dayL g 0 3 3 w h.1 h.2 rfl (by omega) (by omega) ht (fun j hj => (dayL_ok.all j hj).fit) (by rw [day_join]; decide) (by decide) (fun w1 hw => ex_checkSky (h.kept hw))
  rwa [day_text] at hp
end Go.Proofs.YtggffhmdgceljaaGreatDoor
