/-
  Contracts of sunAt and At for a tick between two told suns of a valid sky; the fixed sky and air of chapter 2's examples.
-/
import Derived.Test.YtggffhmdgceljaaGreatDoorRows
import Derived.WalkKit
import Derived.WalkSpells
import Derived.WalkLawsBesides
import Derived.Lib.Hide
import Derived.BigQuiet
import Derived.Deep.QuietTactic
import Derived.Handy
import Derived.Deep.RegionHeld3
import Derived.Deep.RegionWith
import Derived.StillTailTactics
import Derived.RangeFuncNested
import Derived.RangeFuncBound
import Derived.RangeFuncCalls
import Derived.RangeFuncLeaves
import Derived.RangeFuncBox
import Derived.Shelf.Abstract
import Derived.Shelf.RegionOpen
import Derived.OwnWalkIn
import Derived.TacticsInMore
import Derived.LoopNIn
import Derived.LoopIn
import Derived.Maps.AppendAt
import Derived.Test.YtggffhmdgceljaaGreatDoorProg
import Derived.Laws.FloatArith
import Derived.Laws.BitsAllLaws
import Derived.Deep.DeepCutAuto
import Derived.Stop.BytesEq
import Derived.Deep.MidRow
import Derived.Laws.CopyRow
import Derived.WalkMore
import Derived.Deep.DrawnRows
import Derived.Deep.CutBlock
import Derived.Orders
import Derived.LoopTactic
import Derived.Laws.StructEq
import Derived.Deep.RegionLaw
import Derived.RegionTactic
import Derived.StillTail
import Derived.Laws.RangeString
import Derived.Laws.RangeAny
import Derived.Shelf.Strings.Builder1
import Derived.Shelf.Strings.OnBuilder
import Derived.Shelf.LaysM
import Derived.Shelf.Strconv.Itoa3
import Derived.Lib.AppendIntMem
import Derived.Lib.ItoaLen
import Derived.RowKit
import Derived.Test.YtggffhmdgceljaaGreatDoorOwaWn
import Derived.Test.YtggffhmdgceljaaGreatDoorOwaXe
import Derived.Test.YtggffhmdgceljaaGreatDoorOwaIb
import Derived.Test.YtggffhmdgceljaaGreatDoorOwaNd
import Derived.Test.YtggffhmdgceljaaGreatDoorOwaId
import Derived.Test.YtggffhmdgceljaaGreatDoorOwaIi
import Derived.Test.YtggffhmdgceljaaGreatDoorOwaNc
import Derived.Test.YtggffhmdgceljaaGreatDoorOwaNi
import Derived.Test.YtggffhmdgceljaaGreatDoorOwaNl
import Derived.Test.YtggffhmdgceljaaGreatDoorOwaNt
import Derived.Test.YtggffhmdgceljaaGreatDoorOwaWo
import Derived.Test.YtggffhmdgceljaaGreatDoorOwaNv
import Derived.Test.YtggffhmdgceljaaGreatDoorOwaNx
import Derived.Test.YtggffhmdgceljaaGreatDoorOwaNo
import Derived.Test.YtggffhmdgceljaaGreatDoorOwaNy
namespace Go.Proofs.YtggffhmdgceljaaGreatDoor
open Go.RowKit
set_option linter.unusedVariables false
set_option linter.unusedSimpArgs false

/-- The sun at a tick, not reduced. -/
def sunP (L : List SunV) (j : Nat) (t : Int) : Int × Int × Int :=
  ((L[j]?.getD sunZ).x * ((L[j + 1]?.getD sunZ).t - t) + (L[j + 1]?.getD sunZ).x * (t - (L[j]?.getD sunZ).t),
   (L[j]?.getD sunZ).y * ((L[j + 1]?.getD sunZ).t - t) + (L[j + 1]?.getD sunZ).y * (t - (L[j]?.getD sunZ).t),
   (L[j]?.getD sunZ).z * ((L[j + 1]?.getD sunZ).t - t) + (L[j + 1]?.getD sunZ).z * (t - (L[j]?.getD sunZ).t))

set_option maxHeartbeats 1600000 in
theorem sunAt_sky {L : List SunV} {b q n c j : Nat} {t : Int} (hS : SkyOk L) (hn : L.length = n) (hc : n ≤ c) (hj : j + 1 < n) (hlo : ∀ i, i < j → (L[i + 1]?.getD sunZ).t < t) (hhi : t ≤ (L[j + 1]?.getD sunZ).t) (hu : (L[j]?.getD sunZ).t ≤ t) (w : World) (hA : SunsAt w b q L) (hb : b < w.heap.size) :
    Calls Tryz.prog 84 #[.slice (some ⟨b, q, none⟩) n c, .int .i64 t] w fun e w' => e = .returned (.agg #[.int .i64 (sunP L j t).1, .int .i64 (sunP L j t).2.1, .int .i64 (sunP L j t).2.2]) ∧ Below w.heap.size w w' := by
  have s1 := hS.all j (by omega)
  have s2 := hS.all (j + 1) (by omega)
  have g := hS.gaps (j + 1) (by omega) (by omega)
  rw [Nat.add_sub_cancel] at g
  have hm := hS.most
  have KA := fun (w1 : World) (hw : Below w.heap.size w w1) => around_ok L b q n c j t w1 (hA.kept hw hb) (Nat.lt_of_lt_of_le hb hw.size) hn (by omega) hc hj hlo hhi
  unfold sunP
  obtain ⟨a, ha⟩ : ∃ a, L[j]?.getD sunZ = a := ⟨_, rfl⟩
  obtain ⟨d, hd⟩ : ∃ d, L[j + 1]?.getD sunZ = d := ⟨_, rfl⟩
  rw [ha] at s1 hu g KA ⊢
  rw [hd] at s2 hhi g KA ⊢
  obtain ⟨a1, a2, a3⟩ := s1.parts
  obtain ⟨d1, d2, d3⟩ := s2.parts
  have t1 := s1.tick
  have t2 := s2.tick
  have m1 : -200 ≤ d.t - t ∧ d.t - t ≤ 200 := by omega
  have m2 : -200 ≤ t - a.t ∧ t - a.t ≤ 200 := by omega
  have f : ∀ {x k : Int}, (-4096 ≤ x ∧ x ≤ 4096) → (-200 ≤ k ∧ k ≤ 200) → Fit (x * k) ∧ (-819200 ≤ x * k ∧ x * k ≤ 819200) := fun hx hk => ⟨fit_abs hx hk (by omega), mul_abs hx hk⟩
  have b1 := f a1 m1
  have b2 := f a2 m1
  have b3 := f a3 m1
  have c1 := f d1 m2
  have c2 := f d2 m2
  have c3 := f d3 m2
  exact sunAt_walk _ t a.t a.x a.y a.z d.t d.x d.y d.z (d.t - t) (t - a.t) _ _ _ _ _ _ _ _ _ w KA (IntWalk.i64_in _ ⟨by omega, by omega⟩) (IntWalk.i64_in _ ⟨by omega, by omega⟩)
    (fun w1 => times_any a.x a.y a.z _ b1.1 b2.1 b3.1 w1) (fun w1 => times_any d.x d.y d.z _ c1.1 c2.1 c3.1 w1)
    (fun w1 => partsPlus_any _ _ _ _ _ _ (by unfold Fit; omega) (by unfold Fit; omega) (by unfold Fit; omega) w1)

/-- The suns and the steps of the document's examples. -/
def dayL : List SunV := [⟨0, 3, 0, 0⟩, ⟨10, 2, 1, 2⟩, ⟨20, -1, 2, 2⟩]
def airL : List StepV := [⟨0, 8⟩, ⟨64, 0⟩]
theorem dayL_ok : SkyOk dayL :=
  ⟨by decide, by decide, fun k hk => by
    match k, hk with
    | 0, _ => exact ⟨by decide, by decide, by decide⟩
    | 1, _ => exact ⟨by decide, by decide, by decide⟩
    | 2, _ => exact ⟨by decide, by decide, by decide⟩, fun k h0 hk => by
    match k, h0, hk with
    | 1, _, _ => exact ⟨by decide, by decide⟩
    | 2, _, _ => exact ⟨by decide, by decide⟩⟩
theorem airL_ok : AirOk airL :=
  ⟨by decide, fun k hk => by
    match k, hk with
    | 0, _ => exact ⟨by decide, by decide⟩
    | 1, _ => exact ⟨by decide, by decide⟩, fun k hk => by
    match k, hk with
    | 0, _ => decide⟩
theorem vec_any (x y z : Int) (w : World) :
    Calls Tryz.prog 55 #[.int .i64 x, .int .i64 y, .int .i64 z] w fun e w' => e = .returned (.agg #[.int .i64 x, .int .i64 y, .int .i64 z]) ∧ Below w.heap.size w w' := by
  go_enter Tryz.func55, Tryz.ntmps55
  go_wp2_with fail
  refine bodyPost_ret (v := .agg #[.int .i64 x, .int .i64 y, .int .i64 z]) (by simp [results, Tryz.results55, go_sem]) rfl ⟨rfl, ?_⟩
  first
    | exact (Below.refl _ w).alloc (Nat.le_refl _) _
    | exact ((((Below.refl _ w).alloc (Nat.le_refl _) _).setCell (Nat.le_refl _) _).setCell (Nat.le_refl _) _).setCell (Nat.le_refl _) _
theorem suns_blk {w : World} {g : Nat} {T : TypeId} (h : w.heap[g]? = some (.cells #[.int .i64 0, .int .i64 3, .int .i64 0, .int .i64 0, .int .i64 10, .int .i64 2, .int .i64 1, .int .i64 2, .int .i64 20, .int .i64 (-1), .int .i64 2, .int .i64 2] T (0, 0))) : SunsAt w g 0 dayL := fun k hk j v hv => by
  rw [cell_of_row w g (0 + k * 4 + j) _ _ (0, 0) h]
  match k, hk, j, hv with
  | 0, _, 0, hv => exact hv
  | 0, _, 1, hv => exact hv
  | 0, _, 2, hv => exact hv
  | 0, _, 3, hv => exact hv
  | 1, _, 0, hv => exact hv
  | 1, _, 1, hv => exact hv
  | 1, _, 2, hv => exact hv
  | 1, _, 3, hv => exact hv
  | 2, _, 0, hv => exact hv
  | 2, _, 1, hv => exact hv
  | 2, _, 2, hv => exact hv
  | 2, _, 3, hv => exact hv
theorem steps_blk {w : World} {g : Nat} {T : TypeId} (h : w.heap[g]? = some (.cells #[.int .i64 0, .int .i64 8, .int .i64 64, .int .i64 0] T (0, 0))) : StepsAt w g 0 airL := fun k hk j v hv => by
  rw [cell_of_row w g (0 + k * 2 + j) _ _ (0, 0) h]
  match k, hk, j, hv with
  | 0, _, 0, hv => exact hv
  | 0, _, 1, hv => exact hv
  | 1, _, 0, hv => exact hv
  | 1, _, 1, hv => exact hv
def DayP (w : World) (e : Ending) (w' : World) : Prop := ∃ g, e = .returned (.agg #[.string ⟨#[115]⟩, .slice (some ⟨g, 0, none⟩) 3 3]) ∧ (SunsAt w' g 0 dayL ∧ g < w'.heap.size) ∧ Below w.heap.size w w'
set_option maxRecDepth 100000 in
set_option maxHeartbeats 1600000 in
theorem day_any (w : World) : Calls Tryz.prog 57 #[] w (DayP w) := by
  have KV : Hid (∀ (x y z : Int) (w1 : World), Calls Tryz.prog 55 #[.int .i64 x, .int .i64 y, .int .i64 z] w1 fun e w' => e = .returned (.agg #[.int .i64 x, .int .i64 y, .int .i64 z]) ∧ Below w1.heap.size w1 w') := Lib.hid vec_any
  have K0 : Hid (Kp w (w.alloc (.cells #[.string ⟨#[]⟩, .slice none 0 0] 80)) [(w.heap.size, .cells #[.string ⟨#[]⟩, .slice none 0 0] 80 (0, 0))]) := Lib.hid ((Kp.none w).alloc _)
  go_enter Tryz.func57, Tryz.ntmps57
  go_wp2_with (first
    | (go_at_call 55; (with_reducible refine (KV.out 3 0 0 _).mono ?_); rintro e w1 ⟨rfl, hb⟩; have K1 := Lib.hid (K0.out.call hb); clear hb)
    | (go_at_call 55; (with_reducible refine (KV.out 2 1 2 _).mono ?_); rintro e w2 ⟨rfl, hb⟩; have K2 := Lib.hid (K1.out.call hb); clear hb)
    | (go_at_call 55; (with_reducible refine (KV.out (-1) 2 2 _).mono ?_); rintro e w3 ⟨rfl, hb⟩; have K3 := Lib.hid (K2.out.call hb); obtain ⟨c0, c1⟩ := cells2 (K3.out.2 _ (.head _)); have cz : ∀ j, w3.frozen? ⟨w.heap.size, j, none⟩ = false := fun j => frozen_of_row w3 w.heap.size j _ _ (K3.out.2 _ (.head _)); have hsz := (Kp.below K3.out).size; have hlt : w.heap.size < w3.heap.size := lt_of_blk (K3.out.2 _ (.head _)); clear hb))
  have hB3 : Below w.heap.size w ((w3.setCell ⟨w.heap.size, 0, none⟩ (.string ⟨#[115]⟩)).setCell ⟨w.heap.size, 1, none⟩ (.slice (some ⟨w3.heap.size, 0, none⟩) 3 3)) := ((Kp.below K3.out).setCell (Nat.le_refl _) _).setCell (Nat.le_refl _) _
  have hs3 : ((w3.setCell ⟨w.heap.size, 0, none⟩ (.string ⟨#[115]⟩)).setCell ⟨w.heap.size, 1, none⟩ (.slice (some ⟨w3.heap.size, 0, none⟩) 3 3)).heap.size = w3.heap.size := by simp
  obtain ⟨d0, d1⟩ := cells2 (blk_alloc_other (blk_set2 (K3.out.2 _ (.head _)) (.string ⟨#[115]⟩) (.slice (some ⟨w3.heap.size, 0, none⟩) 3 3)) (.cells #[.int .i64 0, .int .i64 3, .int .i64 0, .int .i64 0, .int .i64 10, .int .i64 2, .int .i64 1, .int .i64 2, .int .i64 20, .int .i64 (-1), .int .i64 2, .int .i64 2] 139))
  refine bodyPost_ret (v := .agg #[.string ⟨#[115]⟩, .slice (some ⟨w3.heap.size, 0, none⟩) 3 3]) (by simp [results, Tryz.results57, go_sem, d0, d1]) rfl ⟨w3.heap.size, rfl, ?_, ?_⟩
  · have hn := World.alloc_heap_new ((w3.setCell ⟨w.heap.size, 0, none⟩ (.string ⟨#[115]⟩)).setCell ⟨w.heap.size, 1, none⟩ (.slice (some ⟨w3.heap.size, 0, none⟩) 3 3)) (.cells #[.int .i64 0, .int .i64 3, .int .i64 0, .int .i64 0, .int .i64 10, .int .i64 2, .int .i64 1, .int .i64 2, .int .i64 20, .int .i64 (-1), .int .i64 2, .int .i64 2] 139)
    rw [hs3] at hn
    exact ⟨suns_blk hn, by simp⟩
  · exact hB3.alloc hB3.size _
def AirP (w : World) (e : Ending) (w' : World) : Prop := ∃ g, e = .returned (.slice (some ⟨g, 0, none⟩) 2 2) ∧ (StepsAt w' g 0 airL ∧ g < w'.heap.size) ∧ Below w.heap.size w w'
theorem air_any (w : World) : Calls Tryz.prog 59 #[] w (AirP w) := by
  go_enter Tryz.func59, Tryz.ntmps59
  go_wp2_with fail
  refine bodyPost_ret (v := .slice (some ⟨w.heap.size, 0, none⟩) 2 2) (by simp [results, Tryz.results59, go_sem]) rfl ⟨w.heap.size, rfl, ⟨steps_blk (World.alloc_heap_new w _), by simp⟩, below_allocS (Below.refl _ _) _⟩
end Go.Proofs.YtggffhmdgceljaaGreatDoor
