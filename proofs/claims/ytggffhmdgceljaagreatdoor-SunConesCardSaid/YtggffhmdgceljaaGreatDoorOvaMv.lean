/-
  SunCones holds.
-/
import Derived.Test.YtggffhmdgceljaaGreatDoorRows
import Derived.WalkKit
import Derived.WalkSpells
import Derived.WalkLawsBesides
import Derived.Lib.Hide
import Derived.BigQuiet
import Derived.Deep.QuietTactic
import Derived.Handy
import Derived.Deep.RegionHeld3
import Derived.Deep.RegionWith
import Derived.StillTailTactics
import Derived.RangeFuncNested
import Derived.RangeFuncBound
import Derived.RangeFuncCalls
import Derived.RangeFuncLeaves
import Derived.RangeFuncBox
import Derived.Shelf.Abstract
import Derived.Shelf.RegionOpen
import Derived.OwnWalkIn
import Derived.TacticsInMore
import Derived.LoopNIn
import Derived.LoopIn
import Derived.Maps.AppendAt
import Derived.Test.YtggffhmdgceljaaGreatDoorProg
import Derived.Laws.FloatArith
import Derived.Laws.BitsAllLaws
import Derived.Deep.DeepCutAuto
import Derived.Stop.BytesEq
import Derived.Deep.MidRow
import Derived.Laws.CopyRow
import Derived.WalkMore
import Derived.Deep.DrawnRows
import Derived.Deep.CutBlock
import Derived.Orders
import Derived.LoopTactic
import Derived.Laws.StructEq
import Derived.Deep.RegionLaw
import Derived.RegionTactic
import Derived.StillTail
import Derived.Laws.RangeString
import Derived.Laws.RangeAny
import Derived.Shelf.Strings.Builder1
import Derived.Shelf.Strings.OnBuilder
import Derived.Shelf.LaysM
import Derived.Shelf.Strconv.Itoa3
import Derived.Lib.AppendIntMem
import Derived.Lib.ItoaLen
import Derived.RowKit
import Derived.Test.YtggffhmdgceljaaGreatDoorOvaWn
import Derived.Test.YtggffhmdgceljaaGreatDoorOvaWa
import Derived.Test.YtggffhmdgceljaaGreatDoorOvaXn
import Derived.Test.YtggffhmdgceljaaGreatDoorOvaId
import Derived.Test.YtggffhmdgceljaaGreatDoorOvaIi
import Derived.Test.YtggffhmdgceljaaGreatDoorOvaIp
import Derived.Test.YtggffhmdgceljaaGreatDoorOvaIq
import Derived.Test.YtggffhmdgceljaaGreatDoorOvaIs
import Derived.Test.YtggffhmdgceljaaGreatDoorOvaNa
import Derived.Test.YtggffhmdgceljaaGreatDoorOvaNi
import Derived.Test.YtggffhmdgceljaaGreatDoorOvaIx
import Derived.Test.YtggffhmdgceljaaGreatDoorOvaNv
import Derived.Test.YtggffhmdgceljaaGreatDoorOvaWo
import Derived.Test.YtggffhmdgceljaaGreatDoorOvaNo
import Derived.Test.YtggffhmdgceljaaGreatDoorOvaNy
import Derived.Test.YtggffhmdgceljaaGreatDoorOvaAf
import Derived.Test.YtggffhmdgceljaaGreatDoorOvaAh
import Derived.Test.YtggffhmdgceljaaGreatDoorOvaAo
import Derived.Test.YtggffhmdgceljaaGreatDoorOvaAr
import Derived.Test.YtggffhmdgceljaaGreatDoorOvaNp
namespace Go.Proofs.YtggffhmdgceljaaGreatDoor
open Go.RowKit
set_option linter.unusedVariables false
set_option linter.unusedSimpArgs false

theorem firstNZ_cons (a : Int) (l : List Int) : firstNZ (a :: l) = if a = 0 then firstNZ l else a := by
  by_cases h : a = 0 <;> simp [firstNZ, h]
theorem firstNZ_nil : firstNZ [] = 0 := rfl
theorem firstNZ_more {p q r s : Int} (h : firstNZ [p, q, r] ≠ 0) : firstNZ [p, q, r, s] = firstNZ [p, q, r] := by
  rw [firstNZ_cons, firstNZ_cons, firstNZ_cons, firstNZ_nil] at h
  rw [firstNZ_cons, firstNZ_cons, firstNZ_cons, firstNZ_cons, firstNZ_cons, firstNZ_cons, firstNZ_cons, firstNZ_nil]
  by_cases h1 : p = 0
  · by_cases h2 : q = 0
    · by_cases h3 : r = 0
      · simp [h1, h2, h3] at h
      · simp [h1, h2, h3]
    · simp [h1, h2]
  · simp [h1]
theorem firstNZ_deep {p q r s t u : Int} (h : firstNZ [p, firstNZ [q, r]] ≠ 0) : firstNZ [p, q, r, s, t, u] = firstNZ [p, firstNZ [q, r]] := by
  have e : firstNZ [q, r] = if q = 0 then (if r = 0 then 0 else r) else q := by rw [firstNZ_cons, firstNZ_cons, firstNZ_nil]
  have e2 : ∀ k : Int, firstNZ [p, k] = if p = 0 then (if k = 0 then 0 else k) else p := fun k => by rw [firstNZ_cons, firstNZ_cons, firstNZ_nil]
  rw [e, e2] at h ⊢
  rw [firstNZ_cons p, firstNZ_cons q, firstNZ_cons r]
  by_cases h1 : p = 0
  · by_cases h2 : q = 0
    · by_cases h3 : r = 0
      · simp [h1, h2, h3] at h
      · simp [h1, h2, h3]
    · simp [h1, h2]
  · simp [h1]
set_option maxHeartbeats 3200000 in
theorem sunCones_any (x y z num den a b c d i f : Int) (w : World) (hX : AxesIn w) (ht : TabAt w) : Calls Tryz.prog 3 #[.agg #[.int .i64 x, .int .i64 y, .int .i64 z, .int .i64 num, .int .i64 den], .agg #[.int .i64 a, .int .i64 b, .int .i64 c], .agg #[.int .i64 d, .int .i64 i, .int .i64 f]] w (SunPost w) := by
  have KW : Hid (∀ w1 : World, Below w.heap.size w w1 → Calls Tryz.prog 17 #[] w1 fun e w' => e = .returned (.bool true) ∧ Below w1.heap.size w1 w') := Lib.hid fun w1 hb => sunAwake_any w1 (hX.on hb) (ht.on hb)
  have KC := Lib.hid fun w1 => refCheckCone_all x y z num den w1
  have KCp := Lib.hid fun w1 => checkCone_all x y z num den w1
  have KR := Lib.hid fun w1 => refCheckRay_all a b c w1
  have F1 := Lib.hid fun w1 B T h => lawFirst_two (coneErr x y z num den) (rayErr a b c) T B w1 h
  have F2 := Lib.hid fun w1 B T h => refCheckRays_two a b c d i f T B w1 h
  have F3 := Lib.hid fun w1 B T h => lawFirst_two (coneErr x y z num den) (firstNZ [rayErr a b c, rayErr d i f]) T B w1 h
  have key : ∀ (e2 : Int) (i1 m1 : Bool), (∀ w1 : World, Calls Tryz.prog 7 #[.agg #[.int .i64 x, .int .i64 y, .int .i64 z, .int .i64 num, .int .i64 den], .agg #[.int .i64 a, .int .i64 b, .int .i64 c]] w1 fun e w' => e = .returned (.tuple #[.bool i1, .int .i64 (firstNZ [coneErr x y z num den, rayErr a b c])]) ∧ Below w1.heap.size w1 w') →
      (∀ w1 : World, Calls Tryz.prog 8 #[.agg #[.int .i64 x, .int .i64 y, .int .i64 z, .int .i64 num, .int .i64 den], .agg #[.int .i64 a, .int .i64 b, .int .i64 c], .agg #[.int .i64 d, .int .i64 i, .int .i64 f]] w1 fun e w' => e = .returned (.tuple #[.bool m1, .int .i64 e2]) ∧ Below w1.heap.size w1 w') →
      (SCo11 w x y z num den a b c d i f (firstNZ [coneErr x y z num den, rayErr a b c]) (firstNZ [coneErr x y z num den, firstNZ [rayErr a b c, rayErr d i f]]) e2 i1 m1 → SCo4 w x y z num den a b c d i f (firstNZ [coneErr x y z num den, rayErr a b c]) (firstNZ [coneErr x y z num den, firstNZ [rayErr a b c, rayErr d i f]]) e2 i1 m1) →
      Calls Tryz.prog 3 #[.agg #[.int .i64 x, .int .i64 y, .int .i64 z, .int .i64 num, .int .i64 den], .agg #[.int .i64 a, .int .i64 b, .int .i64 c], .agg #[.int .i64 d, .int .i64 i, .int .i64 f]] w (SunPost w) := fun e2 i1 m1 KI KM hh =>
    sco_first w x y z num den a b c d i f _ _ e2 i1 m1 _ _ _ (Lib.hid KI) (Lib.hid KM) KC KR F1 F2 F3 (hh (sco11 w x y z num den a b c d i f _ _ e2 i1 m1 _ KCp KC KW))
  obtain ⟨f1, hf1⟩ : ∃ n, firstNZ [coneErr x y z num den, rayErr a b c] = n := ⟨_, rfl⟩
  obtain ⟨f2, hf2⟩ : ∃ n, firstNZ [coneErr x y z num den, firstNZ [rayErr a b c, rayErr d i f]] = n := ⟨_, rfl⟩
  rw [hf1, hf2] at key
  by_cases h2 : f2 = 0
  · rw [h2] at hf2
    have hc : coneErr x y z num den = 0 := firstNZ_zero hf2 _ (.head _)
    have hr := firstNZ_zero hf2 _ (.tail _ (.head _))
    have ha : rayErr a b c = 0 := firstNZ_zero hr _ (.head _)
    have hd : rayErr d i f = 0 := firstNZ_zero hr _ (.tail _ (.head _))
    have h1 : f1 = 0 := by rw [← hf1, hc, ha]; rfl
    subst h1 h2
    have KI := fun w1 => inside_ok x y z num den a b c hc ha w1
    obtain ⟨hrx, hs⟩ := cone_ok hc
    have KJ := Lib.hid fun w1 => refInside_any x y z num den a b c (ray_ok hrx).2 (ray_ok ha).2 hs w1
    have KT0 := fun w1 => refCheckTurns_ok x y z num den a b c d i f ha hd w1
    obtain ⟨e2, he2⟩ : ∃ n, firstNZ [vectorErrL 256 x y z, vectorErrL 256 a b c, vectorErrL 256 d i f, if oppB a b c d i f = true then 1 else 0] = n := ⟨_, rfl⟩
    rw [he2] at KT0
    have hm : meetsErr x y z num den a b c d i f = firstNZ [vectorErrL 256 x y z, vectorErrL 256 a b c, vectorErrL 256 d i f] := by
      unfold meetsErr
      rw [hc, ha, hd]
      rfl
    by_cases h3 : e2 = 0
    · have hz := firstNZ_zero (he2.trans h3)
      have v1 := hz _ (.head _)
      have v2 := hz _ (.tail _ (.head _))
      have v3 := hz _ (.tail _ (.tail _ (.head _)))
      have v4 := hz _ (.tail _ (.tail _ (.tail _ (.head _))))
      have hb : meetsErr x y z num den a b c d i f = 0 := by rw [hm, v1, v2, v3]; rfl
      have ho : oppB a b c d i f = false := by
        cases h : oppB a b c d i f with
        | false => rfl
        | true => rw [h] at v4; cases v4
      subst h3
      exact key 0 _ _ KI (fun w1 => meets_ok x y z num den a b c d i f hb ho w1) fun hT => sco4_ok w x y z num den a b c d i f 0 0 0 _ _ rfl KJ (sco7_ok w x y z num den a b c d i f 0 0 0 _ _ rfl rfl (Lib.hid KT0) (Lib.hid fun w1 => refMeets_any x y z num den a b c d i f hb w1) hT)
    · have KM : ∀ w1 : World, Calls Tryz.prog 8 #[.agg #[.int .i64 x, .int .i64 y, .int .i64 z, .int .i64 num, .int .i64 den], .agg #[.int .i64 a, .int .i64 b, .int .i64 c], .agg #[.int .i64 d, .int .i64 i, .int .i64 f]] w1 fun e w' => e = .returned (.tuple #[.bool false, .int .i64 e2]) ∧ Below w1.heap.size w1 w' := by
        by_cases hb : meetsErr x y z num den a b c d i f = 0
        · have hz := firstNZ_zero (hm.symm.trans hb)
          have v1 := hz _ (.head _)
          have v2 := hz _ (.tail _ (.head _))
          have v3 := hz _ (.tail _ (.tail _ (.head _)))
          rw [v1, v2, v3] at he2
          cases ho : oppB a b c d i f with
          | false =>
            rw [ho] at he2
            exact absurd he2.symm h3
          | true =>
            rw [ho] at he2
            have e1 : e2 = 1 := he2.symm
            rw [e1]
            exact fun w1 => meets_turned x y z num den a b c d i f hb ho w1
        · have e1 : meetsErr x y z num den a b c d i f = e2 := by
            rw [hm] at hb ⊢
            rw [← he2]
            exact (firstNZ_more hb).symm
          exact fun w1 => meets_bad x y z num den a b c d i f e2 e1 h3 w1
      exact key e2 _ _ KI KM fun hT => sco4_ok w x y z num den a b c d i f 0 0 e2 _ _ rfl KJ (sco7_turn w x y z num den a b c d i f 0 0 e2 _ rfl (beq_eq_false_iff_ne.2 h3) (Lib.hid KT0) hT)
  · have e1 : meetsErr x y z num den a b c d i f = f2 := by
      rw [← hf2] at h2 ⊢
      exact firstNZ_deep h2
    have KM := fun w1 => meets_bad x y z num den a b c d i f f2 e1 h2 w1
    by_cases h1 : f1 = 0
    · rw [h1] at hf1
      have hc : coneErr x y z num den = 0 := firstNZ_zero hf1 _ (.head _)
      have ha : rayErr a b c = 0 := firstNZ_zero hf1 _ (.tail _ (.head _))
      subst h1
      obtain ⟨hrx, hs⟩ := cone_ok hc
      exact key f2 _ _ (fun w1 => inside_ok x y z num den a b c hc ha w1) KM fun hT => sco4_ok w x y z num den a b c d i f 0 f2 f2 _ _ rfl (Lib.hid fun w1 => refInside_any x y z num den a b c (ray_ok hrx).2 (ray_ok ha).2 hs w1) (sco7_bad w x y z num den a b c d i f 0 f2 _ (beq_eq_false_iff_ne.2 h2) hT)
    · have KI := fun w1 => inside_bad x y z num den a b c (by rw [hf1]; exact h1) w1
      rw [hf1] at KI
      exact key f2 _ _ KI KM fun hT => sco4_bad w x y z num den a b c d i f f1 f2 f2 _ _ (beq_eq_false_iff_ne.2 h1) rfl (sco7_bad w x y z num den a b c d i f f1 f2 _ (beq_eq_false_iff_ne.2 h2) hT)
end Go.Proofs.YtggffhmdgceljaaGreatDoor
