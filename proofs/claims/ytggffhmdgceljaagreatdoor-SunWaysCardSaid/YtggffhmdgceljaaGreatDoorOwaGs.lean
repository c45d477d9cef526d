/-
  SunWays holds.
-/
import Derived.Test.YtggffhmdgceljaaGreatDoorRows
import Derived.WalkKit
import Derived.WalkSpells
import Derived.WalkLawsBesides
import Derived.Lib.Hide
import Derived.BigQuiet
import Derived.Deep.QuietTactic
import Derived.Handy
import Derived.Deep.RegionHeld3
import Derived.Deep.RegionWith
import Derived.StillTailTactics
import Derived.RangeFuncNested
import Derived.RangeFuncBound
import Derived.RangeFuncCalls
import Derived.RangeFuncLeaves
import Derived.RangeFuncBox
import Derived.Shelf.Abstract
import Derived.Shelf.RegionOpen
import Derived.OwnWalkIn
import Derived.TacticsInMore
import Derived.LoopNIn
import Derived.LoopIn
import Derived.Maps.AppendAt
import Derived.Test.YtggffhmdgceljaaGreatDoorProg
import Derived.Laws.FloatArith
import Derived.Laws.BitsAllLaws
import Derived.Deep.DeepCutAuto
import Derived.Stop.BytesEq
import Derived.Deep.MidRow
import Derived.Laws.CopyRow
import Derived.WalkMore
import Derived.Deep.DrawnRows
import Derived.Deep.CutBlock
import Derived.Orders
import Derived.LoopTactic
import Derived.Laws.StructEq
import Derived.Deep.RegionLaw
import Derived.RegionTactic
import Derived.StillTail
import Derived.Laws.RangeString
import Derived.Laws.RangeAny
import Derived.Shelf.Strings.Builder1
import Derived.Shelf.Strings.OnBuilder
import Derived.Shelf.LaysM
import Derived.Shelf.Strconv.Itoa3
import Derived.Lib.AppendIntMem
import Derived.Lib.ItoaLen
import Derived.RowKit
import Derived.Test.YtggffhmdgceljaaGreatDoorOwaWa
import Derived.Test.YtggffhmdgceljaaGreatDoorOwaWn
import Derived.Test.YtggffhmdgceljaaGreatDoorOwaXe
import Derived.Test.YtggffhmdgceljaaGreatDoorOwaWi
import Derived.Test.YtggffhmdgceljaaGreatDoorOwaIb
import Derived.Test.YtggffhmdgceljaaGreatDoorOwaId
import Derived.Test.YtggffhmdgceljaaGreatDoorOwaIi
import Derived.Test.YtggffhmdgceljaaGreatDoorOwaIp
import Derived.Test.YtggffhmdgceljaaGreatDoorOwaIq
import Derived.Test.YtggffhmdgceljaaGreatDoorOwaIs
import Derived.Test.YtggffhmdgceljaaGreatDoorOwaNa
import Derived.Test.YtggffhmdgceljaaGreatDoorOwaNi
import Derived.Test.YtggffhmdgceljaaGreatDoorOwaIx
import Derived.Test.YtggffhmdgceljaaGreatDoorOwaNv
import Derived.Test.YtggffhmdgceljaaGreatDoorOwaNx
import Derived.Test.YtggffhmdgceljaaGreatDoorOwaWo
import Derived.Test.YtggffhmdgceljaaGreatDoorOwaNo
import Derived.Test.YtggffhmdgceljaaGreatDoorOwaNy
import Derived.Test.YtggffhmdgceljaaGreatDoorOwaAf
import Derived.Test.YtggffhmdgceljaaGreatDoorOwaAh
import Derived.Test.YtggffhmdgceljaaGreatDoorOwaAo
import Derived.Test.YtggffhmdgceljaaGreatDoorOwaNp
import Derived.Test.YtggffhmdgceljaaGreatDoorOwaIo
import Derived.Test.YtggffhmdgceljaaGreatDoorOwaAd
import Derived.Test.YtggffhmdgceljaaGreatDoorOwaAm
import Derived.Test.YtggffhmdgceljaaGreatDoorOwaGm
import Derived.Test.YtggffhmdgceljaaGreatDoorOwaGq
namespace Go.Proofs.YtggffhmdgceljaaGreatDoor
open Go.RowKit
set_option linter.unusedVariables false
set_option linter.unusedSimpArgs false

/-- An integer of 8 bits without a sign. -/
def U8 (m : Int) : Prop := 0 ≤ m ∧ m ≤ 255
theorem rem13 {p : Int} (h : U8 p) : ∃ j : Nat, p.tmod 13 = (j : Int) ∧ j < 13 := by
  have h1 := h.1
  have e := Int.tmod_eq_emod_of_nonneg (b := 13) h1
  exact ⟨(p.tmod 13).toNat, by omega, by omega⟩
theorem wrap_w {n : Int} (h : -100000 ≤ n ∧ n ≤ 100000) : IntKind.i64.wrap n = n := IntWalk.i64_in _ ⟨by omega, by omega⟩
theorem sum_le {a d : Int} {j k : Nat} (ha : -40 ≤ a ∧ a ≤ 40) (hd : -40 ≤ d ∧ d ≤ 40) (hj : j < 13) (hk : k < 13) : -960 ≤ a * j + d * k ∧ a * j + d * k ≤ 960 := by
  have h1 := mul_abs ha (show -12 ≤ (j : Int) ∧ (j : Int) ≤ 12 by omega)
  have h2 := mul_abs hd (show -12 ≤ (k : Int) ∧ (k : Int) ≤ 12 by omega)
  omega
theorem meetsErr_zero {x y z num den a b c d i f : Int} (hc : coneErr x y z num den = 0) (ha : rayErr a b c = 0) (hd : rayErr d i f = 0) (hx : Turn3 x y z) (ha2 : Turn3 a b c) (hd2 : Turn3 d i f) : meetsErr x y z num den a b c d i f = 0 := by
  obtain ⟨x1, x2, x3⟩ := hx
  obtain ⟨a1, a2, a3⟩ := ha2
  obtain ⟨d1, d2, d3⟩ := hd2
  unfold meetsErr
  rw [hc, ha, hd, vec_in x1 x2 x3, vec_in a1 a2 a3, vec_in d1 d2 d3]
  rfl
theorem tiny_turn {x y z : Int} (h : tinyP x y z) : Turn3 x y z := by
  obtain ⟨_, h1, h2, h3⟩ := h
  exact ⟨by omega, by omega, by omega⟩

section
variable {x y z num den a b c d i f : Int}
/-- What the sum of two multiples is in a round. -/
theorem way_sum (ha : tinyP a b c) (hd : tinyP d i f) (ho : oppB a b c d i f = false) {j k : Nat} (hz : ¬ (j + k = 0)) :
    ¬ (a * j + d * k = 0 ∧ b * j + i * k = 0 ∧ c * j + f * k = 0) := by
  have h := sum_not (s := (j : Int)) (t := (k : Int)) (dir_ok (ray_ok ha.1).1).1 (dir_ok (ray_ok hd.1).1).1 ho (by omega) (by omega) (by omega)
  rw [Int.mul_comm a, Int.mul_comm b, Int.mul_comm c, Int.mul_comm d, Int.mul_comm i, Int.mul_comm f]
  exact h
theorem wayR_of (hc : coneErr x y z num den = 0) (ha : tinyP a b c) (hd : tinyP d i f) (ho : oppB a b c d i f = false) {m : Bool} (hm : meetB x y z num den a b c d i f = m) {j k : Nat} (hj : j < 13) (hk : k < 13) (hz : ¬ (j + k = 0)) :
    WayR a b c d i f x y z num den m j k (a * j) (b * j) (c * j) (d * k) (i * k) (f * k) (a * j + d * k) (b * j + i * k) (c * j + f * k) (insB x y z num den (a * j + d * k) (b * j + i * k) (c * j + f * k)) := by
  have hs := (cone_ok hc).2
  have h0 := way_sum ha hd ho hz
  obtain ⟨ra, a1, a2, a3⟩ := ha
  obtain ⟨rd, d1, d2, d3⟩ := hd
  have s1 := sum_le a1 d1 hj hk
  have s2 := sum_le a2 d2 hj hk
  have s3 := sum_le a3 d3 hj hk
  have hr := ray_in h0 (by omega) (by omega) (by omega)
  refine ⟨Lib.hid fun w1 => refTimes_any a b c j (fit_small (by omega) (by omega)) (fit_small (by omega) (by omega)) (fit_small (by omega) (by omega)) w1, Lib.hid fun w1 => refTimes_any d i f k (fit_small (by omega) (by omega)) (fit_small (by omega) (by omega)) (fit_small (by omega) (by omega)) w1,
    Lib.hid fun w1 => refPlus_any _ _ _ _ _ _ (wrap_w (by omega)) (wrap_w (by omega)) (wrap_w (by omega)) w1, Lib.hid fun w1 => refIsZero_no _ _ _ h0 w1, Lib.hid fun w1 => inside_ok x y z num den _ _ _ hc hr w1, ?_⟩
  cases hi : insB x y z num den (a * j + d * k) (b * j + i * k) (c * j + f * k) with
  | false => rfl
  | true =>
    have h := way_in (x := x) (y := y) (z := z) (num := num) (den := den) (s := (j : Int)) (t := (k : Int)) (by have := hs.2.1; omega) (by have := hs.1.1; omega) (dir_ok (ray_ok ra).1).1 (dir_ok (ray_ok rd).1).1 ho (by omega) (by omega) (by
      rw [Int.mul_comm _ a, Int.mul_comm _ b, Int.mul_comm _ c, Int.mul_comm _ d, Int.mul_comm _ i, Int.mul_comm _ f]
      exact hi)
    rw [hm] at h
    rw [h]
    rfl
end

set_option maxRecDepth 100000 in
set_option maxHeartbeats 3200000 in
/-- SunWays from region 28 on. -/
theorem ways28 (x y z num den a b c d i f p q : Int) (hp : U8 p) (hq : U8 q) (hc : coneErr x y z num den = 0) (hx : tinyP x y z) (ha : tinyP a b c) (hd : tinyP d i f) (ho : oppB a b c d i f = false) (m : Bool) (hm : meetB x y z num den a b c d i f = m) (w : World) (hX : AxesIn w) (ht : TabAt w) :
    SWy28 w x y z num den a b c d i f p q m := by
  have KW : Hid (∀ w1 : World, Below w.heap.size w w1 → Calls Tryz.prog 17 #[] w1 fun e w' => e = .returned (.bool true) ∧ Below w1.heap.size w1 w') := Lib.hid fun w1 hb => sunAwake_any w1 (hX.on hb) (ht.on hb)
  obtain ⟨j, ej, hj⟩ := rem13 hp
  obtain ⟨k, ek, hk⟩ := rem13 hq
  have hp1 := hp.1
  have hp2 := hp.2
  have hq1 := hq.1
  have hq2 := hq.2
  refine sw28 w x y z num den a b c d i f p q j k m (wrap_w (by omega)) (wrap_w (by omega)) ej ek (wrap_w (by omega)) (wrap_w (by omega)) ?_
  by_cases hz : j + k = 0
  · exact sw29_a w x y z num den a b c d i f p q j k m 0 (by rw [show (j : Int) + (k : Int) = 0 by omega]; rfl) rfl KW
  · have e0 : (((j : Int) + (k : Int)) == 0) = false := beq_eq_false_iff_ne.2 (by omega)
    cases m with
    | true => exact sw29_b w x y z num den a b c d i f p q j k _ (wrap_w (by omega)) e0 KW
    | false =>
      refine sw29_c w x y z num den a b c d i f p q j k _ (wrap_w (by omega)) e0 ?_
      have hW := wayR_of hc ha hd ho hm hj hk hz
      have h0 := way_sum ha hd ho hz
      have hs := (cone_ok hc).2
      have s1 := sum_le ha.2.1 hd.2.1 hj hk
      have s2 := sum_le ha.2.2.1 hd.2.2.1 hj hk
      have s3 := sum_le ha.2.2.2 hd.2.2.2 hj hk
      have hr := red_of h0
      have hR := fun w1 => sunReduced_ok (a * j + d * k) (b * j + i * k) (c * j + f * k) (dir_in h0 (by omega) (by omega) (by omega)) w1
      obtain ⟨b1, b2, b3⟩ := red_small (M := 960) hr (by omega) (by omega) (by omega)
      refine sw31 w x y z num den a b c d i f p q j k _ _ _ _ _ _ _ _ _ _ _ _ hW.ta hW.td hW.pl (Lib.hid hR) ?_
      obtain ⟨g, hg, e1, e2, e3⟩ := hr.ex
      have hm0 := hr.nonzero
      generalize (a * j + d * k).tdiv (g3 (a * j + d * k) (b * j + i * k) (c * j + f * k)) = m1 at *
      generalize (b * j + i * k).tdiv (g3 (a * j + d * k) (b * j + i * k) (c * j + f * k)) = m2 at *
      generalize (c * j + f * k).tdiv (g3 (a * j + d * k) (b * j + i * k) (c * j + f * k)) = m3 at *
      obtain ⟨mx, hmm⟩ : ∃ mx, max6 m1 (-m1) m2 (-m2) m3 (-m3) = mx := ⟨_, rfl⟩
      by_cases hgt : 256 < mx
      · exact sw34_a w x y z num den a b c d i f p q m1 m2 m3 (wrap_w (by omega)) (wrap_w (by omega)) (wrap_w (by omega)) mx hmm hgt KW
      · refine sw34_b w x y z num den a b c d i f p q m1 m2 m3 (wrap_w (by omega)) (wrap_w (by omega)) (wrap_w (by omega)) mx hmm hgt ?_
        have hle : Turn3 m1 m2 m3 := by
          unfold max6 at hmm
          exact ⟨by omega, by omega, by omega⟩
        have hrm := ray_in hm0 (by omega) (by omega) (by omega)
        have ha0 := (dir_ok (ray_ok ha.1).1).1
        have hd0 := (dir_ok (ray_ok hd.1).1).1
        have hn := hs.2.1
        have hden := hs.1.1
        have g1 : g * m1 = (j : Int) * a + (k : Int) * d := by rw [← e1, Int.mul_comm a, Int.mul_comm d]
        have g2 : g * m2 = (j : Int) * b + (k : Int) * i := by rw [← e2, Int.mul_comm b, Int.mul_comm i]
        have g3 : g * m3 = (j : Int) * c + (k : Int) * f := by rw [← e3, Int.mul_comm c, Int.mul_comm f]
        have q1 := opp_part ha0 hd0 hm0 ho hg (by omega) (by omega) g1 g2 g3
        have ho2 : oppB d i f a b c = false := by rw [opp_turn]; exact ho
        have f1 : g * m1 = (k : Int) * d + (j : Int) * a := by rw [g1, Int.add_comm]
        have f2 : g * m2 = (k : Int) * i + (j : Int) * b := by rw [g2, Int.add_comm]
        have f3 : g * m3 = (k : Int) * f + (j : Int) * c := by rw [g3, Int.add_comm]
        have q2 := opp_part hd0 ha0 hm0 ho2 hg (by omega) (by omega) f1 f2 f3
        have v1 : meetB x y z num den a b c m1 m2 m3 = false := by
          rw [Bool.eq_false_iff]
          intro h
          have h2 := way_part hn (by omega) ha0 hd0 ho hg (by omega) (by omega) g1 g2 g3 h
          rw [hm] at h2
          cases h2
        have v2 : meetB x y z num den m1 m2 m3 d i f = false := by
          rw [Bool.eq_false_iff]
          intro h
          rw [meet_symm x y z num den d i f m1 m2 m3] at h
          have h2 := way_part hn (by omega) hd0 ha0 ho2 hg (by omega) (by omega) f1 f2 f3 h
          rw [meet_symm x y z num den a b c d i f, hm] at h2
          cases h2
        have Q1 := fun w1 => meets_ok x y z num den a b c m1 m2 m3 (meetsErr_zero hc ha.1 hrm (tiny_turn hx) (tiny_turn ha) hle) q1 w1
        have Q2 := fun w1 => meets_ok x y z num den m1 m2 m3 d i f (meetsErr_zero hc hrm hd.1 (tiny_turn hx) hle (tiny_turn hd)) (by rw [opp_turn]; exact q2) w1
        rw [v1] at Q1
        rw [v2] at Q2
        exact sw36 w x y z num den a b c d i f p q m1 m2 m3 (Lib.hid Q1) (Lib.hid Q2) KW

set_option maxRecDepth 100000 in
set_option maxHeartbeats 3200000 in
theorem sunWays_any (x y z num den a b c d i f p q : Int) (hp : U8 p) (hq : U8 q) (w : World) (hX : AxesIn w) (ht : TabAt w) :
    Calls Tryz.prog 5 #[.agg #[.int .i64 x, .int .i64 y, .int .i64 z, .int .i64 num, .int .i64 den], .agg #[.int .i64 a, .int .i64 b, .int .i64 c, .int .i64 d, .int .i64 i, .int .i64 f], .agg #[.int .u8 p, .int .u8 q]] w (SunPost w) := by
  have KW : Hid (∀ w1 : World, Below w.heap.size w w1 → Calls Tryz.prog 17 #[] w1 fun e w' => e = .returned (.bool true) ∧ Below w1.heap.size w1 w') := Lib.hid fun w1 hb => sunAwake_any w1 (hX.on hb) (ht.on hb)
  have KC := fun w1 => refCheckCone_all x y z num den w1
  by_cases hc : coneErr x y z num den = 0
  rotate_left 1
  · exact sw_no0 w x y z num den a b c d i f p q _ (bne_iff_ne.2 hc) (Lib.hid KC) KW
  rw [hc] at KC
  by_cases hx : tinyP x y z
  rotate_left 1
  · exact sw_no1 w x y z num den a b c d i f p q (Lib.hid KC) (Lib.hid fun w1 => tiny_no _ _ _ hx w1) KW
  have T0 := Lib.hid fun w1 => tiny_yes x y z hx w1
  by_cases ha : tinyP a b c
  rotate_left 1
  · exact sw_no2 w x y z num den a b c d i f p q (Lib.hid KC) T0 (Lib.hid fun w1 => tiny_no _ _ _ ha w1) KW
  have T1 := Lib.hid fun w1 => tiny_yes a b c ha w1
  by_cases hd : tinyP d i f
  rotate_left 1
  · exact sw_no3 w x y z num den a b c d i f p q (Lib.hid KC) T0 T1 (Lib.hid fun w1 => tiny_no _ _ _ hd w1) KW
  have T2 := Lib.hid fun w1 => tiny_yes d i f hd w1
  have KO := fun w1 => refOpposite_ok ha.1 hd.1 w1
  cases ho : oppB a b c d i f with
  | true =>
    rw [ho] at KO
    exact sw_no4 w x y z num den a b c d i f p q (Lib.hid KC) T0 T1 T2 (Lib.hid KO) KW
  | false =>
    rw [ho] at KO
    obtain ⟨r1, r2, r3, s1, s2, s3, hF, KF⟩ := frame_any ha
    have D1 := fun w1 => refCheckDirection_all r1 r2 r3 w1
    rw [hF.dr] at D1
    have D2 := fun w1 => refCheckDirection_all s1 s2 s3 w1
    rw [hF.ds] at D2
    have hra : Ray3 a b c := (ray_ok ha.1).2
    have P1 := fun w1 => refDot_any r1 r2 r3 s1 s2 s3 (fit_small hF.br.1 hF.bs.1) (fit_small hF.br.2.1 hF.bs.2.1) (fit_small hF.br.2.2 hF.bs.2.2) w1
    rw [hF.rs] at P1
    have P2 := fun w1 => refDot_any r1 r2 r3 a b c (fit_small hF.br.1 hra.1) (fit_small hF.br.2.1 hra.2.1) (fit_small hF.br.2.2 hra.2.2) w1
    rw [hF.rp] at P2
    have P3 := fun w1 => refDot_any s1 s2 s3 a b c (fit_small hF.bs.1 hra.1) (fit_small hF.bs.2.1 hra.2.1) (fit_small hF.bs.2.2 hra.2.2) w1
    rw [hF.sp] at P3
    refine sw_first w x y z num den a b c d i f p q (Lib.hid KC) T0 T1 T2 (Lib.hid KO) (sw3 w x y z num den a b c d i f p q r1 r2 r3 s1 s2 s3 (Lib.hid fun w1 hb => KF w1 (hX.on hb).1) (Lib.hid D1) (Lib.hid D2) (Lib.hid P1) (Lib.hid P2) (Lib.hid P3) ?_)
    clear KC T0 T1 T2 KO KF D1 D2 P1 P2 P3 hF KW
    obtain ⟨hrx, hs⟩ := cone_ok hc
    obtain ⟨⟨s1, s2⟩, s3, s4⟩ := hs
    have eh : num.tdiv 2 = num / 2 := Int.tdiv_eq_ediv_of_nonneg s3
    obtain ⟨hf, ehf⟩ : ∃ hf, num.tdiv 2 = hf := ⟨_, rfl⟩
    have hc2 : coneErr x y z hf den = 0 := by
      unfold coneErr
      rw [hrx, show rangeErr den 1 100 = 0 by unfold rangeErr; rw [if_neg (by omega)], show rangeErr hf 0 den = 0 by unfold rangeErr; rw [if_neg (by omega)]]
      rfl
    have ho2 : oppB d i f a b c = false := by rw [opp_turn]; exact ho
    have M1 := fun w1 => meets_ok x y z num den a b c d i f (meetsErr_zero hc ha.1 hd.1 (tiny_turn hx) (tiny_turn ha) (tiny_turn hd)) ho w1
    have M2 := fun w1 => meets_ok x y z num den d i f a b c (meetsErr_zero hc hd.1 ha.1 (tiny_turn hx) (tiny_turn hd) (tiny_turn ha)) ho2 w1
    rw [meet_symm x y z num den a b c d i f] at M2
    have M3 := fun w1 => meets_ok x y z hf den a b c d i f (meetsErr_zero hc2 ha.1 hd.1 (tiny_turn hx) (tiny_turn ha) (tiny_turn hd)) ho w1
    have hless := fun h => meet_less (x := x) (y := y) (z := z) (num := num) (less := hf) (den := den) (a := a) (b := b) (c := c) (d := d) (e := i) (f := f) (by omega) h
    obtain ⟨m, hm⟩ : ∃ m, meetB x y z num den a b c d i f = m := ⟨_, rfl⟩
    obtain ⟨wd, hwd⟩ : ∃ v, meetB x y z hf den a b c d i f = v := ⟨_, rfl⟩
    rw [hm] at M1 M2 hless
    rw [hwd] at M3 hless
    have hT := ways28 x y z num den a b c d i f p q hp hq hc hx ha hd ho m hm w hX ht
    refine sw6 w x y z num den a b c d i f p q hf m wd (by rw [ehf]; exact wrap_w (by omega)) (Lib.hid M1) (Lib.hid M2) (Lib.hid M3) ?_
    have hR := Lib.hid fun j k hj hk hz => (⟨_, _, _, _, _, _, _, _, _, _, wayR_of hc ha hd ho hm hj hk hz⟩ : ∃ a1 a2 a3 d1 d2 d3 t1 t2 t3 ins, WayR a b c d i f x y z num den m j k a1 a2 a3 d1 d2 d3 t1 t2 t3 ins)
    cases m with
    | true =>
      obtain rfl : wd = true := hless rfl
      exact sw11_t w x y z num den a b c d i f p q (sw13_t w x y z num den a b c d i f p q hR hT)
    | false => exact sw11_f w x y z num den a b c d i f p q wd (sw13_f w x y z num den a b c d i f p q hR hT)
end Go.Proofs.YtggffhmdgceljaaGreatDoor
